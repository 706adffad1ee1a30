/-
  What l5Tree of the specification answers: the walk.
  What spec.Print answers: the walk.
  What spec's l4Spec answers: the walk.
-/
import Derived.BigRegion
import Derived.Test.YtjdddblpfbmpaaaGreatClEqModToCountMath
namespace Go.Proofs.YtjdddblpfbmpaaaGreat
set_option maxRecDepth 100000
set_option maxHeartbeats 12800000
open Go.RowKit Go.PlainAid Go.Sort
theorem Tryz.infoInt:(Tryz.prog.info? 3).map (fun i=>(i.zero,i.size,i.bytes))=some (some (.int .i64 0),1,8):=by kernel_rfl
theorem zke (n:Nat):(madeCells #[.int .i64 0] n).toList=zas n (fun _=>0):=by
 rw[toList_madeCells_one]
 unfold zas
 rw[List.map_const',List.length_range]
 rfl
theorem zeF {w:World} {j g n z:Nat} {f:Nat→Nat} (h:w.ownsRow j 3 1 (.slice (some ⟨g,0,none⟩) n z) n (zas n f)) {k:Nat} (A:k<n):w.cell? ⟨g,k,none⟩=some (.int .i64 (f k:Int)):=by
 rw[h.cellAt k (by omega)]
 exact zg0 f A
theorem zg1 {w:World} {z g n A:Nat} {f:Nat→Nat} (h:w.ownsRow z 3 1 (.slice (some ⟨g,0,none⟩) n A) n (zas n f)) (k v:Nat) (H:v=f k+1):(w.setCell ⟨g,k,none⟩ (.int .i64 (v:Int))).ownsRow z 3 1 (.slice (some ⟨g,0,none⟩) n A) n (zas n (zaK f k)):=by
 have:=(h.stored k (.int .i64 (v:Int))).1
 rw[zqB f (zaK f k) v (by rw[zqC,H]) (fun j I=>zqD f I)] at this
 exact this
theorem zfz {w w':World} {j g n z:Nat} {xs:List Value} (h:w.ownsRow j 3 1 (.slice (some ⟨g,0,none⟩) n z) n xs) (H:Below w.heap.size w w'):w'.ownsRow j 3 1 (.slice (some ⟨g,0,none⟩) n z) n xs:=by
 have A:OwnR w j 3 1 ⟨some ⟨g,0,none⟩,z⟩ n xs:=h
 exact A.keep fun k e=>H.block k (A.typed e).2.1
theorem zh9 {w:World} {j g n z:Nat} {xs:List Value} (h:w.ownsRow j 3 1 (.slice (some ⟨g,0,none⟩) n z) n xs):j≤g∧g<w.heap.size:=by
 have A:OwnR w j 3 1 ⟨some ⟨g,0,none⟩,z⟩ n xs:=h
 exact⟨(A.typed rfl).1,(A.typed rfl).2.1⟩
theorem zg2 {w:World} {j g k:Nat} {S:Sv} {m:Md} {u:Value} (h:OwnMd w j S m) (O: ∀b,w.heap[g]? =some b→∃H,b= .cells H 3 (0,0)):OwnMd (w.setCell ⟨g,k,none⟩ u) j S m:=by
 have I: ∀(e:TypeId) (z n:Nat) (r:Rw) (J:List Value),OwnR w j e z r n J→e≠3→OwnR (w.setCell ⟨g,k,none⟩ u) j e z r n J:=fun e z n r J h L=>h.keep fun b N=>Below.heap_setCell w ⟨g,k,none⟩ u b (fun M=>by
  obtain⟨_,_,c,U⟩:=h.typed N
  obtain⟨H,A⟩:=O _ (by rw[←show b=g from M];exact U)
  simp only[Obj.cells.injEq] at A
  exact L A.2.1)
 exact⟨I _ _ _ _ _ h.rq (by decide),I _ _ _ _ _ h.im (by decide),I _ _ _ _ _ h.ep (by decide),I _ _ _ _ _ h.st (by decide),I _ _ _ _ _ h.ex (by decide)⟩
def cE (ex:List Ex) (j:Nat):Nat→Nat:=fun k=>zat (ex.take j) (k:Int)
theorem OwnMd.drewI {w:World} {j:Nat} {S:Sv} {m:Md} (h:OwnMd w j S m):OwnMd w.drew j S m:=⟨h.rq,h.im,h.ep,h.st,h.ex⟩
def cS (m:Md) (j:Nat):Nat→Nat:=fun k=>zat m.ex (k:Int)+zaN (m.st.take j) (k:Int)
def zg3 (m:Md) (e:Ending):Prop:=∃b,e= .returned (.bool b)∧(b=true↔Tree m)
theorem zcQ {m:Md} (h: ¬Tree m):zg3 m (.returned (.bool false)):=⟨false,rfl,⟨(fun k=>by cases k),fun t=>absurd t h⟩⟩
theorem zkf {m:Md} (h:Tree m):zg3 m (.returned (.bool true)):=⟨true,rfl,⟨fun _=>h,fun _=>rfl⟩⟩
theorem zg4 {w:World} {j g n z:Nat} {xs:List Value} (h:w.ownsRow j 3 1 (.slice (some ⟨g,0,none⟩) n z) n xs): ∀b,w.heap[g]? =some b→∃A,b= .cells A 3 (0,0):=by
 have I:OwnR w j 3 1 ⟨some ⟨g,0,none⟩,z⟩ n xs:=h
 obtain⟨_,_,c,J⟩:=I.typed rfl
 intro b H
 rw[J] at H
 exact⟨c,(Option.some.inj H).symm⟩
theorem zqE (z:Nat) (S:Sv) (m:Md) (w:World) (h:OwnMd w z S m) (hl:m.ex.length≤4294967296) (hs:m.st.length≤4294967296):
  Calls Tryz.prog 80 #[zh S m] w fun e w'=>zg3 m e∧Below w.heap.size w w':=by
 obtain⟨i0,hi,aO,aY,aV⟩:=info_parts Tryz.infoInt
 have HH:=zc h
 clear h
 unfold zh
 go_enter Tryz.func80,Tryz.ntmps80
 go_wp2_with (first|(at_make;refine wpList_make_full _ rfl _ _ 152 rfl (w.heap.size+1) 3 i0 (.int .i64 0) 1 Tryz.underlying152 hi aO aY .i64 .i64 _ _ m.ex.length (by rfl) (by rfl) rfl rfl (by rw[aV];omega) (by unfold maxLen;omega) (by rw[zn];omega) ?_))
 intro w1 af aa
 rw[zke] at af
 have bb:Below (w.heap.size+1) (w.alloc _) w1:=⟨aa.os,aa.tape,aa.output,aa.size,fun k hk=>aa.block k (by rw[zn];exact hk) (by simp)⟩
 have aF:Hid (Below w.heap.size w w1):=((Below.refl _ _).alloc (Nat.le_refl _) _).trans (bb.mono (by omega))
 have aE:Hid (w1.heap[w.heap.size]? =some (.cells #[.slice S.rq.a m.rq.length S.rq.cap,.slice S.im.a m.im.length S.im.cap,.slice S.ep.a m.ep.length S.ep.cap,.slice S.st.a m.st.length S.st.cap,.slice S.ex.a m.ex.length S.ex.cap] 36 (0,0))):=(bb.block _ (by omega)).trans (heap_alloc_new w _)
 have aN:=zc (HH.out.later aF.out)
 have aQ:Hid (w1.ownsRow (w.heap.size+1) 3 1 (.slice (some ⟨w.heap.size+1,0,none⟩) m.ex.length m.ex.length) m.ex.length (zas m.ex.length (cE m.ex 0))):=by show World.ownsRow _ _ _ _ _ _ _;rw[show zas m.ex.length (cE m.ex 0)=zas m.ex.length (fun _=>0) from zef fun k _=>by simp[cE,zat]];exact af
 clear af aa bb
 obtain⟨c0,c1,c2,c3,c4,cf⟩:=zg aE.out
 go_wp2
 go_loopg [4] m.ex.length (fun k i wr=>∃j:Nat,i= .int .i64 j∧j+k=m.ex.length∧AheadTo m.ex j∧wr.ownsRow (w.heap.size+1) 3 1 (.slice (some ⟨w.heap.size+1,0,none⟩) m.ex.length m.ex.length) m.ex.length (zas m.ex.length (cE m.ex j))∧OwnMd wr z S m∧wr.heap[w.heap.size]? =some (.cells #[.slice S.rq.a m.rq.length S.rq.cap,.slice S.im.a m.im.length S.im.cap,.slice S.ep.a m.ep.length S.ep.cap,.slice S.st.a m.st.length S.st.cap,.slice S.ex.a m.ex.length S.ex.cap] 36 (0,0))∧Below w.heap.size w wr)
 case atStart=>exact⟨0,rfl,by omega,fun i x hi=>absurd hi (Nat.not_lt_zero i),aQ.out,aN.out,aE.out,aF.out⟩
 case round=>
  obtain⟨j,rfl,hj,ah,H,Y,Z,N⟩:=hrel
  have AH:=zc ah
  have HN:=zc H
  have HO:=zc Y
  have HX:=zc Z
  have HB:=zc N
  clear ah H Y Z N
  clear c0 c1 c2 c3 c4 cf
  obtain⟨c0,c1,c2,c3,c4,cf⟩:=zg HX.out
  have am:=(Array.getElem?_eq_some_iff.1 HX.out).1
  by_cases I:j<m.ex.length
  ·have aD:(j:Int)<(m.ex.length:Int):=by omega
   obtain⟨g,hg,bl,x0,x1,x2,x3,x4,x5⟩:=HO.out.expr I
   rw[hg] at c4
   clear hg
   have aC:=zc (zdM I)
   obtain⟨x,ao⟩: ∃x,m.ex.getD j zj=x:=⟨_,rfl⟩
   rw[ao] at x0 x1 x2 x3 x4 x5
   have U:Hid (m.ex[j]=x):=aC.out.symm.trans ao
   clear ao aC
   obtain⟨O,L⟩: ∃O,O=j+1:=⟨_,rfl⟩
   have ej:(j:Int)+1=(O:Int):=by omega
   have HJ:=zc L
   clear L
   have HW:Hid (Below wr.heap.size wr (wr.alloc (.cells #[.int .i64 x.kind,.int .i64 x.num,.string x.name,.string x.field,.int .i64 x.l,.int .i64 x.r] 109))):=(Below.refl _ _).alloc (Nat.le_refl _) _
   go_wp2_with fail
   refine (zjU x.kind _).mono ?_
   rintro e w2 ⟨rfl,hw⟩
   rw[hw]
   clear hw w2
   cases ht:zaa x.kind with
   |false=>
    go_wp2
    go_roundg (gk-1)
    case rel=>exact⟨O,rfl,by have:=HJ.out;omega,by rw[HJ.out];exact AH.out.next I (fun k=>by rw[U.out,ht] at k;cases k),by rw[HJ.out,show zas m.ex.length (cE m.ex (j+1))=zas m.ex.length (cE m.ex j) from zef fun k _=>(zkc I (by rw[U.out];exact ht) k).symm];exact zfz HN.out HW.out,HO.out.later HW.out,(HW.out.block _ am).trans HX.out,HB.out.trans (HW.out.mono HB.out.size)⟩
    case measure=>omega
   |true=>
    by_cases a1:x.l<0
    ·have ae:decide (x.l<0)=true:=decide_eq_true a1
     go_wp2
     go_ret
     exact⟨zcQ (fun (t:Tree m)=>absurd t.ahead (AheadTo.not I (by rw[U.out];exact ht) (by rw[U.out];omega))),HB.out.trans (HW.out.mono HB.out.size)⟩
    have ae:decide (x.l<0)=false:=decide_eq_false a1
    by_cases a2:(j:Int)≤x.l
    ·have ai:decide ((j:Int)≤x.l)=true:=decide_eq_true a2
     go_wp2
     go_ret
     exact⟨zcQ (fun (t:Tree m)=>absurd t.ahead (AheadTo.not I (by rw[U.out];exact ht) (by rw[U.out];omega))),HB.out.trans (HW.out.mono HB.out.size)⟩
    have ai:decide ((j:Int)≤x.l)=false:=decide_eq_false a2
    by_cases a3:x.r<0
    ·have aG:decide (x.r<0)=true:=decide_eq_true a3
     go_wp2
     go_ret
     exact⟨zcQ (fun (t:Tree m)=>absurd t.ahead (AheadTo.not I (by rw[U.out];exact ht) (by rw[U.out];omega))),HB.out.trans (HW.out.mono HB.out.size)⟩
    have aG:decide (x.r<0)=false:=decide_eq_false a3
    by_cases a4:(j:Int)≤x.r
    ·have aJ:decide ((j:Int)≤x.r)=true:=decide_eq_true a4
     go_wp2
     go_ret
     exact⟨zcQ (fun (t:Tree m)=>absurd t.ahead (AheadTo.not I (by rw[U.out];exact ht) (by rw[U.out];omega))),HB.out.trans (HW.out.mono HB.out.size)⟩
    have aJ:decide ((j:Int)≤x.r)=false:=decide_eq_false a4
    go_wp2_with fail
    obtain⟨A,ac⟩: ∃A:Nat,x.l=(A:Int):=⟨x.l.toNat,by omega⟩
    obtain⟨J,ab⟩: ∃J:Nat,x.r=(J:Int):=⟨x.r.toNat,by omega⟩
    have bv:A<m.ex.length:=by omega
    have bn:J<m.ex.length:=by omega
    have a6:(A:Int)<(m.ex.length:Int):=by omega
    have a8:(J:Int)<(m.ex.length:Int):=by omega
    have aP:Hid (AheadTo m.ex (j+1)):=AH.out.next I (fun _=>by rw[U.out];omega)
    have HU:Hid (∀k:Nat,zaK (zaK (cE m.ex j) A) J k=cE m.ex (j+1) k):=fun k=>by have:=zkb I (by rw[U.out];exact ht) (by rw[U.out];omega) (by rw[U.out];omega) k;rw[U.out,ac,ab] at this;exact this
    have aH:=zgz (m.ex.take j)
    have a5:(m.ex.take j).length≤4294967296:=by rw[List.length_take];omega
    have bg:=(zh9 HN.out).2
    refine zV (R:=fun W=>W.heap[wr.heap.size]? =some (.cells #[.int .i64 x.kind,.int .i64 x.num,.string x.name,.string x.field,.int .i64 (A:Int),.int .i64 (J:Int)] 109 (0,0))∧W.ownsRow (w.heap.size+1) 3 1 (.slice (some ⟨w.heap.size+1,0,none⟩) m.ex.length m.ex.length) m.ex.length (zas m.ex.length (cE m.ex j))∧OwnMd W z S m∧W.heap[w.heap.size]? =some (.cells #[.slice S.rq.a m.rq.length S.rq.cap,.slice S.im.a m.im.length S.im.cap,.slice S.ep.a m.ep.length S.ep.cap,.slice S.st.a m.st.length S.st.cap,.slice S.ex.a m.ex.length S.ex.cap] 36 (0,0))∧Below w.heap.size w W) ⟨by have:=heap_alloc_new wr (.cells #[.int .i64 x.kind,.int .i64 x.num,.string x.name,.string x.field,.int .i64 x.l,.int .i64 x.r] 109);rw[ac,ab] at this;rw[ac,ab];exact this,zfz HN.out HW.out,HO.out.later HW.out,(HW.out.block _ am).trans HX.out,HB.out.trans (HW.out.mono HB.out.size)⟩ ?_
    have bp:=zc ac
    have bh:=zc ab
    clear ac ab ae ai aG aJ a1 a2 a3 a4
    rintro W ⟨xb,H,Y,Z,N⟩
    have bm:=zc xb
    have bo:=zc H
    have bi:=zc Y
    have bq:=zc Z
    have bu:=zc N
    obtain⟨s0,s1,s2,s3,s4,s5,sf⟩:=zy xb
    obtain⟨va,ak⟩: ∃v,(cE m.ex j) A=v:=⟨_,rfl⟩
    have ea:=zeF H (k:=A) (by omega)
    have ef:=H.frozenAt
    rw[ak] at ea
    have bc:va≤17179869184:=by rw[←ak];have:=aH (A:Int);unfold cE;omega
    obtain⟨ua,ay⟩: ∃u,u=va+1:=⟨_,rfl⟩
    have bs:(va:Int)+1=(ua:Int):=by omega
    have ba:IntKind.i64.wrap (ua:Int)=(ua:Int):=IntWalk.i64_in _ ⟨by omega,by omega⟩
    have aS:Hid ((W.setCell ⟨w.heap.size+1,A,none⟩ (.int .i64 (ua:Int))).ownsRow (w.heap.size+1) 3 1 (.slice (some ⟨w.heap.size+1,0,none⟩) m.ex.length m.ex.length) m.ex.length (zas m.ex.length (zaK (cE m.ex j) A))):=zg1 H A ua (by rw[ay,ak])
    have aZ:Hid (OwnMd (W.setCell ⟨w.heap.size+1,A,none⟩ (.int .i64 (ua:Int))) z S m):=zg2 Y (zg4 H)
    have aR:Hid ((W.setCell ⟨w.heap.size+1,A,none⟩ (.int .i64 (ua:Int))).heap[w.heap.size]? =some (.cells #[.slice S.rq.a m.rq.length S.rq.cap,.slice S.im.a m.im.length S.im.cap,.slice S.ep.a m.ep.length S.ep.cap,.slice S.st.a m.st.length S.st.cap,.slice S.ex.a m.ex.length S.ex.cap] 36 (0,0))):=(zx (by omega)).trans Z
    have aX:Hid (Below w.heap.size w (W.setCell ⟨w.heap.size+1,A,none⟩ (.int .i64 (ua:Int)))):=N.setCell (Nat.le_succ _) _
    have a0:Hid ((W.setCell ⟨w.heap.size+1,A,none⟩ (.int .i64 (ua:Int))).heap[wr.heap.size]? =some (.cells #[.int .i64 x.kind,.int .i64 x.num,.string x.name,.string x.field,.int .i64 (A:Int),.int .i64 (J:Int)] 109 (0,0))):=(zx (by omega)).trans xb
    clear xb H Y Z N ak ay
    go_region
    clear s0 s1 s2 s3 s4 s5 sf ef ea
    go_wp2_with fail
    refine zV (R:=fun W=>W.heap[wr.heap.size]? =some (.cells #[.int .i64 x.kind,.int .i64 x.num,.string x.name,.string x.field,.int .i64 (A:Int),.int .i64 (J:Int)] 109 (0,0))∧W.ownsRow (w.heap.size+1) 3 1 (.slice (some ⟨w.heap.size+1,0,none⟩) m.ex.length m.ex.length) m.ex.length (zas m.ex.length (zaK (cE m.ex j) A))∧OwnMd W z S m∧W.heap[w.heap.size]? =some (.cells #[.slice S.rq.a m.rq.length S.rq.cap,.slice S.im.a m.im.length S.im.cap,.slice S.ep.a m.ep.length S.ep.cap,.slice S.st.a m.st.length S.st.cap,.slice S.ex.a m.ex.length S.ex.cap] 36 (0,0))∧Below w.heap.size w W) ⟨a0.out,aS.out,aZ.out.drewI,aR.out,aX.out.drew⟩ ?_
    rintro V ⟨xb,H,Y,Z,N⟩
    have bx:=zc xb
    have br:=zc H
    have bf:=zc Y
    have bw:=zc Z
    have bj:=zc N
    obtain⟨s0,s1,s2,s3,s4,s5,sf⟩:=zy xb
    obtain⟨vb,ag⟩: ∃v,(zaK (cE m.ex j) A) J=v:=⟨_,rfl⟩
    have eb:=zeF H (k:=J) (by omega)
    have ef:=H.frozenAt
    rw[ag] at eb
    have a7:vb≤17179869184:=by rw[←ag];have:=aH (J:Int);unfold zaK cE;split<;>omega
    obtain⟨ub,ap⟩: ∃u,u=vb+1:=⟨_,rfl⟩
    have bk:(vb:Int)+1=(ub:Int):=by omega
    have a9:IntKind.i64.wrap (ub:Int)=(ub:Int):=IntWalk.i64_in _ ⟨by omega,by omega⟩
    have aM:Hid ((V.setCell ⟨w.heap.size+1,J,none⟩ (.int .i64 (ub:Int))).ownsRow (w.heap.size+1) 3 1 (.slice (some ⟨w.heap.size+1,0,none⟩) m.ex.length m.ex.length) m.ex.length (zas m.ex.length (zaK (zaK (cE m.ex j) A) J))):=zg1 H J ub (by rw[ap,ag])
    have aU:Hid (OwnMd (V.setCell ⟨w.heap.size+1,J,none⟩ (.int .i64 (ub:Int))) z S m):=zg2 Y (zg4 H)
    have aL:Hid ((V.setCell ⟨w.heap.size+1,J,none⟩ (.int .i64 (ub:Int))).heap[w.heap.size]? =some (.cells #[.slice S.rq.a m.rq.length S.rq.cap,.slice S.im.a m.im.length S.im.cap,.slice S.ep.a m.ep.length S.ep.cap,.slice S.st.a m.st.length S.st.cap,.slice S.ex.a m.ex.length S.ex.cap] 36 (0,0))):=(zx (by omega)).trans Z
    have aW:Hid (Below w.heap.size w (V.setCell ⟨w.heap.size+1,J,none⟩ (.int .i64 (ub:Int)))):=N.setCell (Nat.le_succ _) _
    have bt:Hid ((V.setCell ⟨w.heap.size+1,J,none⟩ (.int .i64 (ub:Int))).heap[wr.heap.size]? =some (.cells #[.int .i64 x.kind,.int .i64 x.num,.string x.name,.string x.field,.int .i64 (A:Int),.int .i64 (J:Int)] 109 (0,0))):=(zx (by omega)).trans xb
    clear xb H Y Z N ag ap
    go_region
    clear s0 s1 s2 s3 s4 s5 sf ef eb
    go_wp2
    go_roundg (gk-1)
    case rel=>exact⟨O,rfl,by have:=HJ.out;omega,by rw[HJ.out];exact aP.out,by rw[HJ.out,←zef fun k _=>HU.out k];exact aM.out,aU.out.drewI,aL.out,aW.out.drew⟩
    case measure=>omega
  ·have aD: ¬(j:Int)<(m.ex.length:Int):=by omega
   obtain rfl:j=m.ex.length:=by omega
   have HA:=zc AH.out.all
   have HC:Hid (wr.ownsRow (w.heap.size+1) 3 1 (.slice (some ⟨w.heap.size+1,0,none⟩) m.ex.length m.ex.length) m.ex.length (zas m.ex.length (cS m 0))):=by show World.ownsRow _ _ _ _ _ _ _;rw[show zas m.ex.length (cS m 0)=zas m.ex.length (cE m.ex m.ex.length) from zef fun k _=>by simp[cE,cS,zaN]];exact HN.out
   go_wp2
   go_loopg [6] m.st.length (fun k i wr=>∃j:Nat,i= .int .i64 j∧j+k=m.st.length∧(∀s∈m.st.take j,0≤s.expr∧s.expr<(m.ex.length:Int))∧wr.ownsRow (w.heap.size+1) 3 1 (.slice (some ⟨w.heap.size+1,0,none⟩) m.ex.length m.ex.length) m.ex.length (zas m.ex.length (cS m j))∧OwnMd wr z S m∧wr.heap[w.heap.size]? =some (.cells #[.slice S.rq.a m.rq.length S.rq.cap,.slice S.im.a m.im.length S.im.cap,.slice S.ep.a m.ep.length S.ep.cap,.slice S.st.a m.st.length S.st.cap,.slice S.ex.a m.ex.length S.ex.cap] 36 (0,0))∧Below w.heap.size w wr)
   case atStart=>exact⟨0,rfl,by omega,(fun s hs=>by simp at hs),HC.out,HO.out,HX.out,HB.out⟩
   case round=>
    obtain⟨j,rfl,bA,ah,H,Y,Z,N⟩:=hrel
    have AS:=zc ah
    have ad:=zc H
    have aA:=zc Y
    have aI:=zc Z
    have aj:=zc N
    clear ah H Y Z N c0 c1 c2 c3 c4 cf
    obtain⟨c0,c1,c2,c3,c4,cf⟩:=zg aI.out
    by_cases M:j<m.st.length
    ·have ar:(j:Int)<(m.st.length:Int):=by omega
     obtain⟨s,ax⟩: ∃s,m.st[j]? =some s:=⟨_,List.getElem?_eq_getElem M⟩
     obtain⟨g,hg,aK⟩:=OwnR.elem (f:=smL) (m:=3) (fun _=>rfl) aA.out.st ax
     have k2:=aK 2 (by omega)
     simp only[smL,List.getElem?_cons_zero,List.getElem?_cons_succ] at k2
     rw[hg] at c3
     obtain⟨_,al⟩:=List.getElem?_eq_some_iff.1 ax
     have HS:Hid (m.st[j]=s):=al
     clear hg aK ax al
     obtain⟨O,L⟩: ∃O,O=j+1:=⟨_,rfl⟩
     have ej:(j:Int)+1=(O:Int):=by omega
     have HJ:=zc L
     clear L
     by_cases a1:s.expr<0
     ·have ae:decide (s.expr<0)=true:=decide_eq_true a1
      go_wp2
      go_ret
      exact⟨zcQ (fun (t:Tree m)=>by have:=t.stm _ (List.getElem_mem M);rw[HS.out] at this;omega),aj.out⟩
     have ae:decide (s.expr<0)=false:=decide_eq_false a1
     by_cases a2:(m.ex.length:Int)≤s.expr
     ·have ai:decide ((m.ex.length:Int)≤s.expr)=true:=decide_eq_true a2
      go_wp2
      go_ret
      exact⟨zcQ (fun (t:Tree m)=>by have:=t.stm _ (List.getElem_mem M);rw[HS.out] at this;omega),aj.out⟩
     have ai:decide ((m.ex.length:Int)≤s.expr)=false:=decide_eq_false a2
     obtain⟨X,av⟩: ∃X:Nat,s.expr=(X:Int):=⟨s.expr.toNat,by omega⟩
     have aT:X<m.ex.length:=by omega
     have be:(X:Int)<(m.ex.length:Int):=by omega
     have aw:Hid (∀s∈m.st.take (j+1),0≤s.expr∧s.expr<(m.ex.length:Int)):=by
      intro y hy
      rw[List.take_succ_eq_append_getElem M,List.mem_append] at hy
      rcases hy with hy|hy
      ·exact AS.out y hy
      ·simp only[List.mem_singleton] at hy
       rw[hy,HS.out]
       omega
     have HU:Hid (∀k:Nat,zaK (cS m j) X k=cS m (j+1) k):=fun k=>by have:=zkd (ex:=m.ex) M (by rw[HS.out];omega) k;rw[HS.out,av] at this;exact this
     rw[av] at k2 a1 a2 ae ai
     obtain⟨v,hv⟩: ∃v,cS m j X=v:=⟨_,rfl⟩
     have ea:=zeF ad.out aT
     have ef:=ad.out.frozenAt
     rw[hv] at ea
     have ag:v≤17179869184:=by rw[←hv];unfold cS;have:=zgz m.ex (X:Int);have:=zka (m.st.take j) (X:Int);rw[List.length_take] at this;omega
     obtain⟨u,hu⟩: ∃u,u=v+1:=⟨_,rfl⟩
     have ev:(v:Int)+1=(u:Int):=by omega
     have ap:u≤17179869185:=by omega
     have NN:Hid ((wr.setCell ⟨w.heap.size+1,X,none⟩ (.int .i64 (u:Int))).ownsRow (w.heap.size+1) 3 1 (.slice (some ⟨w.heap.size+1,0,none⟩) m.ex.length m.ex.length) m.ex.length (zas m.ex.length (zaK (cS m j) X))):=zg1 ad.out X u (by rw[hu,hv])
     have NO:Hid (OwnMd (wr.setCell ⟨w.heap.size+1,X,none⟩ (.int .i64 (u:Int))) z S m):=zg2 aA.out (zg4 ad.out)
     have NX:Hid ((wr.setCell ⟨w.heap.size+1,X,none⟩ (.int .i64 (u:Int))).heap[w.heap.size]? =some (.cells #[.slice S.rq.a m.rq.length S.rq.cap,.slice S.im.a m.im.length S.im.cap,.slice S.ep.a m.ep.length S.ep.cap,.slice S.st.a m.st.length S.st.cap,.slice S.ex.a m.ex.length S.ex.cap] 36 (0,0))):=(zx (by omega)).trans aI.out
     have NB:Hid (Below w.heap.size w (wr.setCell ⟨w.heap.size+1,X,none⟩ (.int .i64 (u:Int)))):=aj.out.setCell (Nat.le_succ _) _
     clear av hv hu
     go_wp2
     go_roundg (gk-1)
     case rel=>exact⟨O,rfl,by have:=HJ.out;omega,by rw[HJ.out];exact aw.out,by rw[HJ.out,←zef fun k _=>HU.out k];exact NN.out,NO.out,NX.out,NB.out⟩
     case measure=>omega
    ·have ar: ¬(j:Int)<(m.st.length:Int):=by omega
     obtain rfl:j=m.st.length:=by omega
     have aw:Hid (∀s∈m.st,0≤s.expr∧s.expr<(m.ex.length:Int)):=by have:=AS.out;rw[List.take_length] at this;exact this
     go_wp2
     go_loopg [8] m.ex.length (fun k i wr=>∃j:Nat,i= .int .i64 j∧j+k=m.ex.length∧(∀k,k<j→cS m m.st.length k=1)∧wr.ownsRow (w.heap.size+1) 3 1 (.slice (some ⟨w.heap.size+1,0,none⟩) m.ex.length m.ex.length) m.ex.length (zas m.ex.length (cS m m.st.length))∧Below w.heap.size w wr)
     case atStart=>exact⟨0,rfl,by omega,fun k hk=>absurd hk (Nat.not_lt_zero k),ad.out,aj.out⟩
     case round=>
      obtain⟨j,rfl,bz,ah,H,N⟩:=hrel
      have AC:=zc ah
      have aB:=zc H
      have aq:=zc N
      clear ah H N c0 c1 c2 c3 c4 cf
      by_cases an:j<m.ex.length
      ·have au:(j:Int)<(m.ex.length:Int):=by omega
       obtain⟨v,hv⟩: ∃v,cS m m.st.length j=v:=⟨_,rfl⟩
       have ea:=zeF aB.out an
       rw[hv] at ea
       have HV:=zc hv
       clear hv
       obtain⟨O,L⟩: ∃O,O=j+1:=⟨_,rfl⟩
       have ej:(j:Int)+1=(O:Int):=by omega
       have HJ:=zc L
       clear L
       by_cases az:v=1
       ·subst az
        go_wp2
        go_roundg (gk-1)
        case rel=>exact⟨O,rfl,by have:=HJ.out;omega,(fun k hk=>(Nat.lt_or_eq_of_le (show k≤j by have:=HJ.out;omega)).elim (AC.out k) (fun e=>by rw[e];exact HV.out)),aB.out,aq.out⟩
        case measure=>omega
       ·have dv:((v:Int) !=1)=true:=by rw[bne_iff_ne];omega
        go_wp2
        go_ret
        exact⟨zcQ (fun (t:Tree m)=>absurd (by have:=t.once j an;have h2:=HV.out;unfold cS at h2;rw[List.take_length] at h2;omega) az),aq.out⟩
      ·have au: ¬(j:Int)<(m.ex.length:Int):=by omega
       go_wp2
       go_ret
       exact⟨zkf ⟨HA.out,aw.out,fun k hk=>by have:=AC.out k (by omega);unfold cS at this;rw[List.take_length] at this;exact this⟩,aq.out⟩
theorem zg5 {α:Type} {l:List α} {j:Nat} (h:j<l.length): ∃x,l[j]? =some x:=⟨_,List.getElem?_eq_getElem h⟩
theorem zqF (t:ByteArray):t++sNone=t:=by
 cases t with
 |mk d=>
  show ByteArray.append _ _=_
  simp[ByteArray.append]
theorem zqG (m:Md):(acc (stF m.ex) m.st (zce m)).size≤(zbY m).size:=Nat.le_refl _
theorem zkg (m:Md):(acc epF m.ep (acc zad m.im (acc rqT m.rq sNone))).size≤(zbY m).size:=zdV _ _ _
theorem zkh (m:Md):(acc zad m.im (acc rqT m.rq sNone)).size≤(zbY m).size:=Nat.le_trans (zdV _ _ _) (zkg m)
theorem zqH (m:Md):(acc rqT m.rq sNone).size≤(zbY m).size:=Nat.le_trans (zdV _ _ _) (zkh m)
theorem zqI (k:Int) (n e:ByteArray):e.size≤(za7 k n e).size:=by
 unfold za7
 repeat (first|split|(simp only[ByteArray.size_append];omega))
theorem zqJ (Y:Nat) (S:Sv) (m:Md) (aA:Bool) (w:World) (h:OwnMd w Y S m) (hm:Small m) (an:Tree m→(zbY m).size≤1099511627776):
  Calls Tryz.prog 33 #[zh S m,.bool aA] w fun e w'=>PrintOut (zbY m) m e∧Below w.heap.size w w':=by
 have HH:=zc h
 have SM:=zc hm
 have HU:=zc an
 obtain⟨f1,f2,f3,f4,f5⟩:=hm.few
 clear h hm an
 unfold zh
 go_enter Tryz.func33,Tryz.ntmps33
 go_wp2_with fail
 refine (zqE Y S m _ (HH.out.alloc _) f5 f4).mono ?_
 rintro e w1 ⟨⟨b,rfl,M⟩,ah⟩
 have HT:=zc M
 have ak:Hid (Below w.heap.size w w1):=((Below.refl _ _).alloc (Nat.le_refl _) _).trans (ah.mono (by rw[zn];omega))
 have ao:Hid (w1.heap[w.heap.size]? =some (.cells #[.slice S.rq.a m.rq.length S.rq.cap,.slice S.im.a m.im.length S.im.cap,.slice S.ep.a m.ep.length S.ep.cap,.slice S.st.a m.st.length S.st.cap,.slice S.ex.a m.ex.length S.ex.cap] 36 (0,0))):=(ah.block _ (by rw[zn];omega)).trans (heap_alloc_new w _)
 have au:=zc (HH.out.later ak.out)
 clear M ah
 obtain⟨c0,c1,c2,c3,c4,cf⟩:=zg ao.out
 cases b with
 |false=>
  go_wp2
  go_ret
  exact⟨.inr ⟨(fun t=>by have:=HT.out.2 t;cases this),rfl⟩,ak.out⟩
 |true=>
  have TR:=zc (HT.out.1 rfl)
  have HZ:=zc (HU.out TR.out)
  go_wp2
  go_loopg [5,6] m.rq.length (fun k t i wr=>∃(j:Nat) (L:ByteArray),i= .int .i64 j∧t= .string L∧j+k=m.rq.length∧L=acc rqT (m.rq.take j) sNone∧OwnMd wr Y S m∧wr.heap[w.heap.size]? =some (.cells #[.slice S.rq.a m.rq.length S.rq.cap,.slice S.im.a m.im.length S.im.cap,.slice S.ep.a m.ep.length S.ep.cap,.slice S.st.a m.st.length S.st.cap,.slice S.ex.a m.ex.length S.ex.cap] 36 (0,0))∧Below w.heap.size w wr)
  case atStart=>exact⟨0,_,rfl,rfl,by omega,rfl,au.out,ao.out,ak.out⟩
  case round=>
   obtain⟨j,L,rfl,rfl,hj,U,ho,hx,M⟩:=hrel
   have z:=zc U
   have HO:=zc ho
   have HX:=zc hx
   have HB:=zc M
   clear U ho hx M c0 c1 c2 c3 c4 cf
   obtain⟨c0,c1,c2,c3,c4,cf⟩:=zg HX.out
   have ac:=(Array.getElem?_eq_some_iff.1 HX.out).1
   by_cases aa:j<m.rq.length
   ·have X:(j:Int)<(m.rq.length:Int):=by omega
    obtain⟨x,H⟩:=zg5 aa
    have I:=List.mem_of_getElem? H
    have HS:=zc (zcy rqT H sNone)
    have A:=zdC rqT m.rq (j+1) sNone
    rw[HS.out,←z.out,ByteArray.size_append] at A
    have N:(acc rqT m.rq sNone).size≤1099511627776:=Nat.le_trans (zqH m) HZ.out
    obtain⟨Z,V⟩: ∃Z,Z=j+1:=⟨_,rfl⟩
    have ej:(j:Int)+1=(Z:Int):=by omega
    have HJ:=zc V
    clear V
    have aj:L.size≤1099511627776:=by omega
    obtain⟨g,hg,hc⟩:=HO.out.rq.text aa
    rw[hg] at c0
    have am:m.rq.getD j sNone=x:=by rw[List.getD,H];rfl
    rw[am] at hc
    clear hg am
    have aE:=SM.out.rq x I
    obtain⟨qt,ai⟩: ∃t,za0 x=t:=⟨_,rfl⟩
    have aq:=zh7 x
    rw[ai] at aq
    have aC:qt.size≤8589934592:=by omega
    have QT:=zc ai
    clear ai aq A N H I
    go_wp2_with fail
    refine (zgy x _ (by omega)).mono ?_
    rintro e w2 ⟨rfl,hw⟩
    rw[hw,QT.out]
    clear hw w2
    go_wp2
    go_roundg (gk-1)
    case rel=>exact⟨Z,_,rfl,rfl,by have:=HJ.out;omega,by rw[HJ.out,HS.out,←z.out,rqT,QT.out,ByteArray.append_assoc,ByteArray.append_assoc,ByteArray.append_assoc],HO.out,HX.out,HB.out⟩
    case measure=>omega
   ·have X: ¬(j:Int)<(m.rq.length:Int):=by omega
    have ab:Hid (L=acc rqT m.rq sNone):=by show L=_;rw[z.out,List.take_of_length_le (by omega)]
    clear z
    go_wp2
    go_loopg [5,7] m.im.length (fun k t i wr=>∃(j:Nat) (L:ByteArray),i= .int .i64 j∧t= .string L∧j+k=m.im.length∧L=acc zad (m.im.take j) (acc rqT m.rq sNone)∧OwnMd wr Y S m∧wr.heap[w.heap.size]? =some (.cells #[.slice S.rq.a m.rq.length S.rq.cap,.slice S.im.a m.im.length S.im.cap,.slice S.ep.a m.ep.length S.ep.cap,.slice S.st.a m.st.length S.st.cap,.slice S.ex.a m.ex.length S.ex.cap] 36 (0,0))∧Below w.heap.size w wr)
    case atStart=>exact⟨0,_,rfl,rfl,by omega,ab.out,HO.out,HX.out,HB.out⟩
    case round=>
     obtain⟨j,L,rfl,rfl,hj,U,ho,hx,M⟩:=hrel
     have z:=zc U
     have HO:=zc ho
     have HX:=zc hx
     have HB:=zc M
     clear U ho hx M c0 c1 c2 c3 c4 cf
     obtain⟨c0,c1,c2,c3,c4,cf⟩:=zg HX.out
     have ac:=(Array.getElem?_eq_some_iff.1 HX.out).1
     by_cases aa:j<m.im.length
     ·have X:(j:Int)<(m.im.length:Int):=by omega
      obtain⟨x,H⟩:=zg5 aa
      have I:=List.mem_of_getElem? H
      have HS:=zc (zcy zad H (acc rqT m.rq sNone))
      have A:=zdC zad m.im (j+1) (acc rqT m.rq sNone)
      rw[HS.out,←z.out,ByteArray.size_append] at A
      have N:(acc zad m.im (acc rqT m.rq sNone)).size≤1099511627776:=Nat.le_trans (zkh m) HZ.out
      obtain⟨Z,V⟩: ∃Z,Z=j+1:=⟨_,rfl⟩
      have ej:(j:Int)+1=(Z:Int):=by omega
      have HJ:=zc V
      clear V
      have aj:L.size≤1099511627776:=by omega
      obtain⟨g,hg,J⟩:=OwnR.elem (f:=imL) (m:=3) (fun _=>rfl) HO.out.im H
      rw[hg] at c1
      have k0:=J 0 (by omega)
      have k1:=J 1 (by omega)
      have k2:=J 2 (by omega)
      simp only[imL,Nat.add_zero,List.getElem?_cons_zero,List.getElem?_cons_succ] at k0 k1 k2
      obtain⟨z1,z2,z3⟩:=SM.out.im x I
      clear hg J H I
      obtain⟨pt,O⟩: ∃t,zad x=t:=⟨_,rfl⟩
      have ap:pt.size≤1099511627776:=by rw[←O];omega
      have PT:=zc O
      clear O A N
      go_wp2_with fail
      refine (zq0 x _ z1 z2 z3).mono ?_
      rintro e w2 ⟨rfl,M⟩
      rw[PT.out]
      have ad:=zc (HO.out.later M)
      have af:=zc ((M.block _ ac).trans HX.out)
      have ae:=zc (HB.out.trans (M.mono HB.out.size))
      clear M
      go_wp2
      go_roundg (gk-1)
      case rel=>exact⟨Z,_,rfl,rfl,by have:=HJ.out;omega,by rw[HJ.out,HS.out,←z.out,PT.out],ad.out,af.out,ae.out⟩
      case measure=>omega
     ·have X: ¬(j:Int)<(m.im.length:Int):=by omega
      have ab:Hid (L=acc zad m.im (acc rqT m.rq sNone)):=by show L=_;rw[z.out,List.take_of_length_le (by omega)]
      clear z
      go_wp2
      go_loopg [5,8] m.ep.length (fun k t i wr=>∃(j:Nat) (L:ByteArray),i= .int .i64 j∧t= .string L∧j+k=m.ep.length∧L=acc epF (m.ep.take j) (acc zad m.im (acc rqT m.rq sNone))∧OwnMd wr Y S m∧wr.heap[w.heap.size]? =some (.cells #[.slice S.rq.a m.rq.length S.rq.cap,.slice S.im.a m.im.length S.im.cap,.slice S.ep.a m.ep.length S.ep.cap,.slice S.st.a m.st.length S.st.cap,.slice S.ex.a m.ex.length S.ex.cap] 36 (0,0))∧Below w.heap.size w wr)
      case atStart=>exact⟨0,_,rfl,rfl,by omega,ab.out,HO.out,HX.out,HB.out⟩
      case round=>
       obtain⟨j,L,rfl,rfl,hj,U,ho,hx,M⟩:=hrel
       have z:=zc U
       have HO:=zc ho
       have HX:=zc hx
       have HB:=zc M
       clear U ho hx M c0 c1 c2 c3 c4 cf
       obtain⟨c0,c1,c2,c3,c4,cf⟩:=zg HX.out
       have ac:=(Array.getElem?_eq_some_iff.1 HX.out).1
       by_cases aa:j<m.ep.length
       ·have X:(j:Int)<(m.ep.length:Int):=by omega
        obtain⟨x,H⟩:=zg5 aa
        have I:=List.mem_of_getElem? H
        have HS:=zc (zcy epF H (acc zad m.im (acc rqT m.rq sNone)))
        have A:=zdC epF m.ep (j+1) (acc zad m.im (acc rqT m.rq sNone))
        rw[HS.out,←z.out,ByteArray.size_append] at A
        have N:(acc epF m.ep (acc zad m.im (acc rqT m.rq sNone))).size≤1099511627776:=Nat.le_trans (zkg m) HZ.out
        obtain⟨Z,V⟩: ∃Z,Z=j+1:=⟨_,rfl⟩
        have ej:(j:Int)+1=(Z:Int):=by omega
        have HJ:=zc V
        clear V
        have aj:L.size≤1099511627776:=by omega
        obtain⟨g,hg,J⟩:=OwnR.elem (f:=epL) (m:=4) (fun _=>rfl) HO.out.ep H
        rw[hg] at c2
        have k0:=J 0 (by omega)
        have k1:=J 1 (by omega)
        have k2:=J 2 (by omega)
        have k3:=J 3 (by omega)
        simp only[epL,Nat.add_zero,List.getElem?_cons_zero,List.getElem?_cons_succ] at k0 k1 k2 k3
        obtain⟨z1,z2,z3⟩:=SM.out.ep x I
        clear hg J H I
        cases hd:(x.loc.toList==[42,100,101,102,97,117,108,116]) with
        |true=>
         clear A N
         go_wp2
         go_roundg (gk-1)
         case rel=>exact⟨Z,_,rfl,rfl,by have:=HJ.out;omega,by rw[HJ.out,HS.out,←z.out,epF,hd];show L=L++sNone;rw[zqF],HO.out,HX.out,HB.out⟩
         case measure=>omega
        |false=>
         obtain⟨pt,O⟩: ∃t,zbq x=t:=⟨_,rfl⟩
         have ap:pt.size≤1099511627776:=by rw[←O,←show epF x=zbq x from (by rw[epF,hd];rfl)];omega
         have PT:=zc O
         clear O A N
         go_wp2_with fail
         refine (zq1 x _ z1 z2 z3).mono ?_
         rintro e w2 ⟨rfl,M⟩
         rw[PT.out]
         have ad:=zc (HO.out.later M)
         have af:=zc ((M.block _ ac).trans HX.out)
         have ae:=zc (HB.out.trans (M.mono HB.out.size))
         clear M
         go_wp2
         go_roundg (gk-1)
         case rel=>exact⟨Z,_,rfl,rfl,by have:=HJ.out;omega,by rw[HJ.out,HS.out,←z.out,epF,hd];show _=L++zbq x;rw[PT.out],ad.out,af.out,ae.out⟩
         case measure=>omega
       ·have X: ¬(j:Int)<(m.ep.length:Int):=by omega
        have ab:Hid (L=acc epF m.ep (acc zad m.im (acc rqT m.rq sNone))):=by show L=_;rw[z.out,List.take_of_length_le (by omega)]
        clear z
        go_wp2
        go_loopg [5,9] m.st.length (fun k t i wr=>∃(j:Nat) (L:ByteArray),i= .int .i64 j∧t= .string L∧j+k=m.st.length∧L=acc (stF m.ex) (m.st.take j) (zce m)∧OwnMd wr Y S m∧wr.heap[w.heap.size]? =some (.cells #[.slice S.rq.a m.rq.length S.rq.cap,.slice S.im.a m.im.length S.im.cap,.slice S.ep.a m.ep.length S.ep.cap,.slice S.st.a m.st.length S.st.cap,.slice S.ex.a m.ex.length S.ex.cap] 36 (0,0))∧Below w.heap.size w wr)
        case atStart=>exact⟨0,_,rfl,rfl,by omega,ab.out,HO.out,HX.out,HB.out⟩
        case round=>
         obtain⟨j,L,rfl,rfl,hj,U,ho,hx,M⟩:=hrel
         have z:=zc U
         have HO:=zc ho
         have HX:=zc hx
         have HB:=zc M
         clear U ho hx M c0 c1 c2 c3 c4 cf
         obtain⟨c0,c1,c2,c3,c4,cf⟩:=zg HX.out
         have ac:=(Array.getElem?_eq_some_iff.1 HX.out).1
         by_cases aa:j<m.st.length
         ·have X:(j:Int)<(m.st.length:Int):=by omega
          obtain⟨x,H⟩:=zg5 aa
          have I:=List.mem_of_getElem? H
          have HS:=zc (zcy (stF m.ex) H (zce m))
          have A:=zdC (stF m.ex) m.st (j+1) (zce m)
          rw[HS.out,←z.out,ByteArray.size_append] at A
          have N:(acc (stF m.ex) m.st (zce m)).size≤1099511627776:=Nat.le_trans (zqG m) HZ.out
          obtain⟨Z,V⟩: ∃Z,Z=j+1:=⟨_,rfl⟩
          have ej:(j:Int)+1=(Z:Int):=by omega
          have HJ:=zc V
          clear V
          have aj:L.size≤1099511627776:=by omega
          obtain⟨g,hg,J⟩:=OwnR.elem (f:=smL) (m:=3) (fun _=>rfl) HO.out.st H
          rw[hg] at c3
          have k0:=J 0 (by omega)
          have k1:=J 1 (by omega)
          have k2:=J 2 (by omega)
          simp only[smL,Nat.add_zero,List.getElem?_cons_zero,List.getElem?_cons_succ] at k0 k1 k2
          have z1:=SM.out.st x I
          obtain⟨t1,t2⟩:=TR.out.stm x I
          obtain⟨en,al⟩: ∃en:Nat,x.expr=(en:Int):=⟨x.expr.toNat,by omega⟩
          obtain⟨pt,O⟩: ∃t,za7 x.kind x.name (prX m.ex en)=t:=⟨_,rfl⟩
          have ar:stF m.ex x=pt:=by rw[stF,al,Int.toNat_natCast,O]
          rw[ar] at HS A
          have ap:pt.size≤1099511627776:=by omega
          have aB:wt m.ex en≤1099511627776:=by have:=zqI x.kind x.name (prX m.ex en);rw[O] at this;unfold wt;omega
          rw[al] at k2
          have HG:=zc hg
          have cS: ∀d os,Calls Tryz.prog 84 #[.agg #[.slice S.rq.a m.rq.length S.rq.cap,.slice S.im.a m.im.length S.im.cap,.slice S.ep.a m.ep.length S.ep.cap,.slice (some ⟨g,0,none⟩) m.st.length S.st.cap,.slice S.ex.a m.ex.length S.ex.cap],.agg #[.int .i64 x.kind,.string x.name,.int .i64 (en:Int)]] (grow (redrawn wr d) os) fun e az=>e= .returned (.string pt)∧∃p:Regrown,az=grow (redrawn wr p.d) p.os:=fun d os=>Calls.regrown_of (by rw[←O,←hg];exact zq9 Y S m x.kind x.name en _ (HO.out.later (below_regrown _ d os)) (by omega) SM.out.nums TR.out.ahead aB z1)
          have C0:=zc c0
          have C1:=zc c1
          have C2:=zc c2
          have C3:=zc c3
          have C4:=zc c4
          have K0:=zc k0
          have K1:=zc k1
          have K2:=zc k2
          clear hg J H I O ar A N al HG
          go_wp2_with fail
          have y0:=cell_regrown C0.out
          have y1:=cell_regrown C1.out
          have y2:=cell_regrown C2.out
          have y3:=cell_regrown C3.out
          have y4:=cell_regrown C4.out
          have ax:=cell_regrown K0.out
          have av:=cell_regrown K1.out
          have ay:=cell_regrown K2.out
          refine wp_region_quiet_below (by kernel_rfl) (by kernel_rfl) ?_
          repeat (go_big_quiet_step (with_reducible exact cS _ _))
          refine wpQuiet_nil ?_
          intro w2 aw
          obtain⟨⟨dq,aD⟩,ag⟩:=aw
          have M:Below wr.heap.size wr w2:=by rw[ag];exact below_regrown _ _ _
          have ad:=zc (HO.out.later M)
          have af:=zc ((M.block _ ac).trans HX.out)
          have ae:=zc (HB.out.trans (M.mono HB.out.size))
          clear M ag y0 y1 y2 y3 y4 ax av ay cS
          go_wp2
          go_roundg (gk-1)
          case rel=>exact⟨Z,_,rfl,rfl,by have:=HJ.out;omega,by rw[HJ.out,HS.out,←z.out],ad.out,af.out,ae.out⟩
          case measure=>omega
         ·have X: ¬(j:Int)<(m.st.length:Int):=by omega
          have ab:Hid (L=acc (stF m.ex) m.st (zce m)):=by show L=_;rw[z.out,List.take_of_length_le (by omega)]
          clear z
          go_wp2
          go_ret
          exact⟨.inl ⟨TR.out,za1 ab.out⟩,HB.out⟩
theorem Tryz.infoString:(Tryz.prog.info? 9).map (fun i=>(i.zero,i.size,i.bytes))=some (some (.string {data:=#[]}),1,16):=by kernel_rfl
theorem OwnR.addr {w:World} {j size n:Nat} {e:TypeId} {r:Rw} {xs:List Value} (h:OwnR w j e size r n xs):n=0∨∃g,r.a=some ⟨g,0,none⟩:=by
 rcases h.2 with ⟨_,I⟩|⟨g,H,A,z,_⟩
 ·exact .inl I
 ·simp only[Value.slice.injEq] at z
  exact .inr ⟨g,z.1⟩
theorem OwnR.str {w:World} {z:Nat} {e:TypeId} {r:Rw} {l:List ByteArray} {g:Nat} (h:OwnR w z e 1 r l.length (l.map .string)) (H:r.a=some ⟨g,0,none⟩) {j:Nat} (A:j<l.length):w.cell? ⟨g,j,none⟩=some (.string (l.getD j sNone)):=by
 unfold OwnR at h
 rw[H] at h
 rw[h.cellAt j (by omega)]
 simp[List.getD,A]
theorem OwnR.lt {w:World} {j size n:Nat} {e:TypeId} {r:Rw} {xs:List Value} {g:Nat} (h:OwnR w j e size r n xs) (z:r.a=some ⟨g,0,none⟩):g<w.heap.size:=(h.typed (k:=g) (by simp[Rw.blk,z,Value.ownBlock])).2.1
theorem zqK {l:List ByteArray} {x:ByteArray} {j:Nat} (w:j<l.length) (h:((l.getD j sNone).toList==x.toList)=true):zaJ l x=true:=by
 rw[zaJ,List.any_eq_true]
 exact⟨l[j],List.getElem_mem w,by simpa [List.getD,w] using h⟩
theorem zqL {l:List ByteArray} {x:ByteArray} (h: ∀j,j<l.length→((l.getD j sNone).toList==x.toList)=false):zaJ l x=false:=by
 rw[Bool.eq_false_iff,zaJ]
 intro k
 rw[List.any_eq_true] at k
 obtain⟨y,A,z⟩:=k
 obtain⟨j,w,rfl⟩:=List.getElem_of_mem A
 have:=h j w
 simp only[List.getD,List.getElem?_eq_getElem w,Option.getD_some] at this
 rw[this] at z
 cases z
theorem zqM {C:Cx} {x:PR} {q:PS} {z:Int} (H:Is x q z) (A:(decide (z<0)&&((zf C q.pos).kind==3))=false):Is2 (bd x (zJ C)) q (zb5 C q.pos z) sNone:=by
 unfold zb5
 by_cases h:z<0
 ·obtain⟨j,w⟩:=zaI H h
  simp only[h,decide_true,Bool.true_and] at A
  rw[j,zB,zJ,A,if_pos h]
  rfl
 ·obtain⟨e,j,w⟩:=zd0 H h
  rw[j,zer,if_neg h]
  exact w
theorem zqN (C:Cx) (L H h:Nat) (x:PR) (S:Sv) (q:PS) (z:Int) (d:Nat) (w:World) (hx:Is x q z) (V:Mem C L H h S q w) (U:(decide (z<0)&&((zf C q.pos).kind==3))=false):
  Calls Tryz.prog 145 #[pv C L H S q z d] w (zdA C L H h (bd x (zJ C)) d S w):=by
 have Y:=zc V
 have j:=V.tok
 have I:=V.few
 have HY:Hid (Is2 (bd x (zJ C)) q (zb5 C q.pos z) sNone):=zqM hx U
 clear hx V
 by_cases hz:z<0
 ·have Z:decide (0≤z)=false:=decide_eq_false (by omega)
  simp only[hz,decide_true,Bool.true_and] at U
  by_cases hp:q.pos<C.ts.length
  ·obtain⟨O,_,_,_⟩:=j.cells hp (d:=⟨0,sNone,0,C.fin⟩)
   have aa:=(zau j).1
   change _=some (Value.int .i64 (zf C q.pos).kind) at O
   generalize X:zf C q.pos=t at O U
   have ab:(t.kind !=3)=true:=by rw[bne,U];rfl
   clear X
   unfold pv
   go_enter Tryz.func145,Tryz.ntmps145
   go_wp2_with fail
   refine (zdy C L H h S q z d _ (zt (zt j _) _) I).mono ?_
   rintro e w2 ⟨rfl,A⟩
   have J:Hid (_=_):=(zcL A).2
   obtain⟨O,c1,c2,c3,c4,c5,c6,c7,c8,c9,N,M,cf⟩:=zaq J.out
   unfold pv
   go_wp2
   refine bodyPost_ret (zar rfl _ _ (w.heap.size+1) 122 _ (0,0) _ rfl (zaZ J.out) Tryz.underlying122 rfl (by kernel_rfl)) rfl ?_
   exact zdR rfl HY.out Y.out (zbW (zbh A) (Nat.le_succ _) ..)
  ·unfold pv
   go_enter Tryz.func145,Tryz.ntmps145
   go_wp2_with fail
   refine (zdy C L H h S q z d _ (zt (zt j _) _) I).mono ?_
   rintro e w2 ⟨rfl,A⟩
   have J:Hid (_=_):=(zcL A).2
   obtain⟨O,c1,c2,c3,c4,c5,c6,c7,c8,c9,N,M,cf⟩:=zaq J.out
   unfold pv
   go_wp2
   refine bodyPost_ret (zar rfl _ _ (w.heap.size+1) 122 _ (0,0) _ rfl (zaZ J.out) Tryz.underlying122 rfl (by kernel_rfl)) rfl ?_
   exact zdR rfl HY.out Y.out (zbW (zbh A) (Nat.le_succ _) ..)
 ·have Z:decide (0≤z)=true:=decide_eq_true (by omega)
  unfold pv
  go_enter Tryz.func145,Tryz.ntmps145
  go_wp2_with fail
  refine (zdy C L H h S q z d _ (zt (zt j _) _) I).mono ?_
  rintro e w2 ⟨rfl,A⟩
  have J:Hid (_=_):=(zcL A).2
  obtain⟨O,c1,c2,c3,c4,c5,c6,c7,c8,c9,N,M,cf⟩:=zaq J.out
  unfold pv
  go_wp2
  refine bodyPost_ret (zar rfl _ _ (w.heap.size+1) 122 _ (0,0) _ rfl (zaZ J.out) Tryz.underlying122 rfl (by kernel_rfl)) rfl ?_
  exact zdR rfl HY.out Y.out (zbW (zbh A) (Nat.le_succ _) ..)
def txt (C:Cx) (q:PS):ByteArray:=(zf C q.pos).text
theorem zqO {C:Cx} {q:PS} (j:((zf C q.pos).kind==3)=true) (h:zaJ q.rq (txt C q)=true):zJ C q= .ok (adv q,txt C q):=by
 unfold txt at h
 rw[zJ,if_pos j,if_pos h];rfl
theorem zqP {C:Cx} {q:PS} (w:((zf C q.pos).kind==3)=true) (h:zaJ q.rq (txt C q)=false) (j:40≤q.rq.length):zJ C q= .error (zu C q.pos):=by
 unfold txt at h
 rw[zJ,if_pos w,h,if_pos j];rfl
theorem zqQ {C:Cx} {q:PS} (w:((zf C q.pos).kind==3)=true) (h:zaJ q.rq (txt C q)=false) (j: ¬40≤q.rq.length):zJ C q= .ok ({adv q with rq:=q.rq++[txt C q]},txt C q):=by
 unfold txt at h
 rw[zJ,if_pos w,h,if_neg j];rfl
theorem zki (C:Cx) (gt H h:Nat) (S:Sv) (q:PS) (d:Nat) (w:World) (N:Mem C gt H h S q w) (h3:((zf C q.pos).kind==3)=true) (g:Nat) (L:q.rq.length=0∨S.rq.a=some ⟨g,0,none⟩):
  Calls Tryz.prog 145 #[pv C gt H S q (-1) d] w (zdA C gt H h (zJ C q) d S w):=by
 obtain⟨i0,hi,ad,ai,ah⟩:=info_parts Tryz.infoString
 have z:=zc N
 have H3:=zc h3
 have hp:q.pos<C.ts.length:=zfC h3 (by decide)
 have al:=N.few
 have aq:=N.inv.rq
 have ak:=(zau N.tok).1
 obtain⟨c0,c1,_,_⟩:=N.tok.cells hp (d:=⟨0,sNone,0,C.fin⟩)
 change _=some (Value.int .i64 (zf C q.pos).kind) at c0
 change _=some (Value.string (txt C q)) at c1
 generalize (zf C q.pos).kind=kd at c0 h3
 have ar:(kd !=3)=false:=by rw[bne,h3];rfl
 have ab:=zc L
 obtain⟨R,hR⟩: ∃R:Nat→ByteArray,∀j,R j=q.rq.getD j sNone:=⟨fun j=>q.rq.getD j sNone,fun _=>rfl⟩
 have HR:=zc hR
 have HC:Hid (∀j,j<q.rq.length→w.cell? ⟨g,j,none⟩=some (.string (R j))):=fun j U=>by
  rcases L with e|e
  ·omega
  ·rw[hR];exact z.out.own.rq.str e U
 clear hR
 generalize O:txt C q=tx at c1
 have A:=zc O
 have I:=fun o1 o2 o3=>((z.out.own.rq.alloc o1).alloc o2).alloc o3
 clear O N L
 unfold pv
 go_enter Tryz.func145,Tryz.ntmps145
 go_wp2
 go_loop [5] (fun i=>∃k:Nat,k≤q.rq.length∧i= .int .i64 k∧∀j,j<k→¬(R j).toList=tx.toList) (fun i=>(q.rq.length-intOf i).toNat)
 case atStart=>exact⟨0,Nat.zero_le _,rfl,fun j U=>absurd U (Nat.not_lt_zero j)⟩
 case round=>
  obtain⟨k,hk,rfl,V⟩:=hrel
  have Y:=zc V
  clear V
  by_cases X:k<q.rq.length
  ·have ha:S.rq.a=some ⟨g,0,none⟩:=ab.out.elim (fun e=>by omega) id
   have an:=HC.out k X
   have ao:=z.out.own.rq.lt ha
   cases he:((R k).toList==tx.toList) with
   |true=>
    have Z:Hid (zJ C q= .ok (adv q,tx)):=by
     show zJ C q= .ok (adv q,tx)
     rw[←A.out]
     exact zqO H3.out (zqK X (by rw[←HR.out,A.out];exact he))
    have HA:=zc ha
    go_wp2
    refine bodyPost_ret (zar rfl _ _ (w.heap.size+1) 122 _ (0,0) _ rfl (new2 w _ _) Tryz.underlying122 rfl (by kernel_rfl)) rfl ?_
    rw[Z.out]
    exact zdR (q':=adv q) (z':=-1) (by rw[pv,HA.out];rfl) ⟨rfl,rfl,rfl⟩ (z.out.adv hp) (zba w _ _)
   |false=>
    have HX:Hid (∀j,j<k+1→¬(R j).toList=tx.toList):=fun j U=>by
     by_cases e:j=k
     ·rw[e];exact beq_eq_false_iff_ne.1 he
     ·exact Y.out j (by omega)
    go_wp2
    go_round
    case rel=>exact⟨k+1,by omega,by go_num,HX.out⟩
    case measure=>simp[intOf];omega
  ·have HN:Hid (zaJ q.rq (txt C q)=false):=zqL fun j U=>by rw[A.out,←HR.out];exact beq_eq_false_iff_ne.2 (Y.out j (by omega))
   by_cases hn:40≤q.rq.length
   ·have qn:decide ((40:Int)≤(q.rq.length:Int))=true:=decide_eq_true (by omega)
    have Z:Hid (zJ C q= .error (zu C q.pos)):=zqP H3.out HN.out hn
    go_wp2_with fail
    refine (zfe C gt H h S (adv q) (-1) d _ (((z.out.adv hp).alloc _).alloc _) (by decide) (by simp[adv])).mono ?_
    rintro e w2 ⟨rfl,M⟩
    have G3:Hid (_=_):=(zcL M).2
    obtain⟨b0,b1,b2,b3,b4,b5,b6,b7,b8,b9,ag,ac,bf⟩:=zaq G3.out
    have HB:Hid (Below w.heap.size w w2):=zbh M
    clear M
    unfold pv
    go_wp2
    refine bodyPost_ret (zar rfl _ _ (w.heap.size+1) 122 _ (0,0) _ rfl (zaZ G3.out) Tryz.underlying122 rfl (by kernel_rfl)) rfl ?_
    rw[Z.out]
    exact zdR (q':=adv q) (z':=(zu C q.pos:Int)) rfl rfl (z.out.adv hp) (zbW HB.out (Nat.le_succ _) ..)
   ·have qn:decide ((40:Int)≤(q.rq.length:Int))=false:=decide_eq_false (by omega)
    have Z:Hid (zJ C q= .ok ({adv q with rq:=q.rq++[tx]},tx)):=by
     show zJ C q= .ok ({adv q with rq:=q.rq++[tx]},tx)
     rw[←A.out]
     exact zqQ H3.out HN.out hn
    go_wp2_with (at_builtin;refine zcv _ rfl _ _ 22 rfl h 9 i0 _ 1 16 Tryz.underlying22 hi ad ai ah rfl (by decide) (by decide) S.rq q.rq.length _ (by rfl) (I _ _ _) (w.heap.size+1+1) [.string tx] (by rfl) (by exact (new3 w _ _ _).2.2) rfl (by intro u hu;simp at hu;subst hu;rfl) (by omega) (by have:=z.out.base;rw[zaf];omega) ?_)
    intro r' w2 hr hg aa
    have aj:=zc hr
    have HG:=zc hg
    have ae:=zc aa
    have J:=fun b hb=>zdS (W:=w) z.out.own (Nat.le_refl _) (r:=S.rq.blk) (fun k e=>.inl e) b hb
    have g1:=(hg.block w.heap.size (by rw[zaf];omega) (J _ (Nat.le_refl _))).trans (new3 w _ _ _).1
    have g2:=(hg.block (w.heap.size+1) (by rw[zaf];omega) (J _ (by omega))).trans (new3 w _ _ _).2.1
    obtain⟨a0,a1,a2,a3,a4,a5,a6,a7,a8,a9,am,ap,af⟩:=zaq g1
    obtain⟨b0,b1,b2,b3,b4,b5,b6,b7,b8,b9,ag,ac,bf⟩:=zaq g2
    have G2:=zc g2
    clear g1 g2 hg hr aa J I
    go_wp2
    refine bodyPost_ret (zar rfl _ _ (w.heap.size+1) 122 _ (0,0) _ rfl (zaZ ((zx (by omega)).trans G2.out)) Tryz.underlying122 rfl (by kernel_rfl)) rfl ?_
    obtain⟨m',s'⟩:=(z.out.adv hp).grow_rq (x:=tx) (zdb w _ _ _) HG.out aj.out (by rw[zaf];exact ae.out) (((Off.refl _ _ _).set (b:=w.heap.size) (Nat.le_refl _) (by rw[zaf];omega) _ _).set12 (b:=w.heap.size+1) (by omega) (by rw[zaf];omega) ..) (by show q.rq.length<40;omega)
    rw[Z.out]
    exact⟨_,{adv q with rq:=q.rq++[tx]},-1,tx,by simp[pv,adv],⟨rfl,rfl,rfl⟩,m',s'⟩
theorem zeg (C:Cx) (A j h:Nat) (x:PR) (S:Sv) (q:PS) (z:Int) (d:Nat) (w:World) (J:Is x q z) (I:Mem C A j h S q w):
  Calls Tryz.prog 145 #[pv C A j S q z d] w (zdA C A j h (bd x (zJ C)) d S w):=by
 cases H:(decide (z<0)&&((zf C q.pos).kind==3)) with
 |false=>exact zqN C A j h x S q z d w J I H
 |true=>
  rw[Bool.and_eq_true,decide_eq_true_eq] at H
  obtain⟨rfl,rfl⟩:=zaI J H.1
  rw[zB]
  rcases I.own.rq.addr with e|⟨g,e⟩
  ·exact zki C A j h S q d w I H.2 0 (.inl e)
  ·exact zki C A j h S q d w I H.2 g (.inr e)
end Go.Proofs.YtjdddblpfbmpaaaGreat
