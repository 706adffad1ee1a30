/-
  What l5Tree of the specification answers: the walk.
  What spec.Print answers: the walk.
-/
import Derived.BigRegion
import Derived.Test.YtjdddblpfbmpaaaGreatCmEqModToCountMath
namespace Go.Proofs.YtjdddblpfbmpaaaGreat
set_option maxRecDepth 100000
set_option maxHeartbeats 12800000
open Go.RowKit Go.PlainAid Go.Sort
theorem Tryz.infoInt:(Tryz.prog.info? 3).map (fun i=>(i.zero,i.size,i.bytes))=some (some (.int .i64 0),1,8):=by kernel_rfl
theorem zld (n:Nat):(madeCells #[.int .i64 0] n).toList=zat n (fun _=>0):=by
 rw[toList_madeCells_one]
 unfold zat
 rw[List.map_const',List.length_range]
 rfl
theorem zeP {w:World} {j g n q:Nat} {f:Nat→Nat} (h:w.ownsRow j 3 1 (.slice (some ⟨g,0,none⟩) n q) n (zat n f)) {k:Nat} (z:k<n):w.cell? ⟨g,k,none⟩=some (.int .i64 (f k:Int)):=by
 rw[h.cellAt k (by omega)]
 exact zgL f z
theorem zgM {w:World} {q g n z:Nat} {f:Nat→Nat} (h:w.ownsRow q 3 1 (.slice (some ⟨g,0,none⟩) n z) n (zat n f)) (k v:Nat) (A:v=f k+1):(w.setCell ⟨g,k,none⟩ (.int .i64 (v:Int))).ownsRow q 3 1 (.slice (some ⟨g,0,none⟩) n z) n (zat n (zaK f k)):=by
 have:=(h.stored k (.int .i64 (v:Int))).1
 rw[zrW f (zaK f k) v (by rw[zrX,A]) (fun j H=>zrY f H)] at this
 exact this
theorem zfN {w w':World} {j g n q:Nat} {xs:List Value} (h:w.ownsRow j 3 1 (.slice (some ⟨g,0,none⟩) n q) n xs) (A:Below w.heap.size w w'):w'.ownsRow j 3 1 (.slice (some ⟨g,0,none⟩) n q) n xs:=by
 have z:OwnR w j 3 1 ⟨some ⟨g,0,none⟩,q⟩ n xs:=h
 exact z.keep fun k e=>A.block k (z.typed e).2.1
theorem ziq {w:World} {j g n q:Nat} {xs:List Value} (h:w.ownsRow j 3 1 (.slice (some ⟨g,0,none⟩) n q) n xs):j≤g∧g<w.heap.size:=by
 have z:OwnR w j 3 1 ⟨some ⟨g,0,none⟩,q⟩ n xs:=h
 exact⟨(z.typed rfl).1,(z.typed rfl).2.1⟩
theorem zgN {w:World} {j g k:Nat} {S:Sv} {m:Md} {u:Value} (h:OwnMd w j S m) (N: ∀b,w.heap[g]? =some b→∃A,b= .cells A 3 (0,0)):OwnMd (w.setCell ⟨g,k,none⟩ u) j S m:=by
 have H: ∀(e:TypeId) (q n:Nat) (r:Rw) (I:List Value),OwnR w j e q r n I→e≠3→OwnR (w.setCell ⟨g,k,none⟩ u) j e q r n I:=fun e q n r I h J=>h.keep fun b M=>Below.heap_setCell w ⟨g,k,none⟩ u b (fun L=>by
  obtain⟨_,_,c,O⟩:=h.typed M
  obtain⟨A,z⟩:=N _ (by rw[←show b=g from L];exact O)
  simp only[Obj.cells.injEq] at z
  exact J z.2.1)
 exact⟨H _ _ _ _ _ h.rq (by decide),H _ _ _ _ _ h.im (by decide),H _ _ _ _ _ h.ep (by decide),H _ _ _ _ _ h.st (by decide),H _ _ _ _ _ h.ex (by decide)⟩
def cE (ex:List Ex) (j:Nat):Nat→Nat:=fun k=>zau (ex.take j) (k:Int)
theorem OwnMd.drewI {w:World} {j:Nat} {S:Sv} {m:Md} (h:OwnMd w j S m):OwnMd w.drew j S m:=⟨h.rq,h.im,h.ep,h.st,h.ex⟩
def cS (m:Md) (j:Nat):Nat→Nat:=fun k=>zau m.ex (k:Int)+zaN (m.st.take j) (k:Int)
def zgO (m:Md) (e:Ending):Prop:=∃b,e= .returned (.bool b)∧(b=true↔Tree m)
theorem zcY {m:Md} (h: ¬Tree m):zgO m (.returned (.bool false)):=⟨false,rfl,⟨(fun k=>by cases k),fun t=>absurd t h⟩⟩
theorem zle {m:Md} (h:Tree m):zgO m (.returned (.bool true)):=⟨true,rfl,⟨fun _=>h,fun _=>rfl⟩⟩
theorem zgP {w:World} {j g n q:Nat} {xs:List Value} (h:w.ownsRow j 3 1 (.slice (some ⟨g,0,none⟩) n q) n xs): ∀b,w.heap[g]? =some b→∃z,b= .cells z 3 (0,0):=by
 have H:OwnR w j 3 1 ⟨some ⟨g,0,none⟩,q⟩ n xs:=h
 obtain⟨_,_,c,I⟩:=H.typed rfl
 intro b A
 rw[I] at A
 exact⟨c,(Option.some.inj A).symm⟩
theorem zrZ (q:Nat) (S:Sv) (m:Md) (w:World) (h:OwnMd w q S m) (hl:m.ex.length≤4294967296) (hs:m.st.length≤4294967296):
  Calls Tryz.prog 80 #[zp S m] w fun e w'=>zgO m e∧Below w.heap.size w w':=by
 obtain⟨i0,hi,aO,aY,aV⟩:=info_parts Tryz.infoInt
 have HH:=zc h
 clear h
 unfold zp
 go_enter Tryz.func80,Tryz.ntmps80
 go_wp2_with (first|(at_make;refine wpList_make_full _ rfl _ _ 152 rfl (w.heap.size+1) 3 i0 (.int .i64 0) 1 Tryz.underlying152 hi aO aY .i64 .i64 _ _ m.ex.length (by rfl) (by rfl) rfl rfl (by rw[aV];omega) (by unfold maxLen;omega) (by rw[zl];omega) ?_))
 intro w1 af aa
 rw[zld] at af
 have bb:Below (w.heap.size+1) (w.alloc _) w1:=⟨aa.os,aa.tape,aa.output,aa.size,fun k hk=>aa.block k (by rw[zl];exact hk) (by simp)⟩
 have aF:Hid (Below w.heap.size w w1):=((Below.refl _ _).alloc (Nat.le_refl _) _).trans (bb.mono (by omega))
 have aE:Hid (w1.heap[w.heap.size]? =some (.cells #[.slice S.rq.a m.rq.length S.rq.cap,.slice S.im.a m.im.length S.im.cap,.slice S.ep.a m.ep.length S.ep.cap,.slice S.st.a m.st.length S.st.cap,.slice S.ex.a m.ex.length S.ex.cap] 36 (0,0))):=(bb.block _ (by omega)).trans (heap_alloc_new w _)
 have aN:=zc (HH.out.later aF.out)
 have aQ:Hid (w1.ownsRow (w.heap.size+1) 3 1 (.slice (some ⟨w.heap.size+1,0,none⟩) m.ex.length m.ex.length) m.ex.length (zat m.ex.length (cE m.ex 0))):=by show World.ownsRow _ _ _ _ _ _ _;rw[show zat m.ex.length (cE m.ex 0)=zat m.ex.length (fun _=>0) from zen fun k _=>by simp[cE,zau]];exact af
 clear af aa bb
 obtain⟨c0,c1,c2,c3,c4,cf⟩:=zg aE.out
 go_wp2
 go_loopg [4] m.ex.length (fun k i wr=>∃j:Nat,i= .int .i64 j∧j+k=m.ex.length∧AheadTo m.ex j∧wr.ownsRow (w.heap.size+1) 3 1 (.slice (some ⟨w.heap.size+1,0,none⟩) m.ex.length m.ex.length) m.ex.length (zat m.ex.length (cE m.ex j))∧OwnMd wr q S m∧wr.heap[w.heap.size]? =some (.cells #[.slice S.rq.a m.rq.length S.rq.cap,.slice S.im.a m.im.length S.im.cap,.slice S.ep.a m.ep.length S.ep.cap,.slice S.st.a m.st.length S.st.cap,.slice S.ex.a m.ex.length S.ex.cap] 36 (0,0))∧Below w.heap.size w wr)
 case atStart=>exact⟨0,rfl,by omega,fun i x hi=>absurd hi (Nat.not_lt_zero i),aQ.out,aN.out,aE.out,aF.out⟩
 case round=>
  obtain⟨j,rfl,hj,ah,A,X,Y,M⟩:=hrel
  have AH:=zc ah
  have HN:=zc A
  have HO:=zc X
  have HX:=zc Y
  have HB:=zc M
  clear ah A X Y M
  clear c0 c1 c2 c3 c4 cf
  obtain⟨c0,c1,c2,c3,c4,cf⟩:=zg HX.out
  have am:=(Array.getElem?_eq_some_iff.1 HX.out).1
  by_cases H:j<m.ex.length
  ·have aD:(j:Int)<(m.ex.length:Int):=by omega
   obtain⟨g,hg,bm,x0,x1,x2,x3,x4,x5⟩:=HO.out.expr H
   rw[hg] at c4
   clear hg
   have aC:=zc (zdV H)
   obtain⟨x,ao⟩: ∃x,m.ex.getD j zi=x:=⟨_,rfl⟩
   rw[ao] at x0 x1 x2 x3 x4 x5
   have O:Hid (m.ex[j]=x):=aC.out.symm.trans ao
   clear ao aC
   obtain⟨N,J⟩: ∃N,N=j+1:=⟨_,rfl⟩
   have ej:(j:Int)+1=(N:Int):=by omega
   have Z:=zc J
   clear J
   have HW:Hid (Below wr.heap.size wr (wr.alloc (.cells #[.int .i64 x.kind,.int .i64 x.num,.string x.name,.string x.field,.int .i64 x.l,.int .i64 x.r] 109))):=(Below.refl _ _).alloc (Nat.le_refl _) _
   go_wp2_with fail
   refine (zkT x.kind _).mono ?_
   rintro e w2 ⟨rfl,hw⟩
   rw[hw]
   clear hw w2
   cases ht:zaa x.kind with
   |false=>
    go_wp2
    go_roundg (gk-1)
    case rel=>exact⟨N,rfl,by have:=Z.out;omega,by rw[Z.out];exact AH.out.next H (fun k=>by rw[O.out,ht] at k;cases k),by rw[Z.out,show zat m.ex.length (cE m.ex (j+1))=zat m.ex.length (cE m.ex j) from zen fun k _=>(zlb H (by rw[O.out];exact ht) k).symm];exact zfN HN.out HW.out,HO.out.later HW.out,(HW.out.block _ am).trans HX.out,HB.out.trans (HW.out.mono HB.out.size)⟩
    case measure=>omega
   |true=>
    by_cases a1:x.l<0
    ·have ae:decide (x.l<0)=true:=decide_eq_true a1
     go_wp2
     go_ret
     exact⟨zcY (fun (t:Tree m)=>absurd t.ahead (AheadTo.not H (by rw[O.out];exact ht) (by rw[O.out];omega))),HB.out.trans (HW.out.mono HB.out.size)⟩
    have ae:decide (x.l<0)=false:=decide_eq_false a1
    by_cases a2:(j:Int)≤x.l
    ·have ai:decide ((j:Int)≤x.l)=true:=decide_eq_true a2
     go_wp2
     go_ret
     exact⟨zcY (fun (t:Tree m)=>absurd t.ahead (AheadTo.not H (by rw[O.out];exact ht) (by rw[O.out];omega))),HB.out.trans (HW.out.mono HB.out.size)⟩
    have ai:decide ((j:Int)≤x.l)=false:=decide_eq_false a2
    by_cases a3:x.r<0
    ·have aG:decide (x.r<0)=true:=decide_eq_true a3
     go_wp2
     go_ret
     exact⟨zcY (fun (t:Tree m)=>absurd t.ahead (AheadTo.not H (by rw[O.out];exact ht) (by rw[O.out];omega))),HB.out.trans (HW.out.mono HB.out.size)⟩
    have aG:decide (x.r<0)=false:=decide_eq_false a3
    by_cases a4:(j:Int)≤x.r
    ·have aJ:decide ((j:Int)≤x.r)=true:=decide_eq_true a4
     go_wp2
     go_ret
     exact⟨zcY (fun (t:Tree m)=>absurd t.ahead (AheadTo.not H (by rw[O.out];exact ht) (by rw[O.out];omega))),HB.out.trans (HW.out.mono HB.out.size)⟩
    have aJ:decide ((j:Int)≤x.r)=false:=decide_eq_false a4
    go_wp2_with fail
    obtain⟨z,ac⟩: ∃z:Nat,x.l=(z:Int):=⟨x.l.toNat,by omega⟩
    obtain⟨I,ab⟩: ∃I:Nat,x.r=(I:Int):=⟨x.r.toNat,by omega⟩
    have bz:z<m.ex.length:=by omega
    have bo:I<m.ex.length:=by omega
    have a6:(z:Int)<(m.ex.length:Int):=by omega
    have a8:(I:Int)<(m.ex.length:Int):=by omega
    have aP:Hid (AheadTo m.ex (j+1)):=AH.out.next H (fun _=>by rw[O.out];omega)
    have HU:Hid (∀k:Nat,zaK (zaK (cE m.ex j) z) I k=cE m.ex (j+1) k):=fun k=>by have:=zla H (by rw[O.out];exact ht) (by rw[O.out];omega) (by rw[O.out];omega) k;rw[O.out,ac,ab] at this;exact this
    have aH:=zgK (m.ex.take j)
    have a5:(m.ex.take j).length≤4294967296:=by rw[List.length_take];omega
    have bg:=(ziq HN.out).2
    refine zac (R:=fun W=>W.heap[wr.heap.size]? =some (.cells #[.int .i64 x.kind,.int .i64 x.num,.string x.name,.string x.field,.int .i64 (z:Int),.int .i64 (I:Int)] 109 (0,0))∧W.ownsRow (w.heap.size+1) 3 1 (.slice (some ⟨w.heap.size+1,0,none⟩) m.ex.length m.ex.length) m.ex.length (zat m.ex.length (cE m.ex j))∧OwnMd W q S m∧W.heap[w.heap.size]? =some (.cells #[.slice S.rq.a m.rq.length S.rq.cap,.slice S.im.a m.im.length S.im.cap,.slice S.ep.a m.ep.length S.ep.cap,.slice S.st.a m.st.length S.st.cap,.slice S.ex.a m.ex.length S.ex.cap] 36 (0,0))∧Below w.heap.size w W) ⟨by have:=heap_alloc_new wr (.cells #[.int .i64 x.kind,.int .i64 x.num,.string x.name,.string x.field,.int .i64 x.l,.int .i64 x.r] 109);rw[ac,ab] at this;rw[ac,ab];exact this,zfN HN.out HW.out,HO.out.later HW.out,(HW.out.block _ am).trans HX.out,HB.out.trans (HW.out.mono HB.out.size)⟩ ?_
    have bq:=zc ac
    have bi:=zc ab
    clear ac ab ae ai aG aJ a1 a2 a3 a4
    rintro W ⟨xb,A,X,Y,M⟩
    have bn:=zc xb
    have bp:=zc A
    have bj:=zc X
    have br:=zc Y
    have bv:=zc M
    obtain⟨s0,s1,s2,s3,s4,s5,sf⟩:=zx xb
    obtain⟨va,ak⟩: ∃v,(cE m.ex j) z=v:=⟨_,rfl⟩
    have ea:=zeP A (k:=z) (by omega)
    have ef:=A.frozenAt
    rw[ak] at ea
    have bc:va≤17179869184:=by rw[←ak];have:=aH (z:Int);unfold cE;omega
    obtain⟨ua,ay⟩: ∃u,u=va+1:=⟨_,rfl⟩
    have bt:(va:Int)+1=(ua:Int):=by omega
    have ba:IntKind.i64.wrap (ua:Int)=(ua:Int):=IntWalk.i64_in _ ⟨by omega,by omega⟩
    have aS:Hid ((W.setCell ⟨w.heap.size+1,z,none⟩ (.int .i64 (ua:Int))).ownsRow (w.heap.size+1) 3 1 (.slice (some ⟨w.heap.size+1,0,none⟩) m.ex.length m.ex.length) m.ex.length (zat m.ex.length (zaK (cE m.ex j) z))):=zgM A z ua (by rw[ay,ak])
    have aZ:Hid (OwnMd (W.setCell ⟨w.heap.size+1,z,none⟩ (.int .i64 (ua:Int))) q S m):=zgN X (zgP A)
    have aR:Hid ((W.setCell ⟨w.heap.size+1,z,none⟩ (.int .i64 (ua:Int))).heap[w.heap.size]? =some (.cells #[.slice S.rq.a m.rq.length S.rq.cap,.slice S.im.a m.im.length S.im.cap,.slice S.ep.a m.ep.length S.ep.cap,.slice S.st.a m.st.length S.st.cap,.slice S.ex.a m.ex.length S.ex.cap] 36 (0,0))):=(zn (by omega)).trans Y
    have aX:Hid (Below w.heap.size w (W.setCell ⟨w.heap.size+1,z,none⟩ (.int .i64 (ua:Int)))):=M.setCell (Nat.le_succ _) _
    have a0:Hid ((W.setCell ⟨w.heap.size+1,z,none⟩ (.int .i64 (ua:Int))).heap[wr.heap.size]? =some (.cells #[.int .i64 x.kind,.int .i64 x.num,.string x.name,.string x.field,.int .i64 (z:Int),.int .i64 (I:Int)] 109 (0,0))):=(zn (by omega)).trans xb
    clear xb A X Y M ak ay
    go_region
    clear s0 s1 s2 s3 s4 s5 sf ef ea
    go_wp2_with fail
    refine zac (R:=fun W=>W.heap[wr.heap.size]? =some (.cells #[.int .i64 x.kind,.int .i64 x.num,.string x.name,.string x.field,.int .i64 (z:Int),.int .i64 (I:Int)] 109 (0,0))∧W.ownsRow (w.heap.size+1) 3 1 (.slice (some ⟨w.heap.size+1,0,none⟩) m.ex.length m.ex.length) m.ex.length (zat m.ex.length (zaK (cE m.ex j) z))∧OwnMd W q S m∧W.heap[w.heap.size]? =some (.cells #[.slice S.rq.a m.rq.length S.rq.cap,.slice S.im.a m.im.length S.im.cap,.slice S.ep.a m.ep.length S.ep.cap,.slice S.st.a m.st.length S.st.cap,.slice S.ex.a m.ex.length S.ex.cap] 36 (0,0))∧Below w.heap.size w W) ⟨a0.out,aS.out,aZ.out.drewI,aR.out,aX.out.drew⟩ ?_
    rintro V ⟨xb,A,X,Y,M⟩
    have bB:=zc xb
    have bs:=zc A
    have bf:=zc X
    have bA:=zc Y
    have bk:=zc M
    obtain⟨s0,s1,s2,s3,s4,s5,sf⟩:=zx xb
    obtain⟨vb,ag⟩: ∃v,(zaK (cE m.ex j) z) I=v:=⟨_,rfl⟩
    have eb:=zeP A (k:=I) (by omega)
    have ef:=A.frozenAt
    rw[ag] at eb
    have a7:vb≤17179869184:=by rw[←ag];have:=aH (I:Int);unfold zaK cE;split<;>omega
    obtain⟨ub,ap⟩: ∃u,u=vb+1:=⟨_,rfl⟩
    have bl:(vb:Int)+1=(ub:Int):=by omega
    have a9:IntKind.i64.wrap (ub:Int)=(ub:Int):=IntWalk.i64_in _ ⟨by omega,by omega⟩
    have aM:Hid ((V.setCell ⟨w.heap.size+1,I,none⟩ (.int .i64 (ub:Int))).ownsRow (w.heap.size+1) 3 1 (.slice (some ⟨w.heap.size+1,0,none⟩) m.ex.length m.ex.length) m.ex.length (zat m.ex.length (zaK (zaK (cE m.ex j) z) I))):=zgM A I ub (by rw[ap,ag])
    have aU:Hid (OwnMd (V.setCell ⟨w.heap.size+1,I,none⟩ (.int .i64 (ub:Int))) q S m):=zgN X (zgP A)
    have aL:Hid ((V.setCell ⟨w.heap.size+1,I,none⟩ (.int .i64 (ub:Int))).heap[w.heap.size]? =some (.cells #[.slice S.rq.a m.rq.length S.rq.cap,.slice S.im.a m.im.length S.im.cap,.slice S.ep.a m.ep.length S.ep.cap,.slice S.st.a m.st.length S.st.cap,.slice S.ex.a m.ex.length S.ex.cap] 36 (0,0))):=(zn (by omega)).trans Y
    have aW:Hid (Below w.heap.size w (V.setCell ⟨w.heap.size+1,I,none⟩ (.int .i64 (ub:Int)))):=M.setCell (Nat.le_succ _) _
    have bu:Hid ((V.setCell ⟨w.heap.size+1,I,none⟩ (.int .i64 (ub:Int))).heap[wr.heap.size]? =some (.cells #[.int .i64 x.kind,.int .i64 x.num,.string x.name,.string x.field,.int .i64 (z:Int),.int .i64 (I:Int)] 109 (0,0))):=(zn (by omega)).trans xb
    clear xb A X Y M ag ap
    go_region
    clear s0 s1 s2 s3 s4 s5 sf ef eb
    go_wp2
    go_roundg (gk-1)
    case rel=>exact⟨N,rfl,by have:=Z.out;omega,by rw[Z.out];exact aP.out,by rw[Z.out,←zen fun k _=>HU.out k];exact aM.out,aU.out.drewI,aL.out,aW.out.drew⟩
    case measure=>omega
  ·have aD: ¬(j:Int)<(m.ex.length:Int):=by omega
   obtain rfl:j=m.ex.length:=by omega
   have HA:=zc AH.out.all
   have HC:Hid (wr.ownsRow (w.heap.size+1) 3 1 (.slice (some ⟨w.heap.size+1,0,none⟩) m.ex.length m.ex.length) m.ex.length (zat m.ex.length (cS m 0))):=by show World.ownsRow _ _ _ _ _ _ _;rw[show zat m.ex.length (cS m 0)=zat m.ex.length (cE m.ex m.ex.length) from zen fun k _=>by simp[cE,cS,zaN]];exact HN.out
   go_wp2
   go_loopg [6] m.st.length (fun k i wr=>∃j:Nat,i= .int .i64 j∧j+k=m.st.length∧(∀s∈m.st.take j,0≤s.expr∧s.expr<(m.ex.length:Int))∧wr.ownsRow (w.heap.size+1) 3 1 (.slice (some ⟨w.heap.size+1,0,none⟩) m.ex.length m.ex.length) m.ex.length (zat m.ex.length (cS m j))∧OwnMd wr q S m∧wr.heap[w.heap.size]? =some (.cells #[.slice S.rq.a m.rq.length S.rq.cap,.slice S.im.a m.im.length S.im.cap,.slice S.ep.a m.ep.length S.ep.cap,.slice S.st.a m.st.length S.st.cap,.slice S.ex.a m.ex.length S.ex.cap] 36 (0,0))∧Below w.heap.size w wr)
   case atStart=>exact⟨0,rfl,by omega,(fun s hs=>by simp at hs),HC.out,HO.out,HX.out,HB.out⟩
   case round=>
    obtain⟨j,rfl,bD,ah,A,X,Y,M⟩:=hrel
    have AS:=zc ah
    have ad:=zc A
    have aA:=zc X
    have aI:=zc Y
    have aj:=zc M
    clear ah A X Y M c0 c1 c2 c3 c4 cf
    obtain⟨c0,c1,c2,c3,c4,cf⟩:=zg aI.out
    by_cases L:j<m.st.length
    ·have ar:(j:Int)<(m.st.length:Int):=by omega
     obtain⟨s,ax⟩: ∃s,m.st[j]? =some s:=⟨_,List.getElem?_eq_getElem L⟩
     obtain⟨g,hg,aK⟩:=OwnR.elem (f:=smL) (m:=3) (fun _=>rfl) aA.out.st ax
     have k2:=aK 2 (by omega)
     simp only[smL,List.getElem?_cons_zero,List.getElem?_cons_succ] at k2
     rw[hg] at c3
     obtain⟨_,al⟩:=List.getElem?_eq_some_iff.1 ax
     have HS:Hid (m.st[j]=s):=al
     clear hg aK ax al
     obtain⟨N,J⟩: ∃N,N=j+1:=⟨_,rfl⟩
     have ej:(j:Int)+1=(N:Int):=by omega
     have Z:=zc J
     clear J
     by_cases a1:s.expr<0
     ·have ae:decide (s.expr<0)=true:=decide_eq_true a1
      go_wp2
      go_ret
      exact⟨zcY (fun (t:Tree m)=>by have:=t.stm _ (List.getElem_mem L);rw[HS.out] at this;omega),aj.out⟩
     have ae:decide (s.expr<0)=false:=decide_eq_false a1
     by_cases a2:(m.ex.length:Int)≤s.expr
     ·have ai:decide ((m.ex.length:Int)≤s.expr)=true:=decide_eq_true a2
      go_wp2
      go_ret
      exact⟨zcY (fun (t:Tree m)=>by have:=t.stm _ (List.getElem_mem L);rw[HS.out] at this;omega),aj.out⟩
     have ai:decide ((m.ex.length:Int)≤s.expr)=false:=decide_eq_false a2
     obtain⟨U,av⟩: ∃U:Nat,s.expr=(U:Int):=⟨s.expr.toNat,by omega⟩
     have aT:U<m.ex.length:=by omega
     have be:(U:Int)<(m.ex.length:Int):=by omega
     have aw:Hid (∀s∈m.st.take (j+1),0≤s.expr∧s.expr<(m.ex.length:Int)):=by
      intro y hy
      rw[List.take_succ_eq_append_getElem L,List.mem_append] at hy
      rcases hy with hy|hy
      ·exact AS.out y hy
      ·simp only[List.mem_singleton] at hy
       rw[hy,HS.out]
       omega
     have HU:Hid (∀k:Nat,zaK (cS m j) U k=cS m (j+1) k):=fun k=>by have:=zlc (ex:=m.ex) L (by rw[HS.out];omega) k;rw[HS.out,av] at this;exact this
     rw[av] at k2 a1 a2 ae ai
     obtain⟨v,hv⟩: ∃v,cS m j U=v:=⟨_,rfl⟩
     have ea:=zeP ad.out aT
     have ef:=ad.out.frozenAt
     rw[hv] at ea
     have ag:v≤17179869184:=by rw[←hv];unfold cS;have:=zgK m.ex (U:Int);have:=zkZ (m.st.take j) (U:Int);rw[List.length_take] at this;omega
     obtain⟨u,hu⟩: ∃u,u=v+1:=⟨_,rfl⟩
     have ev:(v:Int)+1=(u:Int):=by omega
     have ap:u≤17179869185:=by omega
     have NN:Hid ((wr.setCell ⟨w.heap.size+1,U,none⟩ (.int .i64 (u:Int))).ownsRow (w.heap.size+1) 3 1 (.slice (some ⟨w.heap.size+1,0,none⟩) m.ex.length m.ex.length) m.ex.length (zat m.ex.length (zaK (cS m j) U))):=zgM ad.out U u (by rw[hu,hv])
     have NO:Hid (OwnMd (wr.setCell ⟨w.heap.size+1,U,none⟩ (.int .i64 (u:Int))) q S m):=zgN aA.out (zgP ad.out)
     have NX:Hid ((wr.setCell ⟨w.heap.size+1,U,none⟩ (.int .i64 (u:Int))).heap[w.heap.size]? =some (.cells #[.slice S.rq.a m.rq.length S.rq.cap,.slice S.im.a m.im.length S.im.cap,.slice S.ep.a m.ep.length S.ep.cap,.slice S.st.a m.st.length S.st.cap,.slice S.ex.a m.ex.length S.ex.cap] 36 (0,0))):=(zn (by omega)).trans aI.out
     have NB:Hid (Below w.heap.size w (wr.setCell ⟨w.heap.size+1,U,none⟩ (.int .i64 (u:Int)))):=aj.out.setCell (Nat.le_succ _) _
     clear av hv hu
     go_wp2
     go_roundg (gk-1)
     case rel=>exact⟨N,rfl,by have:=Z.out;omega,by rw[Z.out];exact aw.out,by rw[Z.out,←zen fun k _=>HU.out k];exact NN.out,NO.out,NX.out,NB.out⟩
     case measure=>omega
    ·have ar: ¬(j:Int)<(m.st.length:Int):=by omega
     obtain rfl:j=m.st.length:=by omega
     have aw:Hid (∀s∈m.st,0≤s.expr∧s.expr<(m.ex.length:Int)):=by have:=AS.out;rw[List.take_length] at this;exact this
     go_wp2
     go_loopg [8] m.ex.length (fun k i wr=>∃j:Nat,i= .int .i64 j∧j+k=m.ex.length∧(∀k,k<j→cS m m.st.length k=1)∧wr.ownsRow (w.heap.size+1) 3 1 (.slice (some ⟨w.heap.size+1,0,none⟩) m.ex.length m.ex.length) m.ex.length (zat m.ex.length (cS m m.st.length))∧Below w.heap.size w wr)
     case atStart=>exact⟨0,rfl,by omega,fun k hk=>absurd hk (Nat.not_lt_zero k),ad.out,aj.out⟩
     case round=>
      obtain⟨j,rfl,bC,ah,A,M⟩:=hrel
      have AC:=zc ah
      have aB:=zc A
      have aq:=zc M
      clear ah A M c0 c1 c2 c3 c4 cf
      by_cases an:j<m.ex.length
      ·have au:(j:Int)<(m.ex.length:Int):=by omega
       obtain⟨v,hv⟩: ∃v,cS m m.st.length j=v:=⟨_,rfl⟩
       have ea:=zeP aB.out an
       rw[hv] at ea
       have HV:=zc hv
       clear hv
       obtain⟨N,J⟩: ∃N,N=j+1:=⟨_,rfl⟩
       have ej:(j:Int)+1=(N:Int):=by omega
       have Z:=zc J
       clear J
       by_cases az:v=1
       ·subst az
        go_wp2
        go_roundg (gk-1)
        case rel=>exact⟨N,rfl,by have:=Z.out;omega,(fun k hk=>(Nat.lt_or_eq_of_le (show k≤j by have:=Z.out;omega)).elim (AC.out k) (fun e=>by rw[e];exact HV.out)),aB.out,aq.out⟩
        case measure=>omega
       ·have dv:((v:Int) !=1)=true:=by rw[bne_iff_ne];omega
        go_wp2
        go_ret
        exact⟨zcY (fun (t:Tree m)=>absurd (by have:=t.once j an;have h2:=HV.out;unfold cS at h2;rw[List.take_length] at h2;omega) az),aq.out⟩
      ·have au: ¬(j:Int)<(m.ex.length:Int):=by omega
       go_wp2
       go_ret
       exact⟨zle ⟨HA.out,aw.out,fun k hk=>by have:=AC.out k (by omega);unfold cS at this;rw[List.take_length] at this;exact this⟩,aq.out⟩
theorem zgQ {α:Type} {l:List α} {j:Nat} (h:j<l.length): ∃x,l[j]? =some x:=⟨_,List.getElem?_eq_getElem h⟩
theorem zsa (t:ByteArray):t++sNone=t:=by
 cases t with
 |mk d=>
  show ByteArray.append _ _=_
  simp[ByteArray.append]
theorem zsb (m:Md):(acc (stF m.ex) m.st (zce m)).size≤(zbO m).size:=Nat.le_refl _
theorem zlf (m:Md):(acc epF m.ep (acc zad m.im (acc rqT m.rq sNone))).size≤(zbO m).size:=zef _ _ _
theorem zlg (m:Md):(acc zad m.im (acc rqT m.rq sNone)).size≤(zbO m).size:=Nat.le_trans (zef _ _ _) (zlf m)
theorem zsc (m:Md):(acc rqT m.rq sNone).size≤(zbO m).size:=Nat.le_trans (zef _ _ _) (zlg m)
theorem zsd (k:Int) (n e:ByteArray):e.size≤(za7 k n e).size:=by
 unfold za7
 repeat (first|split|(simp only[ByteArray.size_append];omega))
theorem zse (V:Nat) (S:Sv) (m:Md) (az:Bool) (w:World) (h:OwnMd w V S m) (hm:Small m) (am:Tree m→(zbO m).size≤1099511627776):
  Calls Tryz.prog 33 #[zp S m,.bool az] w fun e w'=>PrintOut (zbO m) m e∧Below w.heap.size w w':=by
 have HH:=zc h
 have SM:=zc hm
 have HU:=zc am
 obtain⟨f1,f2,f3,f4,f5⟩:=hm.few
 clear h hm am
 unfold zp
 go_enter Tryz.func33,Tryz.ntmps33
 go_wp2_with fail
 refine (zrZ V S m _ (HH.out.alloc _) f5 f4).mono ?_
 rintro e w1 ⟨⟨b,rfl,J⟩,ag⟩
 have HT:=zc J
 have aj:Hid (Below w.heap.size w w1):=((Below.refl _ _).alloc (Nat.le_refl _) _).trans (ag.mono (by rw[zl];omega))
 have an:Hid (w1.heap[w.heap.size]? =some (.cells #[.slice S.rq.a m.rq.length S.rq.cap,.slice S.im.a m.im.length S.im.cap,.slice S.ep.a m.ep.length S.ep.cap,.slice S.st.a m.st.length S.st.cap,.slice S.ex.a m.ex.length S.ex.cap] 36 (0,0))):=(ag.block _ (by rw[zl];omega)).trans (heap_alloc_new w _)
 have ar:=zc (HH.out.later aj.out)
 clear J ag
 obtain⟨c0,c1,c2,c3,c4,cf⟩:=zg an.out
 cases b with
 |false=>
  go_wp2
  go_ret
  exact⟨.inr ⟨(fun t=>by have:=HT.out.2 t;cases this),rfl⟩,aj.out⟩
 |true=>
  have TR:=zc (HT.out.1 rfl)
  have HZ:=zc (HU.out TR.out)
  go_wp2
  go_loopg [5,6] m.rq.length (fun k t i wr=>∃(j:Nat) (tx:ByteArray),i= .int .i64 j∧t= .string tx∧j+k=m.rq.length∧tx=acc rqT (m.rq.take j) sNone∧OwnMd wr V S m∧wr.heap[w.heap.size]? =some (.cells #[.slice S.rq.a m.rq.length S.rq.cap,.slice S.im.a m.im.length S.im.cap,.slice S.ep.a m.ep.length S.ep.cap,.slice S.st.a m.st.length S.st.cap,.slice S.ex.a m.ex.length S.ex.cap] 36 (0,0))∧Below w.heap.size w wr)
  case atStart=>exact⟨0,_,rfl,rfl,by omega,rfl,ar.out,an.out,aj.out⟩
  case round=>
   obtain⟨j,tx,rfl,rfl,hj,N,ho,hx,J⟩:=hrel
   have q:=zc N
   have HO:=zc ho
   have Y:=zc hx
   have HB:=zc J
   clear N ho hx J c0 c1 c2 c3 c4 cf
   obtain⟨c0,c1,c2,c3,c4,cf⟩:=zg Y.out
   have ab:=(Array.getElem?_eq_some_iff.1 Y.out).1
   by_cases Z:j<m.rq.length
   ·have U:(j:Int)<(m.rq.length:Int):=by omega
    obtain⟨x,A⟩:=zgQ Z
    have H:=List.mem_of_getElem? A
    have HS:=zc (zcz rqT A sNone)
    have z:=zdJ rqT m.rq (j+1) sNone
    rw[HS.out,←q.out,ByteArray.size_append] at z
    have L:(acc rqT m.rq sNone).size≤1099511627776:=Nat.le_trans (zsc m) HZ.out
    obtain⟨X,O⟩: ∃X,X=j+1:=⟨_,rfl⟩
    have ej:(j:Int)+1=(X:Int):=by omega
    have HJ:=zc O
    clear O
    have ai:tx.size≤1099511627776:=by omega
    obtain⟨g,hg,hc⟩:=HO.out.rq.text Z
    rw[hg] at c0
    have al:m.rq.getD j sNone=x:=by rw[List.getD,A];rfl
    rw[al] at hc
    clear hg al
    have aD:=SM.out.rq x H
    obtain⟨qt,ah⟩: ∃t,za2 x=t:=⟨_,rfl⟩
    have ap:=zio x
    rw[ah] at ap
    have aB:qt.size≤8589934592:=by omega
    have QT:=zc ah
    clear ah ap z L A H
    go_wp2_with fail
    refine (zgJ x _ (by omega)).mono ?_
    rintro e w2 ⟨rfl,hw⟩
    rw[hw,QT.out]
    clear hw w2
    go_wp2
    go_roundg (gk-1)
    case rel=>exact⟨X,_,rfl,rfl,by have:=HJ.out;omega,by rw[HJ.out,HS.out,←q.out,rqT,QT.out,ByteArray.append_assoc,ByteArray.append_assoc,ByteArray.append_assoc],HO.out,Y.out,HB.out⟩
    case measure=>omega
   ·have U: ¬(j:Int)<(m.rq.length:Int):=by omega
    have aa:Hid (tx=acc rqT m.rq sNone):=by show tx=_;rw[q.out,List.take_of_length_le (by omega)]
    clear q
    go_wp2
    go_loopg [5,7] m.im.length (fun k t i wr=>∃(j:Nat) (tx:ByteArray),i= .int .i64 j∧t= .string tx∧j+k=m.im.length∧tx=acc zad (m.im.take j) (acc rqT m.rq sNone)∧OwnMd wr V S m∧wr.heap[w.heap.size]? =some (.cells #[.slice S.rq.a m.rq.length S.rq.cap,.slice S.im.a m.im.length S.im.cap,.slice S.ep.a m.ep.length S.ep.cap,.slice S.st.a m.st.length S.st.cap,.slice S.ex.a m.ex.length S.ex.cap] 36 (0,0))∧Below w.heap.size w wr)
    case atStart=>exact⟨0,_,rfl,rfl,by omega,aa.out,HO.out,Y.out,HB.out⟩
    case round=>
     obtain⟨j,tx,rfl,rfl,hj,N,ho,hx,J⟩:=hrel
     have q:=zc N
     have HO:=zc ho
     have Y:=zc hx
     have HB:=zc J
     clear N ho hx J c0 c1 c2 c3 c4 cf
     obtain⟨c0,c1,c2,c3,c4,cf⟩:=zg Y.out
     have ab:=(Array.getElem?_eq_some_iff.1 Y.out).1
     by_cases Z:j<m.im.length
     ·have U:(j:Int)<(m.im.length:Int):=by omega
      obtain⟨x,A⟩:=zgQ Z
      have H:=List.mem_of_getElem? A
      have HS:=zc (zcz zad A (acc rqT m.rq sNone))
      have z:=zdJ zad m.im (j+1) (acc rqT m.rq sNone)
      rw[HS.out,←q.out,ByteArray.size_append] at z
      have L:(acc zad m.im (acc rqT m.rq sNone)).size≤1099511627776:=Nat.le_trans (zlg m) HZ.out
      obtain⟨X,O⟩: ∃X,X=j+1:=⟨_,rfl⟩
      have ej:(j:Int)+1=(X:Int):=by omega
      have HJ:=zc O
      clear O
      have ai:tx.size≤1099511627776:=by omega
      obtain⟨g,hg,I⟩:=OwnR.elem (f:=imL) (m:=3) (fun _=>rfl) HO.out.im A
      rw[hg] at c1
      have k0:=I 0 (by omega)
      have k1:=I 1 (by omega)
      have k2:=I 2 (by omega)
      simp only[imL,Nat.add_zero,List.getElem?_cons_zero,List.getElem?_cons_succ] at k0 k1 k2
      obtain⟨z1,z2,z3⟩:=SM.out.im x H
      clear hg I A H
      obtain⟨pt,M⟩: ∃t,zad x=t:=⟨_,rfl⟩
      have ao:pt.size≤1099511627776:=by rw[←M];omega
      have PT:=zc M
      clear M z L
      go_wp2_with fail
      refine (zrL x _ z1 z2 z3).mono ?_
      rintro e w2 ⟨rfl,J⟩
      rw[PT.out]
      have ac:=zc (HO.out.later J)
      have ae:=zc ((J.block _ ab).trans Y.out)
      have ad:=zc (HB.out.trans (J.mono HB.out.size))
      clear J
      go_wp2
      go_roundg (gk-1)
      case rel=>exact⟨X,_,rfl,rfl,by have:=HJ.out;omega,by rw[HJ.out,HS.out,←q.out,PT.out],ac.out,ae.out,ad.out⟩
      case measure=>omega
     ·have U: ¬(j:Int)<(m.im.length:Int):=by omega
      have aa:Hid (tx=acc zad m.im (acc rqT m.rq sNone)):=by show tx=_;rw[q.out,List.take_of_length_le (by omega)]
      clear q
      go_wp2
      go_loopg [5,8] m.ep.length (fun k t i wr=>∃(j:Nat) (tx:ByteArray),i= .int .i64 j∧t= .string tx∧j+k=m.ep.length∧tx=acc epF (m.ep.take j) (acc zad m.im (acc rqT m.rq sNone))∧OwnMd wr V S m∧wr.heap[w.heap.size]? =some (.cells #[.slice S.rq.a m.rq.length S.rq.cap,.slice S.im.a m.im.length S.im.cap,.slice S.ep.a m.ep.length S.ep.cap,.slice S.st.a m.st.length S.st.cap,.slice S.ex.a m.ex.length S.ex.cap] 36 (0,0))∧Below w.heap.size w wr)
      case atStart=>exact⟨0,_,rfl,rfl,by omega,aa.out,HO.out,Y.out,HB.out⟩
      case round=>
       obtain⟨j,tx,rfl,rfl,hj,N,ho,hx,J⟩:=hrel
       have q:=zc N
       have HO:=zc ho
       have Y:=zc hx
       have HB:=zc J
       clear N ho hx J c0 c1 c2 c3 c4 cf
       obtain⟨c0,c1,c2,c3,c4,cf⟩:=zg Y.out
       have ab:=(Array.getElem?_eq_some_iff.1 Y.out).1
       by_cases Z:j<m.ep.length
       ·have U:(j:Int)<(m.ep.length:Int):=by omega
        obtain⟨x,A⟩:=zgQ Z
        have H:=List.mem_of_getElem? A
        have HS:=zc (zcz epF A (acc zad m.im (acc rqT m.rq sNone)))
        have z:=zdJ epF m.ep (j+1) (acc zad m.im (acc rqT m.rq sNone))
        rw[HS.out,←q.out,ByteArray.size_append] at z
        have L:(acc epF m.ep (acc zad m.im (acc rqT m.rq sNone))).size≤1099511627776:=Nat.le_trans (zlf m) HZ.out
        obtain⟨X,O⟩: ∃X,X=j+1:=⟨_,rfl⟩
        have ej:(j:Int)+1=(X:Int):=by omega
        have HJ:=zc O
        clear O
        have ai:tx.size≤1099511627776:=by omega
        obtain⟨g,hg,I⟩:=OwnR.elem (f:=epL) (m:=4) (fun _=>rfl) HO.out.ep A
        rw[hg] at c2
        have k0:=I 0 (by omega)
        have k1:=I 1 (by omega)
        have k2:=I 2 (by omega)
        have k3:=I 3 (by omega)
        simp only[epL,Nat.add_zero,List.getElem?_cons_zero,List.getElem?_cons_succ] at k0 k1 k2 k3
        obtain⟨z1,z2,z3⟩:=SM.out.ep x H
        clear hg I A H
        cases hd:(x.loc.toList==[42,100,101,102,97,117,108,116]) with
        |true=>
         clear z L
         go_wp2
         go_roundg (gk-1)
         case rel=>exact⟨X,_,rfl,rfl,by have:=HJ.out;omega,by rw[HJ.out,HS.out,←q.out,epF,hd];show tx=tx++sNone;rw[zsa],HO.out,Y.out,HB.out⟩
         case measure=>omega
        |false=>
         obtain⟨pt,M⟩: ∃t,zbw x=t:=⟨_,rfl⟩
         have ao:pt.size≤1099511627776:=by rw[←M,←show epF x=zbw x from (by rw[epF,hd];rfl)];omega
         have PT:=zc M
         clear M z L
         go_wp2_with fail
         refine (zrM x _ z1 z2 z3).mono ?_
         rintro e w2 ⟨rfl,J⟩
         rw[PT.out]
         have ac:=zc (HO.out.later J)
         have ae:=zc ((J.block _ ab).trans Y.out)
         have ad:=zc (HB.out.trans (J.mono HB.out.size))
         clear J
         go_wp2
         go_roundg (gk-1)
         case rel=>exact⟨X,_,rfl,rfl,by have:=HJ.out;omega,by rw[HJ.out,HS.out,←q.out,epF,hd];show _=tx++zbw x;rw[PT.out],ac.out,ae.out,ad.out⟩
         case measure=>omega
       ·have U: ¬(j:Int)<(m.ep.length:Int):=by omega
        have aa:Hid (tx=acc epF m.ep (acc zad m.im (acc rqT m.rq sNone))):=by show tx=_;rw[q.out,List.take_of_length_le (by omega)]
        clear q
        go_wp2
        go_loopg [5,9] m.st.length (fun k t i wr=>∃(j:Nat) (tx:ByteArray),i= .int .i64 j∧t= .string tx∧j+k=m.st.length∧tx=acc (stF m.ex) (m.st.take j) (zce m)∧OwnMd wr V S m∧wr.heap[w.heap.size]? =some (.cells #[.slice S.rq.a m.rq.length S.rq.cap,.slice S.im.a m.im.length S.im.cap,.slice S.ep.a m.ep.length S.ep.cap,.slice S.st.a m.st.length S.st.cap,.slice S.ex.a m.ex.length S.ex.cap] 36 (0,0))∧Below w.heap.size w wr)
        case atStart=>exact⟨0,_,rfl,rfl,by omega,aa.out,HO.out,Y.out,HB.out⟩
        case round=>
         obtain⟨j,tx,rfl,rfl,hj,N,ho,hx,J⟩:=hrel
         have q:=zc N
         have HO:=zc ho
         have Y:=zc hx
         have HB:=zc J
         clear N ho hx J c0 c1 c2 c3 c4 cf
         obtain⟨c0,c1,c2,c3,c4,cf⟩:=zg Y.out
         have ab:=(Array.getElem?_eq_some_iff.1 Y.out).1
         by_cases Z:j<m.st.length
         ·have U:(j:Int)<(m.st.length:Int):=by omega
          obtain⟨x,A⟩:=zgQ Z
          have H:=List.mem_of_getElem? A
          have HS:=zc (zcz (stF m.ex) A (zce m))
          have z:=zdJ (stF m.ex) m.st (j+1) (zce m)
          rw[HS.out,←q.out,ByteArray.size_append] at z
          have L:(acc (stF m.ex) m.st (zce m)).size≤1099511627776:=Nat.le_trans (zsb m) HZ.out
          obtain⟨X,O⟩: ∃X,X=j+1:=⟨_,rfl⟩
          have ej:(j:Int)+1=(X:Int):=by omega
          have HJ:=zc O
          clear O
          have ai:tx.size≤1099511627776:=by omega
          obtain⟨g,hg,I⟩:=OwnR.elem (f:=smL) (m:=3) (fun _=>rfl) HO.out.st A
          rw[hg] at c3
          have k0:=I 0 (by omega)
          have k1:=I 1 (by omega)
          have k2:=I 2 (by omega)
          simp only[smL,Nat.add_zero,List.getElem?_cons_zero,List.getElem?_cons_succ] at k0 k1 k2
          have z1:=SM.out.st x H
          obtain⟨t1,t2⟩:=TR.out.stm x H
          obtain⟨en,ak⟩: ∃en:Nat,x.expr=(en:Int):=⟨x.expr.toNat,by omega⟩
          obtain⟨pt,M⟩: ∃t,za7 x.kind x.name (prX m.ex en)=t:=⟨_,rfl⟩
          have aq:stF m.ex x=pt:=by rw[stF,ak,Int.toNat_natCast,M]
          rw[aq] at HS z
          have ao:pt.size≤1099511627776:=by omega
          have aA:wt m.ex en≤1099511627776:=by have:=zsd x.kind x.name (prX m.ex en);rw[M] at this;unfold wt;omega
          rw[ak] at k2
          have HG:=zc hg
          have cS: ∀d os,Calls Tryz.prog 84 #[.agg #[.slice S.rq.a m.rq.length S.rq.cap,.slice S.im.a m.im.length S.im.cap,.slice S.ep.a m.ep.length S.ep.cap,.slice (some ⟨g,0,none⟩) m.st.length S.st.cap,.slice S.ex.a m.ex.length S.ex.cap],.agg #[.int .i64 x.kind,.string x.name,.int .i64 (en:Int)]] (grow (redrawn wr d) os) fun e ay=>e= .returned (.string pt)∧∃p:Regrown,ay=grow (redrawn wr p.d) p.os:=fun d os=>Calls.regrown_of (by rw[←M,←hg];exact zrU V S m x.kind x.name en _ (HO.out.later (below_regrown _ d os)) (by omega) SM.out.nums TR.out.ahead aA z1)
          have C0:=zc c0
          have C1:=zc c1
          have C2:=zc c2
          have C3:=zc c3
          have C4:=zc c4
          have K0:=zc k0
          have K1:=zc k1
          have K2:=zc k2
          clear hg I A H M aq z L ak HG
          go_wp2_with fail
          have y0:=cell_regrown C0.out
          have y1:=cell_regrown C1.out
          have y2:=cell_regrown C2.out
          have y3:=cell_regrown C3.out
          have y4:=cell_regrown C4.out
          have aw:=cell_regrown K0.out
          have au:=cell_regrown K1.out
          have ax:=cell_regrown K2.out
          refine wp_region_quiet_below (by kernel_rfl) (by kernel_rfl) ?_
          repeat (go_big_quiet_step (with_reducible exact cS _ _))
          refine wpQuiet_nil ?_
          intro w2 av
          obtain⟨⟨dq,aC⟩,af⟩:=av
          have J:Below wr.heap.size wr w2:=by rw[af];exact below_regrown _ _ _
          have ac:=zc (HO.out.later J)
          have ae:=zc ((J.block _ ab).trans Y.out)
          have ad:=zc (HB.out.trans (J.mono HB.out.size))
          clear J af y0 y1 y2 y3 y4 aw au ax cS
          go_wp2
          go_roundg (gk-1)
          case rel=>exact⟨X,_,rfl,rfl,by have:=HJ.out;omega,by rw[HJ.out,HS.out,←q.out],ac.out,ae.out,ad.out⟩
          case measure=>omega
         ·have U: ¬(j:Int)<(m.st.length:Int):=by omega
          have aa:Hid (tx=acc (stF m.ex) m.st (zce m)):=by show tx=_;rw[q.out,List.take_of_length_le (by omega)]
          clear q
          go_wp2
          go_ret
          exact⟨.inl ⟨TR.out,zar aa.out⟩,HB.out⟩
end Go.Proofs.YtjdddblpfbmpaaaGreat
