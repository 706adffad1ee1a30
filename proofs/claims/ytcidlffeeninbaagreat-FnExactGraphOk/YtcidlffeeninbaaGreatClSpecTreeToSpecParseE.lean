/-
  What l5Tree of the specification answers: the walk.
  What spec.Print answers: the walk.
  What spec's l4Spec answers: the walk.
-/
import Derived.BigRegion
import Derived.Test.YtcidlffeeninbaaGreatClEqModToCountMath
namespace Go.Proofs.YtcidlffeeninbaaGreat
set_option maxRecDepth 100000
set_option maxHeartbeats 12800000
open Go.RowKit Go.PlainAid Go.Sort
theorem Tryz.infoInt:(Tryz.prog.info? 3).map (fun i=>(i.zero,i.size,i.bytes))=some (some (.int .i64 0),1,8):=by kernel_rfl
theorem zk2 (n:Nat):(madeCells #[.int .i64 0] n).toList=zas n (fun _=>0):=by
 rw[toList_madeCells_one]
 unfold zas
 rw[List.map_const',List.length_range]
 rfl
theorem zeO {w:World} {q g n z:Nat} {f:Nat→Nat} (h:w.ownsRow q 3 1 (.slice (some ⟨g,0,none⟩) n z) n (zas n f)) {k:Nat} (A:k<n):w.cell? ⟨g,k,none⟩=some (.int .i64 (f k:Int)):=by
 rw[h.cellAt k (by omega)]
 exact zg3 f A
theorem zg4 {w:World} {q g n z:Nat} {f:Nat→Nat} (h:w.ownsRow q 3 1 (.slice (some ⟨g,0,none⟩) n z) n (zas n f)) (k v:Nat) (A:v=f k+1):(w.setCell ⟨g,k,none⟩ (.int .i64 (v:Int))).ownsRow q 3 1 (.slice (some ⟨g,0,none⟩) n z) n (zas n (zaJ f k)):=by
 have:=(h.stored k (.int .i64 (v:Int))).1
 rw[zqC f (zaJ f k) v (by rw[zqD,A]) (fun j D=>zqE f D)] at this
 exact this
theorem zf7 {w A:World} {q g n z:Nat} {xs:List Value} (h:w.ownsRow q 3 1 (.slice (some ⟨g,0,none⟩) n z) n xs) (E:Below w.heap.size w A):A.ownsRow q 3 1 (.slice (some ⟨g,0,none⟩) n z) n xs:=by
 have D:OwnR w q 3 1 ⟨some ⟨g,0,none⟩,z⟩ n xs:=h
 exact D.keep fun k e=>E.block k (D.typed e).2.1
theorem zhK {w:World} {q g n z:Nat} {xs:List Value} (h:w.ownsRow q 3 1 (.slice (some ⟨g,0,none⟩) n z) n xs):q≤g∧g<w.heap.size:=by
 have A:OwnR w q 3 1 ⟨some ⟨g,0,none⟩,z⟩ n xs:=h
 exact⟨(A.typed rfl).1,(A.typed rfl).2.1⟩
theorem zg5 {w:World} {q g k:Nat} {S:Sv} {m:Md} {u:Value} (h:OwnMd w q S m) (J: ∀b,w.heap[g]? =some b→∃D,b= .cells D 3 (0,0)):OwnMd (w.setCell ⟨g,k,none⟩ u) q S m:=by
 have E: ∀(e:TypeId) (z n:Nat) (r:Rw) (H:List Value),OwnR w q e z r n H→e≠3→OwnR (w.setCell ⟨g,k,none⟩ u) q e z r n H:=fun e z n r H h L=>h.keep fun b K=>Below.heap_setCell w ⟨g,k,none⟩ u b (fun M=>by
  obtain⟨_,_,c,I⟩:=h.typed K
  obtain⟨D,A⟩:=J _ (by rw[←show b=g from M];exact I)
  simp only[Obj.cells.injEq] at A
  exact L A.2.1)
 exact⟨E _ _ _ _ _ h.rq (by decide),E _ _ _ _ _ h.im (by decide),E _ _ _ _ _ h.ep (by decide),E _ _ _ _ _ h.st (by decide),E _ _ _ _ _ h.ex (by decide)⟩
def cE (ex:List Ex) (j:Nat):Nat→Nat:=fun k=>zat (ex.take j) (k:Int)
theorem OwnMd.drewI {w:World} {q:Nat} {S:Sv} {m:Md} (h:OwnMd w q S m):OwnMd w.drew q S m:=⟨h.rq,h.im,h.ep,h.st,h.ex⟩
def cS (m:Md) (j:Nat):Nat→Nat:=fun k=>zat m.ex (k:Int)+zaL (m.st.take j) (k:Int)
def zg6 (m:Md) (e:Ending):Prop:=∃b,e= .returned (.bool b)∧(b=true↔Tree m)
theorem zcR {m:Md} (h: ¬Tree m):zg6 m (.returned (.bool false)):=⟨false,rfl,⟨(fun k=>by cases k),fun t=>absurd t h⟩⟩
theorem zk3 {m:Md} (h:Tree m):zg6 m (.returned (.bool true)):=⟨true,rfl,⟨fun _=>h,fun _=>rfl⟩⟩
theorem zg7 {w:World} {q g n z:Nat} {xs:List Value} (h:w.ownsRow q 3 1 (.slice (some ⟨g,0,none⟩) n z) n xs): ∀b,w.heap[g]? =some b→∃A,b= .cells A 3 (0,0):=by
 have H:OwnR w q 3 1 ⟨some ⟨g,0,none⟩,z⟩ n xs:=h
 obtain⟨_,_,c,E⟩:=H.typed rfl
 intro b D
 rw[E] at D
 exact⟨c,(Option.some.inj D).symm⟩
theorem zqF (q:Nat) (S:Sv) (m:Md) (w:World) (h:OwnMd w q S m) (hl:m.ex.length≤4294967296) (hs:m.st.length≤4294967296):
  Calls Tryz.prog 54 #[zn S m] w fun e w'=>zg6 m e∧Below w.heap.size w w':=by
 obtain⟨i0,hi,aV,aT,aS⟩:=info_parts Tryz.infoInt
 have HH:=zc h
 clear h
 unfold zn
 go_enter Tryz.func54,Tryz.ntmps54
 go_wp2_with (first|(at_make;refine wpList_make_full _ rfl _ _ 59 rfl (w.heap.size+1) 3 i0 (.int .i64 0) 1 Tryz.underlying59 hi aV aT .i64 .i64 _ _ m.ex.length (by rfl) (by rfl) rfl rfl (by rw[aS];omega) (by unfold maxLen;omega) (by rw[zg];omega) ?_))
 intro w1 ad Y
 rw[zk2] at ad
 have bb:Below (w.heap.size+1) (w.alloc _) w1:=⟨Y.os,Y.tape,Y.output,Y.size,fun k hk=>Y.block k (by rw[zg];exact hk) (by simp)⟩
 have ax:Hid (Below w.heap.size w w1):=((Below.refl _ _).alloc (Nat.le_refl _) _).trans (bb.mono (by omega))
 have ay:Hid (w1.heap[w.heap.size]? =some (.cells #[.slice S.rq.a m.rq.length S.rq.cap,.slice S.im.a m.im.length S.im.cap,.slice S.ep.a m.ep.length S.ep.cap,.slice S.st.a m.st.length S.st.cap,.slice S.ex.a m.ex.length S.ex.cap] 48 (0,0))):=(bb.block _ (by omega)).trans (heap_alloc_new w _)
 have aQ:=zc (HH.out.later ax.out)
 have aX:Hid (w1.ownsRow (w.heap.size+1) 3 1 (.slice (some ⟨w.heap.size+1,0,none⟩) m.ex.length m.ex.length) m.ex.length (zas m.ex.length (cE m.ex 0))):=by show World.ownsRow _ _ _ _ _ _ _;rw[show zas m.ex.length (cE m.ex 0)=zas m.ex.length (fun _=>0) from zep fun k _=>by simp[cE,zat]];exact ad
 clear ad Y bb
 obtain⟨c0,c1,c2,c3,c4,cf⟩:=zk ay.out
 go_wp2
 go_loopg [4] m.ex.length (fun k i wr=>∃j:Nat,i= .int .i64 j∧j+k=m.ex.length∧AheadTo m.ex j∧wr.ownsRow (w.heap.size+1) 3 1 (.slice (some ⟨w.heap.size+1,0,none⟩) m.ex.length m.ex.length) m.ex.length (zas m.ex.length (cE m.ex j))∧OwnMd wr q S m∧wr.heap[w.heap.size]? =some (.cells #[.slice S.rq.a m.rq.length S.rq.cap,.slice S.im.a m.im.length S.im.cap,.slice S.ep.a m.ep.length S.ep.cap,.slice S.st.a m.st.length S.st.cap,.slice S.ex.a m.ex.length S.ex.cap] 48 (0,0))∧Below w.heap.size w wr)
 case atStart=>exact⟨0,rfl,by omega,fun i x hi=>absurd hi (Nat.not_lt_zero i),aX.out,aQ.out,ay.out,ax.out⟩
 case round=>
  obtain⟨j,rfl,hj,ah,z,X,N,J⟩:=hrel
  have AH:=zc ah
  have HN:=zc z
  have HO:=zc X
  have HX:=zc N
  have U:=zc J
  clear ah z X N J
  clear c0 c1 c2 c3 c4 cf
  obtain⟨c0,c1,c2,c3,c4,cf⟩:=zk HX.out
  have ak:=(Array.getElem?_eq_some_iff.1 HX.out).1
  by_cases D:j<m.ex.length
  ·have aH:(j:Int)<(m.ex.length:Int):=by omega
   obtain⟨g,hg,bz,x0,x1,x2,x3,x4,x5⟩:=HO.out.expr D
   rw[hg] at c4
   clear hg
   have aE:=zc (zdT D)
   obtain⟨x,ao⟩: ∃x,m.ex.getD j zi=x:=⟨_,rfl⟩
   rw[ao] at x0 x1 x2 x3 x4 x5
   have L:Hid (m.ex[j]=x):=aE.out.symm.trans ao
   clear ao aE
   obtain⟨K,I⟩: ∃K,K=j+1:=⟨_,rfl⟩
   have ej:(j:Int)+1=(K:Int):=by omega
   have O:=zc I
   clear I
   have Z:Hid (Below wr.heap.size wr (wr.alloc (.cells #[.int .i64 x.kind,.int .i64 x.num,.string x.name,.string x.field,.int .i64 x.l,.int .i64 x.r] 85))):=(Below.refl _ _).alloc (Nat.le_refl _) _
   go_wp2_with fail
   refine (zkt x.kind _).mono ?_
   rintro e w2 ⟨rfl,hw⟩
   rw[hw]
   clear hw w2
   cases ht:zZ x.kind with
   |false=>
    go_wp2
    go_roundg (gk-1)
    case rel=>exact⟨K,rfl,by have:=O.out;omega,by rw[O.out];exact AH.out.next D (fun k=>by rw[L.out,ht] at k;cases k),by rw[O.out,show zas m.ex.length (cE m.ex (j+1))=zas m.ex.length (cE m.ex j) from zep fun k _=>(zk0 D (by rw[L.out];exact ht) k).symm];exact zf7 HN.out Z.out,HO.out.later Z.out,(Z.out.block _ ak).trans HX.out,U.out.trans (Z.out.mono U.out.size)⟩
    case measure=>omega
   |true=>
    by_cases a1:x.l<0
    ·have ag:decide (x.l<0)=true:=decide_eq_true a1
     go_wp2
     go_ret
     exact⟨zcR (fun (t:Tree m)=>absurd t.ahead (AheadTo.not D (by rw[L.out];exact ht) (by rw[L.out];omega))),U.out.trans (Z.out.mono U.out.size)⟩
    have ag:decide (x.l<0)=false:=decide_eq_false a1
    by_cases a2:(j:Int)≤x.l
    ·have ab:decide ((j:Int)≤x.l)=true:=decide_eq_true a2
     go_wp2
     go_ret
     exact⟨zcR (fun (t:Tree m)=>absurd t.ahead (AheadTo.not D (by rw[L.out];exact ht) (by rw[L.out];omega))),U.out.trans (Z.out.mono U.out.size)⟩
    have ab:decide ((j:Int)≤x.l)=false:=decide_eq_false a2
    by_cases a3:x.r<0
    ·have aI:decide (x.r<0)=true:=decide_eq_true a3
     go_wp2
     go_ret
     exact⟨zcR (fun (t:Tree m)=>absurd t.ahead (AheadTo.not D (by rw[L.out];exact ht) (by rw[L.out];omega))),U.out.trans (Z.out.mono U.out.size)⟩
    have aI:decide (x.r<0)=false:=decide_eq_false a3
    by_cases a4:(j:Int)≤x.r
    ·have aG:decide ((j:Int)≤x.r)=true:=decide_eq_true a4
     go_wp2
     go_ret
     exact⟨zcR (fun (t:Tree m)=>absurd t.ahead (AheadTo.not D (by rw[L.out];exact ht) (by rw[L.out];omega))),U.out.trans (Z.out.mono U.out.size)⟩
    have aG:decide ((j:Int)≤x.r)=false:=decide_eq_false a4
    go_wp2_with fail
    obtain⟨A,ac⟩: ∃A:Nat,x.l=(A:Int):=⟨x.l.toNat,by omega⟩
    obtain⟨E,ae⟩: ∃E:Nat,x.r=(E:Int):=⟨x.r.toNat,by omega⟩
    have bs:A<m.ex.length:=by omega
    have bf:E<m.ex.length:=by omega
    have a0:(A:Int)<(m.ex.length:Int):=by omega
    have ba:(E:Int)<(m.ex.length:Int):=by omega
    have aR:Hid (AheadTo m.ex (j+1)):=AH.out.next D (fun _=>by rw[L.out];omega)
    have HU:Hid (∀k:Nat,zaJ (zaJ (cE m.ex j) A) E k=cE m.ex (j+1) k):=fun k=>by have:=zkz D (by rw[L.out];exact ht) (by rw[L.out];omega) (by rw[L.out];omega) k;rw[L.out,ac,ae] at this;exact this
    have az:=zg2 (m.ex.take j)
    have a5:(m.ex.take j).length≤4294967296:=by rw[List.length_take];omega
    have bp:=(zhK HN.out).2
    refine zx (R:=fun W=>W.heap[wr.heap.size]? =some (.cells #[.int .i64 x.kind,.int .i64 x.num,.string x.name,.string x.field,.int .i64 (A:Int),.int .i64 (E:Int)] 85 (0,0))∧W.ownsRow (w.heap.size+1) 3 1 (.slice (some ⟨w.heap.size+1,0,none⟩) m.ex.length m.ex.length) m.ex.length (zas m.ex.length (cE m.ex j))∧OwnMd W q S m∧W.heap[w.heap.size]? =some (.cells #[.slice S.rq.a m.rq.length S.rq.cap,.slice S.im.a m.im.length S.im.cap,.slice S.ep.a m.ep.length S.ep.cap,.slice S.st.a m.st.length S.st.cap,.slice S.ex.a m.ex.length S.ex.cap] 48 (0,0))∧Below w.heap.size w W) ⟨by have:=heap_alloc_new wr (.cells #[.int .i64 x.kind,.int .i64 x.num,.string x.name,.string x.field,.int .i64 x.l,.int .i64 x.r] 85);rw[ac,ae] at this;rw[ac,ae];exact this,zf7 HN.out Z.out,HO.out.later Z.out,(Z.out.block _ ak).trans HX.out,U.out.trans (Z.out.mono U.out.size)⟩ ?_
    have bt:=zc ac
    have bo:=zc ae
    clear ac ae ag ab aI aG a1 a2 a3 a4
    rintro W ⟨xb,z,X,N,J⟩
    have be:=zc xb
    have bm:=zc z
    have bl:=zc X
    have bq:=zc N
    have bu:=zc J
    obtain⟨s0,s1,s2,s3,s4,s5,sf⟩:=zw xb
    obtain⟨va,ai⟩: ∃v,(cE m.ex j) A=v:=⟨_,rfl⟩
    have ea:=zeO z (k:=A) (by omega)
    have ef:=z.frozenAt
    rw[ai] at ea
    have bc:va≤17179869184:=by rw[←ai];have:=az (A:Int);unfold cE;omega
    obtain⟨ua,aD⟩: ∃u,u=va+1:=⟨_,rfl⟩
    have bh:(va:Int)+1=(ua:Int):=by omega
    have a8:IntKind.i64.wrap (ua:Int)=(ua:Int):=IntWalk.i64_in _ ⟨by omega,by omega⟩
    have aL:Hid ((W.setCell ⟨w.heap.size+1,A,none⟩ (.int .i64 (ua:Int))).ownsRow (w.heap.size+1) 3 1 (.slice (some ⟨w.heap.size+1,0,none⟩) m.ex.length m.ex.length) m.ex.length (zas m.ex.length (zaJ (cE m.ex j) A))):=zg4 z A ua (by rw[aD,ai])
    have aZ:Hid (OwnMd (W.setCell ⟨w.heap.size+1,A,none⟩ (.int .i64 (ua:Int))) q S m):=zg5 X (zg7 z)
    have aW:Hid ((W.setCell ⟨w.heap.size+1,A,none⟩ (.int .i64 (ua:Int))).heap[w.heap.size]? =some (.cells #[.slice S.rq.a m.rq.length S.rq.cap,.slice S.im.a m.im.length S.im.cap,.slice S.ep.a m.ep.length S.ep.cap,.slice S.st.a m.st.length S.st.cap,.slice S.ex.a m.ex.length S.ex.cap] 48 (0,0))):=(zv (by omega)).trans N
    have aN:Hid (Below w.heap.size w (W.setCell ⟨w.heap.size+1,A,none⟩ (.int .i64 (ua:Int)))):=J.setCell (Nat.le_succ _) _
    have aM:Hid ((W.setCell ⟨w.heap.size+1,A,none⟩ (.int .i64 (ua:Int))).heap[wr.heap.size]? =some (.cells #[.int .i64 x.kind,.int .i64 x.num,.string x.name,.string x.field,.int .i64 (A:Int),.int .i64 (E:Int)] 85 (0,0))):=(zv (by omega)).trans xb
    clear xb z X N J ai aD
    go_region
    clear s0 s1 s2 s3 s4 s5 sf ef ea
    go_wp2_with fail
    refine zx (R:=fun W=>W.heap[wr.heap.size]? =some (.cells #[.int .i64 x.kind,.int .i64 x.num,.string x.name,.string x.field,.int .i64 (A:Int),.int .i64 (E:Int)] 85 (0,0))∧W.ownsRow (w.heap.size+1) 3 1 (.slice (some ⟨w.heap.size+1,0,none⟩) m.ex.length m.ex.length) m.ex.length (zas m.ex.length (zaJ (cE m.ex j) A))∧OwnMd W q S m∧W.heap[w.heap.size]? =some (.cells #[.slice S.rq.a m.rq.length S.rq.cap,.slice S.im.a m.im.length S.im.cap,.slice S.ep.a m.ep.length S.ep.cap,.slice S.st.a m.st.length S.st.cap,.slice S.ex.a m.ex.length S.ex.cap] 48 (0,0))∧Below w.heap.size w W) ⟨aM.out,aL.out,aZ.out.drewI,aW.out,aN.out.drew⟩ ?_
    rintro V ⟨xb,z,X,N,J⟩
    have bv:=zc xb
    have bj:=zc z
    have bx:=zc X
    have bn:=zc N
    have bi:=zc J
    obtain⟨s0,s1,s2,s3,s4,s5,sf⟩:=zw xb
    obtain⟨vb,af⟩: ∃v,(zaJ (cE m.ex j) A) E=v:=⟨_,rfl⟩
    have eb:=zeO z (k:=E) (by omega)
    have ef:=z.frozenAt
    rw[af] at eb
    have a9:vb≤17179869184:=by rw[←af];have:=az (E:Int);unfold zaJ cE;split<;>omega
    obtain⟨ub,ap⟩: ∃u,u=vb+1:=⟨_,rfl⟩
    have bw:(vb:Int)+1=(ub:Int):=by omega
    have a6:IntKind.i64.wrap (ub:Int)=(ub:Int):=IntWalk.i64_in _ ⟨by omega,by omega⟩
    have aO:Hid ((V.setCell ⟨w.heap.size+1,E,none⟩ (.int .i64 (ub:Int))).ownsRow (w.heap.size+1) 3 1 (.slice (some ⟨w.heap.size+1,0,none⟩) m.ex.length m.ex.length) m.ex.length (zas m.ex.length (zaJ (zaJ (cE m.ex j) A) E))):=zg4 z E ub (by rw[ap,af])
    have aU:Hid (OwnMd (V.setCell ⟨w.heap.size+1,E,none⟩ (.int .i64 (ub:Int))) q S m):=zg5 X (zg7 z)
    have aK:Hid ((V.setCell ⟨w.heap.size+1,E,none⟩ (.int .i64 (ub:Int))).heap[w.heap.size]? =some (.cells #[.slice S.rq.a m.rq.length S.rq.cap,.slice S.im.a m.im.length S.im.cap,.slice S.ep.a m.ep.length S.ep.cap,.slice S.st.a m.st.length S.st.cap,.slice S.ex.a m.ex.length S.ex.cap] 48 (0,0))):=(zv (by omega)).trans N
    have aY:Hid (Below w.heap.size w (V.setCell ⟨w.heap.size+1,E,none⟩ (.int .i64 (ub:Int)))):=J.setCell (Nat.le_succ _) _
    have bk:Hid ((V.setCell ⟨w.heap.size+1,E,none⟩ (.int .i64 (ub:Int))).heap[wr.heap.size]? =some (.cells #[.int .i64 x.kind,.int .i64 x.num,.string x.name,.string x.field,.int .i64 (A:Int),.int .i64 (E:Int)] 85 (0,0))):=(zv (by omega)).trans xb
    clear xb z X N J af ap
    go_region
    clear s0 s1 s2 s3 s4 s5 sf ef eb
    go_wp2
    go_roundg (gk-1)
    case rel=>exact⟨K,rfl,by have:=O.out;omega,by rw[O.out];exact aR.out,by rw[O.out,←zep fun k _=>HU.out k];exact aO.out,aU.out.drewI,aK.out,aY.out.drew⟩
    case measure=>omega
  ·have aH: ¬(j:Int)<(m.ex.length:Int):=by omega
   obtain rfl:j=m.ex.length:=by omega
   have HA:=zc AH.out.all
   have HC:Hid (wr.ownsRow (w.heap.size+1) 3 1 (.slice (some ⟨w.heap.size+1,0,none⟩) m.ex.length m.ex.length) m.ex.length (zas m.ex.length (cS m 0))):=by show World.ownsRow _ _ _ _ _ _ _;rw[show zas m.ex.length (cS m 0)=zas m.ex.length (cE m.ex m.ex.length) from zep fun k _=>by simp[cE,cS,zaL]];exact HN.out
   go_wp2
   go_loopg [6] m.st.length (fun k i wr=>∃j:Nat,i= .int .i64 j∧j+k=m.st.length∧(∀s∈m.st.take j,0≤s.expr∧s.expr<(m.ex.length:Int))∧wr.ownsRow (w.heap.size+1) 3 1 (.slice (some ⟨w.heap.size+1,0,none⟩) m.ex.length m.ex.length) m.ex.length (zas m.ex.length (cS m j))∧OwnMd wr q S m∧wr.heap[w.heap.size]? =some (.cells #[.slice S.rq.a m.rq.length S.rq.cap,.slice S.im.a m.im.length S.im.cap,.slice S.ep.a m.ep.length S.ep.cap,.slice S.st.a m.st.length S.st.cap,.slice S.ex.a m.ex.length S.ex.cap] 48 (0,0))∧Below w.heap.size w wr)
   case atStart=>exact⟨0,rfl,by omega,(fun s hs=>by simp at hs),HC.out,HO.out,HX.out,U.out⟩
   case round=>
    obtain⟨j,rfl,br,ah,z,X,N,J⟩:=hrel
    have AS:=zc ah
    have aa:=zc z
    have aC:=zc X
    have aF:=zc N
    have aj:=zc J
    clear ah z X N J c0 c1 c2 c3 c4 cf
    obtain⟨c0,c1,c2,c3,c4,cf⟩:=zk aF.out
    by_cases H:j<m.st.length
    ·have ar:(j:Int)<(m.st.length:Int):=by omega
     obtain⟨s,av⟩: ∃s,m.st[j]? =some s:=⟨_,List.getElem?_eq_getElem H⟩
     obtain⟨g,hg,aA⟩:=OwnR.elem (f:=smL) (m:=3) (fun _=>rfl) aC.out.st av
     have k2:=aA 2 (by omega)
     simp only[smL,List.getElem?_cons_zero,List.getElem?_cons_succ] at k2
     rw[hg] at c3
     obtain⟨_,am⟩:=List.getElem?_eq_some_iff.1 av
     have HS:Hid (m.st[j]=s):=am
     clear hg aA av am
     obtain⟨K,I⟩: ∃K,K=j+1:=⟨_,rfl⟩
     have ej:(j:Int)+1=(K:Int):=by omega
     have O:=zc I
     clear I
     by_cases a1:s.expr<0
     ·have ag:decide (s.expr<0)=true:=decide_eq_true a1
      go_wp2
      go_ret
      exact⟨zcR (fun (t:Tree m)=>by have:=t.stm _ (List.getElem_mem H);rw[HS.out] at this;omega),aj.out⟩
     have ag:decide (s.expr<0)=false:=decide_eq_false a1
     by_cases a2:(m.ex.length:Int)≤s.expr
     ·have ab:decide ((m.ex.length:Int)≤s.expr)=true:=decide_eq_true a2
      go_wp2
      go_ret
      exact⟨zcR (fun (t:Tree m)=>by have:=t.stm _ (List.getElem_mem H);rw[HS.out] at this;omega),aj.out⟩
     have ab:decide ((m.ex.length:Int)≤s.expr)=false:=decide_eq_false a2
     obtain⟨M,aq⟩: ∃M:Nat,s.expr=(M:Int):=⟨s.expr.toNat,by omega⟩
     have aP:M<m.ex.length:=by omega
     have a7:(M:Int)<(m.ex.length:Int):=by omega
     have aw:Hid (∀s∈m.st.take (j+1),0≤s.expr∧s.expr<(m.ex.length:Int)):=by
      intro y hy
      rw[List.take_succ_eq_append_getElem H,List.mem_append] at hy
      rcases hy with hy|hy
      ·exact AS.out y hy
      ·simp only[List.mem_singleton] at hy
       rw[hy,HS.out]
       omega
     have HU:Hid (∀k:Nat,zaJ (cS m j) M k=cS m (j+1) k):=fun k=>by have:=zk1 (ex:=m.ex) H (by rw[HS.out];omega) k;rw[HS.out,aq] at this;exact this
     rw[aq] at k2 a1 a2 ag ab
     obtain⟨v,hv⟩: ∃v,cS m j M=v:=⟨_,rfl⟩
     have ea:=zeO aa.out aP
     have ef:=aa.out.frozenAt
     rw[hv] at ea
     have af:v≤17179869184:=by rw[←hv];unfold cS;have:=zg2 m.ex (M:Int);have:=zky (m.st.take j) (M:Int);rw[List.length_take] at this;omega
     obtain⟨u,hu⟩: ∃u,u=v+1:=⟨_,rfl⟩
     have ev:(v:Int)+1=(u:Int):=by omega
     have ap:u≤17179869185:=by omega
     have NN:Hid ((wr.setCell ⟨w.heap.size+1,M,none⟩ (.int .i64 (u:Int))).ownsRow (w.heap.size+1) 3 1 (.slice (some ⟨w.heap.size+1,0,none⟩) m.ex.length m.ex.length) m.ex.length (zas m.ex.length (zaJ (cS m j) M))):=zg4 aa.out M u (by rw[hu,hv])
     have NO:Hid (OwnMd (wr.setCell ⟨w.heap.size+1,M,none⟩ (.int .i64 (u:Int))) q S m):=zg5 aC.out (zg7 aa.out)
     have NX:Hid ((wr.setCell ⟨w.heap.size+1,M,none⟩ (.int .i64 (u:Int))).heap[w.heap.size]? =some (.cells #[.slice S.rq.a m.rq.length S.rq.cap,.slice S.im.a m.im.length S.im.cap,.slice S.ep.a m.ep.length S.ep.cap,.slice S.st.a m.st.length S.st.cap,.slice S.ex.a m.ex.length S.ex.cap] 48 (0,0))):=(zv (by omega)).trans aF.out
     have NB:Hid (Below w.heap.size w (wr.setCell ⟨w.heap.size+1,M,none⟩ (.int .i64 (u:Int)))):=aj.out.setCell (Nat.le_succ _) _
     clear aq hv hu
     go_wp2
     go_roundg (gk-1)
     case rel=>exact⟨K,rfl,by have:=O.out;omega,by rw[O.out];exact aw.out,by rw[O.out,←zep fun k _=>HU.out k];exact NN.out,NO.out,NX.out,NB.out⟩
     case measure=>omega
    ·have ar: ¬(j:Int)<(m.st.length:Int):=by omega
     obtain rfl:j=m.st.length:=by omega
     have aw:Hid (∀s∈m.st,0≤s.expr∧s.expr<(m.ex.length:Int)):=by have:=AS.out;rw[List.take_length] at this;exact this
     go_wp2
     go_loopg [8] m.ex.length (fun k i wr=>∃j:Nat,i= .int .i64 j∧j+k=m.ex.length∧(∀k,k<j→cS m m.st.length k=1)∧wr.ownsRow (w.heap.size+1) 3 1 (.slice (some ⟨w.heap.size+1,0,none⟩) m.ex.length m.ex.length) m.ex.length (zas m.ex.length (cS m m.st.length))∧Below w.heap.size w wr)
     case atStart=>exact⟨0,rfl,by omega,fun k hk=>absurd hk (Nat.not_lt_zero k),aa.out,aj.out⟩
     case round=>
      obtain⟨j,rfl,bg,ah,z,J⟩:=hrel
      have AC:=zc ah
      have aB:=zc z
      have an:=zc J
      clear ah z J c0 c1 c2 c3 c4 cf
      by_cases al:j<m.ex.length
      ·have au:(j:Int)<(m.ex.length:Int):=by omega
       obtain⟨v,hv⟩: ∃v,cS m m.st.length j=v:=⟨_,rfl⟩
       have ea:=zeO aB.out al
       rw[hv] at ea
       have HV:=zc hv
       clear hv
       obtain⟨K,I⟩: ∃K,K=j+1:=⟨_,rfl⟩
       have ej:(j:Int)+1=(K:Int):=by omega
       have O:=zc I
       clear I
       by_cases aJ:v=1
       ·subst aJ
        go_wp2
        go_roundg (gk-1)
        case rel=>exact⟨K,rfl,by have:=O.out;omega,(fun k hk=>(Nat.lt_or_eq_of_le (show k≤j by have:=O.out;omega)).elim (AC.out k) (fun e=>by rw[e];exact HV.out)),aB.out,an.out⟩
        case measure=>omega
       ·have dv:((v:Int) !=1)=true:=by rw[bne_iff_ne];omega
        go_wp2
        go_ret
        exact⟨zcR (fun (t:Tree m)=>absurd (by have:=t.once j al;have h2:=HV.out;unfold cS at h2;rw[List.take_length] at h2;omega) aJ),an.out⟩
      ·have au: ¬(j:Int)<(m.ex.length:Int):=by omega
       go_wp2
       go_ret
       exact⟨zk3 ⟨HA.out,aw.out,fun k hk=>by have:=AC.out k (by omega);unfold cS at this;rw[List.take_length] at this;exact this⟩,an.out⟩
theorem zg8 {α:Type} {l:List α} {j:Nat} (h:j<l.length): ∃x,l[j]? =some x:=⟨_,List.getElem?_eq_getElem h⟩
theorem zqG (t:ByteArray):t++sNone=t:=by
 cases t with
 |mk d=>
  show ByteArray.append _ _=_
  simp[ByteArray.append]
theorem zqH (m:Md):(acc (stF m.ex) m.st (zcc m)).size≤(zcd m).size:=Nat.le_refl _
theorem zk4 (m:Md):(acc epF m.ep (acc zab m.im (acc rqT m.rq sNone))).size≤(zcd m).size:=zed _ _ _
theorem zk5 (m:Md):(acc zab m.im (acc rqT m.rq sNone)).size≤(zcd m).size:=Nat.le_trans (zed _ _ _) (zk4 m)
theorem zqI (m:Md):(acc rqT m.rq sNone).size≤(zcd m).size:=Nat.le_trans (zed _ _ _) (zk5 m)
theorem zqJ (k:Int) (n e:ByteArray):e.size≤(za5 k n e).size:=by
 unfold za5
 repeat (first|split|(simp only[ByteArray.size_append];omega))
theorem zqK (O:Nat) (S:Sv) (m:Md) (au:Bool) (w:World) (h:OwnMd w O S m) (hm:Small m) (ak:Tree m→(zcd m).size≤1099511627776):
  Calls Tryz.prog 32 #[zn S m,.bool au] w fun e w'=>PrintOut (zcd m) m e∧Below w.heap.size w w':=by
 have HH:=zc h
 have SM:=zc hm
 have HU:=zc ak
 obtain⟨f1,f2,f3,f4,f5⟩:=hm.few
 clear h hm ak
 unfold zn
 go_enter Tryz.func32,Tryz.ntmps32
 go_wp2_with fail
 refine (zqF O S m _ (HH.out.alloc _) f5 f4).mono ?_
 rintro e w1 ⟨⟨b,rfl,I⟩,ah⟩
 have HT:=zc I
 have af:Hid (Below w.heap.size w w1):=((Below.refl _ _).alloc (Nat.le_refl _) _).trans (ah.mono (by rw[zg];omega))
 have al:Hid (w1.heap[w.heap.size]? =some (.cells #[.slice S.rq.a m.rq.length S.rq.cap,.slice S.im.a m.im.length S.im.cap,.slice S.ep.a m.ep.length S.ep.cap,.slice S.st.a m.st.length S.st.cap,.slice S.ex.a m.ex.length S.ex.cap] 48 (0,0))):=(ah.block _ (by rw[zg];omega)).trans (heap_alloc_new w _)
 have ay:=zc (HH.out.later af.out)
 clear I ah
 obtain⟨c0,c1,c2,c3,c4,cf⟩:=zk al.out
 cases b with
 |false=>
  go_wp2
  go_ret
  exact⟨.inr ⟨(fun t=>by have:=HT.out.2 t;cases this),rfl⟩,af.out⟩
 |true=>
  have TR:=zc (HT.out.1 rfl)
  have HZ:=zc (HU.out TR.out)
  go_wp2
  go_loopg [5,6] m.rq.length (fun k t i wr=>∃(j:Nat) (H:ByteArray),i= .int .i64 j∧t= .string H∧j+k=m.rq.length∧H=acc rqT (m.rq.take j) sNone∧OwnMd wr O S m∧wr.heap[w.heap.size]? =some (.cells #[.slice S.rq.a m.rq.length S.rq.cap,.slice S.im.a m.im.length S.im.cap,.slice S.ep.a m.ep.length S.ep.cap,.slice S.st.a m.st.length S.st.cap,.slice S.ex.a m.ex.length S.ex.cap] 48 (0,0))∧Below w.heap.size w wr)
  case atStart=>exact⟨0,_,rfl,rfl,by omega,rfl,ay.out,al.out,af.out⟩
  case round=>
   obtain⟨j,H,rfl,rfl,hj,M,ho,hx,I⟩:=hrel
   have q:=zc M
   have Y:=zc ho
   have V:=zc hx
   have HB:=zc I
   clear M ho hx I c0 c1 c2 c3 c4 cf
   obtain⟨c0,c1,c2,c3,c4,cf⟩:=zk V.out
   have aa:=(Array.getElem?_eq_some_iff.1 V.out).1
   by_cases X:j<m.rq.length
   ·have N:(j:Int)<(m.rq.length:Int):=by omega
    obtain⟨x,A⟩:=zg8 X
    have D:=List.mem_of_getElem? A
    have HS:=zc (zc0 rqT A sNone)
    have z:=zdC rqT m.rq (j+1) sNone
    rw[HS.out,←q.out,ByteArray.size_append] at z
    have J:(acc rqT m.rq sNone).size≤1099511627776:=Nat.le_trans (zqI m) HZ.out
    obtain⟨U,L⟩: ∃U,U=j+1:=⟨_,rfl⟩
    have ej:(j:Int)+1=(U:Int):=by omega
    have HJ:=zc L
    clear L
    have ag:H.size≤1099511627776:=by omega
    obtain⟨g,hg,hc⟩:=Y.out.rq.text X
    rw[hg] at c0
    have an:m.rq.getD j sNone=x:=by rw[List.getD,A];rfl
    rw[an] at hc
    clear hg an
    have aB:=SM.out.rq x D
    obtain⟨qt,aj⟩: ∃t,za0 x=t:=⟨_,rfl⟩
    have am:=zhI x
    rw[aj] at am
    have aC:qt.size≤8589934592:=by omega
    have QT:=zc aj
    clear aj am z J A D
    go_wp2_with fail
    refine (zg1 x _ (by omega)).mono ?_
    rintro e w2 ⟨rfl,hw⟩
    rw[hw,QT.out]
    clear hw w2
    go_wp2
    go_roundg (gk-1)
    case rel=>exact⟨U,_,rfl,rfl,by have:=HJ.out;omega,by rw[HJ.out,HS.out,←q.out,rqT,QT.out,ByteArray.append_assoc,ByteArray.append_assoc,ByteArray.append_assoc],Y.out,V.out,HB.out⟩
    case measure=>omega
   ·have N: ¬(j:Int)<(m.rq.length:Int):=by omega
    have Z:Hid (H=acc rqT m.rq sNone):=by show H=_;rw[q.out,List.take_of_length_le (by omega)]
    clear q
    go_wp2
    go_loopg [5,7] m.im.length (fun k t i wr=>∃(j:Nat) (H:ByteArray),i= .int .i64 j∧t= .string H∧j+k=m.im.length∧H=acc zab (m.im.take j) (acc rqT m.rq sNone)∧OwnMd wr O S m∧wr.heap[w.heap.size]? =some (.cells #[.slice S.rq.a m.rq.length S.rq.cap,.slice S.im.a m.im.length S.im.cap,.slice S.ep.a m.ep.length S.ep.cap,.slice S.st.a m.st.length S.st.cap,.slice S.ex.a m.ex.length S.ex.cap] 48 (0,0))∧Below w.heap.size w wr)
    case atStart=>exact⟨0,_,rfl,rfl,by omega,Z.out,Y.out,V.out,HB.out⟩
    case round=>
     obtain⟨j,H,rfl,rfl,hj,M,ho,hx,I⟩:=hrel
     have q:=zc M
     have Y:=zc ho
     have V:=zc hx
     have HB:=zc I
     clear M ho hx I c0 c1 c2 c3 c4 cf
     obtain⟨c0,c1,c2,c3,c4,cf⟩:=zk V.out
     have aa:=(Array.getElem?_eq_some_iff.1 V.out).1
     by_cases X:j<m.im.length
     ·have N:(j:Int)<(m.im.length:Int):=by omega
      obtain⟨x,A⟩:=zg8 X
      have D:=List.mem_of_getElem? A
      have HS:=zc (zc0 zab A (acc rqT m.rq sNone))
      have z:=zdC zab m.im (j+1) (acc rqT m.rq sNone)
      rw[HS.out,←q.out,ByteArray.size_append] at z
      have J:(acc zab m.im (acc rqT m.rq sNone)).size≤1099511627776:=Nat.le_trans (zk5 m) HZ.out
      obtain⟨U,L⟩: ∃U,U=j+1:=⟨_,rfl⟩
      have ej:(j:Int)+1=(U:Int):=by omega
      have HJ:=zc L
      clear L
      have ag:H.size≤1099511627776:=by omega
      obtain⟨g,hg,E⟩:=OwnR.elem (f:=imL) (m:=3) (fun _=>rfl) Y.out.im A
      rw[hg] at c1
      have k0:=E 0 (by omega)
      have k1:=E 1 (by omega)
      have k2:=E 2 (by omega)
      simp only[imL,Nat.add_zero,List.getElem?_cons_zero,List.getElem?_cons_succ] at k0 k1 k2
      obtain⟨z1,z2,z3⟩:=SM.out.im x D
      clear hg E A D
      obtain⟨pt,K⟩: ∃t,zab x=t:=⟨_,rfl⟩
      have ap:pt.size≤1099511627776:=by rw[←K];omega
      have PT:=zc K
      clear K z J
      go_wp2_with fail
      refine (zq1 x _ z1 z2 z3).mono ?_
      rintro e w2 ⟨rfl,I⟩
      rw[PT.out]
      have ac:=zc (Y.out.later I)
      have ad:=zc ((I.block _ aa).trans V.out)
      have ab:=zc (HB.out.trans (I.mono HB.out.size))
      clear I
      go_wp2
      go_roundg (gk-1)
      case rel=>exact⟨U,_,rfl,rfl,by have:=HJ.out;omega,by rw[HJ.out,HS.out,←q.out,PT.out],ac.out,ad.out,ab.out⟩
      case measure=>omega
     ·have N: ¬(j:Int)<(m.im.length:Int):=by omega
      have Z:Hid (H=acc zab m.im (acc rqT m.rq sNone)):=by show H=_;rw[q.out,List.take_of_length_le (by omega)]
      clear q
      go_wp2
      go_loopg [5,8] m.ep.length (fun k t i wr=>∃(j:Nat) (H:ByteArray),i= .int .i64 j∧t= .string H∧j+k=m.ep.length∧H=acc epF (m.ep.take j) (acc zab m.im (acc rqT m.rq sNone))∧OwnMd wr O S m∧wr.heap[w.heap.size]? =some (.cells #[.slice S.rq.a m.rq.length S.rq.cap,.slice S.im.a m.im.length S.im.cap,.slice S.ep.a m.ep.length S.ep.cap,.slice S.st.a m.st.length S.st.cap,.slice S.ex.a m.ex.length S.ex.cap] 48 (0,0))∧Below w.heap.size w wr)
      case atStart=>exact⟨0,_,rfl,rfl,by omega,Z.out,Y.out,V.out,HB.out⟩
      case round=>
       obtain⟨j,H,rfl,rfl,hj,M,ho,hx,I⟩:=hrel
       have q:=zc M
       have Y:=zc ho
       have V:=zc hx
       have HB:=zc I
       clear M ho hx I c0 c1 c2 c3 c4 cf
       obtain⟨c0,c1,c2,c3,c4,cf⟩:=zk V.out
       have aa:=(Array.getElem?_eq_some_iff.1 V.out).1
       by_cases X:j<m.ep.length
       ·have N:(j:Int)<(m.ep.length:Int):=by omega
        obtain⟨x,A⟩:=zg8 X
        have D:=List.mem_of_getElem? A
        have HS:=zc (zc0 epF A (acc zab m.im (acc rqT m.rq sNone)))
        have z:=zdC epF m.ep (j+1) (acc zab m.im (acc rqT m.rq sNone))
        rw[HS.out,←q.out,ByteArray.size_append] at z
        have J:(acc epF m.ep (acc zab m.im (acc rqT m.rq sNone))).size≤1099511627776:=Nat.le_trans (zk4 m) HZ.out
        obtain⟨U,L⟩: ∃U,U=j+1:=⟨_,rfl⟩
        have ej:(j:Int)+1=(U:Int):=by omega
        have HJ:=zc L
        clear L
        have ag:H.size≤1099511627776:=by omega
        obtain⟨g,hg,E⟩:=OwnR.elem (f:=epL) (m:=4) (fun _=>rfl) Y.out.ep A
        rw[hg] at c2
        have k0:=E 0 (by omega)
        have k1:=E 1 (by omega)
        have k2:=E 2 (by omega)
        have k3:=E 3 (by omega)
        simp only[epL,Nat.add_zero,List.getElem?_cons_zero,List.getElem?_cons_succ] at k0 k1 k2 k3
        obtain⟨z1,z2,z3⟩:=SM.out.ep x D
        clear hg E A D
        cases hd:(x.loc.toList==[42,100,101,102,97,117,108,116]) with
        |true=>
         clear z J
         go_wp2
         go_roundg (gk-1)
         case rel=>exact⟨U,_,rfl,rfl,by have:=HJ.out;omega,by rw[HJ.out,HS.out,←q.out,epF,hd];show H=H++sNone;rw[zqG],Y.out,V.out,HB.out⟩
         case measure=>omega
        |false=>
         obtain⟨pt,K⟩: ∃t,zbp x=t:=⟨_,rfl⟩
         have ap:pt.size≤1099511627776:=by rw[←K,←show epF x=zbp x from (by rw[epF,hd];rfl)];omega
         have PT:=zc K
         clear K z J
         go_wp2_with fail
         refine (zq2 x _ z1 z2 z3).mono ?_
         rintro e w2 ⟨rfl,I⟩
         rw[PT.out]
         have ac:=zc (Y.out.later I)
         have ad:=zc ((I.block _ aa).trans V.out)
         have ab:=zc (HB.out.trans (I.mono HB.out.size))
         clear I
         go_wp2
         go_roundg (gk-1)
         case rel=>exact⟨U,_,rfl,rfl,by have:=HJ.out;omega,by rw[HJ.out,HS.out,←q.out,epF,hd];show _=H++zbp x;rw[PT.out],ac.out,ad.out,ab.out⟩
         case measure=>omega
       ·have N: ¬(j:Int)<(m.ep.length:Int):=by omega
        have Z:Hid (H=acc epF m.ep (acc zab m.im (acc rqT m.rq sNone))):=by show H=_;rw[q.out,List.take_of_length_le (by omega)]
        clear q
        go_wp2
        go_loopg [5,9] m.st.length (fun k t i wr=>∃(j:Nat) (H:ByteArray),i= .int .i64 j∧t= .string H∧j+k=m.st.length∧H=acc (stF m.ex) (m.st.take j) (zcc m)∧OwnMd wr O S m∧wr.heap[w.heap.size]? =some (.cells #[.slice S.rq.a m.rq.length S.rq.cap,.slice S.im.a m.im.length S.im.cap,.slice S.ep.a m.ep.length S.ep.cap,.slice S.st.a m.st.length S.st.cap,.slice S.ex.a m.ex.length S.ex.cap] 48 (0,0))∧Below w.heap.size w wr)
        case atStart=>exact⟨0,_,rfl,rfl,by omega,Z.out,Y.out,V.out,HB.out⟩
        case round=>
         obtain⟨j,H,rfl,rfl,hj,M,ho,hx,I⟩:=hrel
         have q:=zc M
         have Y:=zc ho
         have V:=zc hx
         have HB:=zc I
         clear M ho hx I c0 c1 c2 c3 c4 cf
         obtain⟨c0,c1,c2,c3,c4,cf⟩:=zk V.out
         have aa:=(Array.getElem?_eq_some_iff.1 V.out).1
         by_cases X:j<m.st.length
         ·have N:(j:Int)<(m.st.length:Int):=by omega
          obtain⟨x,A⟩:=zg8 X
          have D:=List.mem_of_getElem? A
          have HS:=zc (zc0 (stF m.ex) A (zcc m))
          have z:=zdC (stF m.ex) m.st (j+1) (zcc m)
          rw[HS.out,←q.out,ByteArray.size_append] at z
          have J:(acc (stF m.ex) m.st (zcc m)).size≤1099511627776:=Nat.le_trans (zqH m) HZ.out
          obtain⟨U,L⟩: ∃U,U=j+1:=⟨_,rfl⟩
          have ej:(j:Int)+1=(U:Int):=by omega
          have HJ:=zc L
          clear L
          have ag:H.size≤1099511627776:=by omega
          obtain⟨g,hg,E⟩:=OwnR.elem (f:=smL) (m:=3) (fun _=>rfl) Y.out.st A
          rw[hg] at c3
          have k0:=E 0 (by omega)
          have k1:=E 1 (by omega)
          have k2:=E 2 (by omega)
          simp only[smL,Nat.add_zero,List.getElem?_cons_zero,List.getElem?_cons_succ] at k0 k1 k2
          have z1:=SM.out.st x D
          obtain⟨t1,t2⟩:=TR.out.stm x D
          obtain⟨en,ai⟩: ∃en:Nat,x.expr=(en:Int):=⟨x.expr.toNat,by omega⟩
          obtain⟨pt,K⟩: ∃t,za5 x.kind x.name (prX m.ex en)=t:=⟨_,rfl⟩
          have ao:stF m.ex x=pt:=by rw[stF,ai,Int.toNat_natCast,K]
          rw[ao] at HS z
          have ap:pt.size≤1099511627776:=by omega
          have aq:wt m.ex en≤1099511627776:=by have:=zqJ x.kind x.name (prX m.ex en);rw[K] at this;unfold wt;omega
          rw[ai] at k2
          have HG:=zc hg
          have cS: ∀d os,Calls Tryz.prog 58 #[.agg #[.slice S.rq.a m.rq.length S.rq.cap,.slice S.im.a m.im.length S.im.cap,.slice S.ep.a m.ep.length S.ep.cap,.slice (some ⟨g,0,none⟩) m.st.length S.st.cap,.slice S.ex.a m.ex.length S.ex.cap],.agg #[.int .i64 x.kind,.string x.name,.int .i64 (en:Int)]] (grow (redrawn wr d) os) fun e ax=>e= .returned (.string pt)∧∃p:Regrown,ax=grow (redrawn wr p.d) p.os:=fun d os=>Calls.regrown_of (by rw[←K,←hg];exact zqA O S m x.kind x.name en _ (Y.out.later (below_regrown _ d os)) (by omega) SM.out.nums TR.out.ahead aq z1)
          have C0:=zc c0
          have C1:=zc c1
          have C2:=zc c2
          have C3:=zc c3
          have C4:=zc c4
          have K0:=zc k0
          have K1:=zc k1
          have K2:=zc k2
          clear hg E A D K ao z J ai HG
          go_wp2_with fail
          have y0:=cell_regrown C0.out
          have y1:=cell_regrown C1.out
          have y2:=cell_regrown C2.out
          have y3:=cell_regrown C3.out
          have y4:=cell_regrown C4.out
          have aw:=cell_regrown K0.out
          have av:=cell_regrown K1.out
          have az:=cell_regrown K2.out
          refine wp_region_quiet_below (by kernel_rfl) (by kernel_rfl) ?_
          repeat (go_big_quiet_step (with_reducible exact cS _ _))
          refine wpQuiet_nil ?_
          intro w2 ar
          obtain⟨⟨dq,aA⟩,ae⟩:=ar
          have I:Below wr.heap.size wr w2:=by rw[ae];exact below_regrown _ _ _
          have ac:=zc (Y.out.later I)
          have ad:=zc ((I.block _ aa).trans V.out)
          have ab:=zc (HB.out.trans (I.mono HB.out.size))
          clear I ae y0 y1 y2 y3 y4 aw av az cS
          go_wp2
          go_roundg (gk-1)
          case rel=>exact⟨U,_,rfl,rfl,by have:=HJ.out;omega,by rw[HJ.out,HS.out,←q.out],ac.out,ad.out,ab.out⟩
          case measure=>omega
         ·have N: ¬(j:Int)<(m.st.length:Int):=by omega
          have Z:Hid (H=acc (stF m.ex) m.st (zcc m)):=by show H=_;rw[q.out,List.take_of_length_le (by omega)]
          clear q
          go_wp2
          go_ret
          exact⟨.inl ⟨TR.out,za6 Z.out⟩,HB.out⟩
theorem Tryz.infoString:(Tryz.prog.info? 9).map (fun i=>(i.zero,i.size,i.bytes))=some (some (.string {data:=#[]}),1,16):=by kernel_rfl
theorem OwnR.addr {w:World} {q size n:Nat} {e:TypeId} {r:Rw} {xs:List Value} (h:OwnR w q e size r n xs):n=0∨∃g,r.a=some ⟨g,0,none⟩:=by
 rcases h.2 with ⟨_,D⟩|⟨g,E,A,z,_⟩
 ·exact .inl D
 ·simp only[Value.slice.injEq] at z
  exact .inr ⟨g,z.1⟩
theorem OwnR.str {w:World} {q:Nat} {e:TypeId} {r:Rw} {l:List ByteArray} {g:Nat} (h:OwnR w q e 1 r l.length (l.map .string)) (z:r.a=some ⟨g,0,none⟩) {j:Nat} (A:j<l.length):w.cell? ⟨g,j,none⟩=some (.string (l.getD j sNone)):=by
 unfold OwnR at h
 rw[z] at h
 rw[h.cellAt j (by omega)]
 simp[List.getD,A]
theorem OwnR.lt {w:World} {q size n:Nat} {e:TypeId} {r:Rw} {xs:List Value} {g:Nat} (h:OwnR w q e size r n xs) (z:r.a=some ⟨g,0,none⟩):g<w.heap.size:=(h.typed (k:=g) (by simp[Rw.blk,z,Value.ownBlock])).2.1
theorem zqL {l:List ByteArray} {x:ByteArray} {j:Nat} (q:j<l.length) (h:((l.getD j sNone).toList==x.toList)=true):zaQ l x=true:=by
 rw[zaQ,List.any_eq_true]
 exact⟨l[j],List.getElem_mem q,by simpa [List.getD,q] using h⟩
theorem zqM {l:List ByteArray} {x:ByteArray} (h: ∀j,j<l.length→((l.getD j sNone).toList==x.toList)=false):zaQ l x=false:=by
 rw[Bool.eq_false_iff,zaQ]
 intro k
 rw[List.any_eq_true] at k
 obtain⟨y,z,q⟩:=k
 obtain⟨j,w,rfl⟩:=List.getElem_of_mem z
 have:=h j w
 simp only[List.getD,List.getElem?_eq_getElem w,Option.getD_some] at this
 rw[this] at q
 cases q
theorem zqN {C:Cx} {x:PR} {q:PS} {z:Int} (A:Is x q z) (E:(decide (z<0)&&((ze C q.pos).kind==3))=false):Is2 (bd x (zL C)) q (zb2 C q.pos z) sNone:=by
 unfold zb2
 by_cases h:z<0
 ·obtain⟨w,D⟩:=zaG A h
  simp only[h,decide_true,Bool.true_and] at E
  rw[w,zA,zL,E,if_pos h]
  rfl
 ·obtain⟨e,w,D⟩:=zd1 A h
  rw[w,ze3,if_neg h]
  exact D
theorem zqO (C:Cx) (J E h:Nat) (x:PR) (S:Sv) (q:PS) (z:Int) (d:Nat) (w:World) (hx:Is x q z) (N:Mem C J E h S q w) (O:(decide (z<0)&&((ze C q.pos).kind==3))=false):
  Calls Tryz.prog 132 #[pv C J E S q z d] w (zdA C J E h (bd x (zL C)) d S w):=by
 have Y:=zc N
 have A:=N.tok
 have H:=N.few
 have X:Hid (Is2 (bd x (zL C)) q (zb2 C q.pos z) sNone):=zqN hx O
 clear hx N
 by_cases hz:z<0
 ·have U:decide (0≤z)=false:=decide_eq_false (by omega)
  simp only[hz,decide_true,Bool.true_and] at O
  by_cases hp:q.pos<C.ts.length
  ·obtain⟨M,_,_,_⟩:=A.cells hp (d:=⟨0,sNone,0,C.fin⟩)
   have aa:=(zau A).1
   change _=some (Value.int .i64 (ze C q.pos).kind) at M
   generalize V:ze C q.pos=t at M O
   have ab:(t.kind !=3)=true:=by rw[bne,O];rfl
   clear V
   unfold pv
   go_enter Tryz.func132,Tryz.ntmps132
   go_wp2_with fail
   refine (zdz C J E h S q z d _ (zr (zr A _) _) H).mono ?_
   rintro e w2 ⟨rfl,D⟩
   have I:Hid (_=_):=(zcL D).2
   obtain⟨M,c1,c2,c3,c4,c5,c6,Z,c8,c9,L,K,cf⟩:=zan I.out
   unfold pv
   go_wp2
   refine bodyPost_ret (zaI rfl _ _ (w.heap.size+1) 101 _ (0,0) _ rfl (zbb I.out) Tryz.underlying101 rfl (by kernel_rfl)) rfl ?_
   exact zdZ rfl X.out Y.out (zbR (zbg D) (Nat.le_succ _) ..)
  ·unfold pv
   go_enter Tryz.func132,Tryz.ntmps132
   go_wp2_with fail
   refine (zdz C J E h S q z d _ (zr (zr A _) _) H).mono ?_
   rintro e w2 ⟨rfl,D⟩
   have I:Hid (_=_):=(zcL D).2
   obtain⟨M,c1,c2,c3,c4,c5,c6,Z,c8,c9,L,K,cf⟩:=zan I.out
   unfold pv
   go_wp2
   refine bodyPost_ret (zaI rfl _ _ (w.heap.size+1) 101 _ (0,0) _ rfl (zbb I.out) Tryz.underlying101 rfl (by kernel_rfl)) rfl ?_
   exact zdZ rfl X.out Y.out (zbR (zbg D) (Nat.le_succ _) ..)
 ·have U:decide (0≤z)=true:=decide_eq_true (by omega)
  unfold pv
  go_enter Tryz.func132,Tryz.ntmps132
  go_wp2_with fail
  refine (zdz C J E h S q z d _ (zr (zr A _) _) H).mono ?_
  rintro e w2 ⟨rfl,D⟩
  have I:Hid (_=_):=(zcL D).2
  obtain⟨M,c1,c2,c3,c4,c5,c6,Z,c8,c9,L,K,cf⟩:=zan I.out
  unfold pv
  go_wp2
  refine bodyPost_ret (zaI rfl _ _ (w.heap.size+1) 101 _ (0,0) _ rfl (zbb I.out) Tryz.underlying101 rfl (by kernel_rfl)) rfl ?_
  exact zdZ rfl X.out Y.out (zbR (zbg D) (Nat.le_succ _) ..)
def txt (C:Cx) (q:PS):ByteArray:=(ze C q.pos).text
theorem zqP {C:Cx} {q:PS} (w:((ze C q.pos).kind==3)=true) (h:zaQ q.rq (txt C q)=true):zL C q= .ok (adv q,txt C q):=by
 unfold txt at h
 rw[zL,if_pos w,if_pos h];rfl
theorem zqQ {C:Cx} {q:PS} (z:((ze C q.pos).kind==3)=true) (h:zaQ q.rq (txt C q)=false) (w:40≤q.rq.length):zL C q= .error (zs C q.pos):=by
 unfold txt at h
 rw[zL,if_pos z,h,if_pos w];rfl
theorem zqR {C:Cx} {q:PS} (z:((ze C q.pos).kind==3)=true) (h:zaQ q.rq (txt C q)=false) (w: ¬40≤q.rq.length):zL C q= .ok ({adv q with rq:=q.rq++[txt C q]},txt C q):=by
 unfold txt at h
 rw[zL,if_pos z,h,if_neg w];rfl
theorem zk6 (C:Cx) (Z D h:Nat) (S:Sv) (q:PS) (d:Nat) (w:World) (K:Mem C Z D h S q w) (h3:((ze C q.pos).kind==3)=true) (g:Nat) (J:q.rq.length=0∨S.rq.a=some ⟨g,0,none⟩):
  Calls Tryz.prog 132 #[pv C Z D S q (-1) d] w (zdA C Z D h (zL C q) d S w):=by
 obtain⟨i0,hi,ai,ah,ag⟩:=info_parts Tryz.infoString
 have A:=zc K
 have H3:=zc h3
 have U:q.pos<C.ts.length:=zfO h3 (by decide)
 have ak:=K.few
 have an:=K.inv.rq
 have aj:=(zau K.tok).1
 obtain⟨c0,c1,_,_⟩:=K.tok.cells U (d:=⟨0,sNone,0,C.fin⟩)
 change _=some (Value.int .i64 (ze C q.pos).kind) at c0
 change _=some (Value.string (txt C q)) at c1
 generalize (ze C q.pos).kind=kd at c0 h3
 have am:(kd !=3)=false:=by rw[bne,h3];rfl
 have ad:=zc J
 obtain⟨R,hR⟩: ∃R:Nat→ByteArray,∀j,R j=q.rq.getD j sNone:=⟨fun j=>q.rq.getD j sNone,fun _=>rfl⟩
 have HR:=zc hR
 have HC:Hid (∀j,j<q.rq.length→w.cell? ⟨g,j,none⟩=some (.string (R j))):=fun j L=>by
  rcases J with e|e
  ·omega
  ·rw[hR];exact A.out.own.rq.str e L
 clear hR
 generalize O:txt C q=tx at c1
 have z:=zc O
 have E:=fun o1 o2 o3=>((A.out.own.rq.alloc o1).alloc o2).alloc o3
 clear O K J
 unfold pv
 go_enter Tryz.func132,Tryz.ntmps132
 go_wp2
 go_loop [5] (fun i=>∃k:Nat,k≤q.rq.length∧i= .int .i64 k∧∀j,j<k→¬(R j).toList=tx.toList) (fun i=>(q.rq.length-intOf i).toNat)
 case atStart=>exact⟨0,Nat.zero_le _,rfl,fun j L=>absurd L (Nat.not_lt_zero j)⟩
 case round=>
  obtain⟨k,hk,rfl,Y⟩:=hrel
  have M:=zc Y
  clear Y
  by_cases V:k<q.rq.length
  ·have ha:S.rq.a=some ⟨g,0,none⟩:=ad.out.elim (fun e=>by omega) id
   have al:=HC.out k V
   have ap:=A.out.own.rq.lt ha
   cases he:((R k).toList==tx.toList) with
   |true=>
    have N:Hid (zL C q= .ok (adv q,tx)):=by
     show zL C q= .ok (adv q,tx)
     rw[←z.out]
     exact zqP H3.out (zqL V (by rw[←HR.out,z.out];exact he))
    have HA:=zc ha
    go_wp2
    refine bodyPost_ret (zaI rfl _ _ (w.heap.size+1) 101 _ (0,0) _ rfl (new2 w _ _) Tryz.underlying101 rfl (by kernel_rfl)) rfl ?_
    rw[N.out]
    exact zdZ (q':=adv q) (z':=-1) (by rw[pv,HA.out];rfl) ⟨rfl,rfl,rfl⟩ (A.out.adv U) (zbc w _ _)
   |false=>
    have HX:Hid (∀j,j<k+1→¬(R j).toList=tx.toList):=fun j L=>by
     by_cases e:j=k
     ·rw[e];exact beq_eq_false_iff_ne.1 he
     ·exact M.out j (by omega)
    go_wp2
    go_round
    case rel=>exact⟨k+1,by omega,by go_num,HX.out⟩
    case measure=>simp[intOf];omega
  ·have HN:Hid (zaQ q.rq (txt C q)=false):=zqM fun j L=>by rw[z.out,←HR.out];exact beq_eq_false_iff_ne.2 (M.out j (by omega))
   by_cases hn:40≤q.rq.length
   ·have qn:decide ((40:Int)≤(q.rq.length:Int))=true:=decide_eq_true (by omega)
    have N:Hid (zL C q= .error (zs C q.pos)):=zqQ H3.out HN.out hn
    go_wp2_with fail
    refine (zfq C Z D h S (adv q) (-1) d _ (((A.out.adv U).alloc _).alloc _) (by decide) (by simp[adv])).mono ?_
    rintro e w2 ⟨rfl,H⟩
    have G3:Hid (_=_):=(zcL H).2
    obtain⟨b0,b1,b2,b3,b4,b5,b6,b7,b8,b9,aa,ab,bf⟩:=zan G3.out
    have HB:Hid (Below w.heap.size w w2):=zbg H
    clear H
    unfold pv
    go_wp2
    refine bodyPost_ret (zaI rfl _ _ (w.heap.size+1) 101 _ (0,0) _ rfl (zbb G3.out) Tryz.underlying101 rfl (by kernel_rfl)) rfl ?_
    rw[N.out]
    exact zdZ (q':=adv q) (z':=(zs C q.pos:Int)) rfl rfl (A.out.adv U) (zbR HB.out (Nat.le_succ _) ..)
   ·have qn:decide ((40:Int)≤(q.rq.length:Int))=false:=decide_eq_false (by omega)
    have N:Hid (zL C q= .ok ({adv q with rq:=q.rq++[tx]},tx)):=by
     show zL C q= .ok ({adv q with rq:=q.rq++[tx]},tx)
     rw[←z.out]
     exact zqR H3.out HN.out hn
    go_wp2_with (at_builtin;refine zaZ _ rfl _ _ 22 rfl h 9 i0 _ 1 16 Tryz.underlying22 hi ai ah ag rfl (by decide) (by decide) S.rq q.rq.length _ (by rfl) (E _ _ _) (w.heap.size+1+1) [.string tx] (by rfl) (by exact (new3 w _ _ _).2.2) rfl (by intro u hu;simp at hu;subst hu;rfl) (by omega) (by have:=A.out.base;rw[zad];omega) ?_)
    intro r' w2 hr hg X
    have ac:=zc hr
    have HG:=zc hg
    have ae:=zc X
    have I:=fun b hb=>zea (W:=w) A.out.own (Nat.le_refl _) (r:=S.rq.blk) (fun k e=>.inl e) b hb
    have g1:=(hg.block w.heap.size (by rw[zad];omega) (I _ (Nat.le_refl _))).trans (new3 w _ _ _).1
    have g2:=(hg.block (w.heap.size+1) (by rw[zad];omega) (I _ (by omega))).trans (new3 w _ _ _).2.1
    obtain⟨a0,a1,a2,a3,a4,a5,a6,a7,a8,a9,ao,aq,af⟩:=zan g1
    obtain⟨b0,b1,b2,b3,b4,b5,b6,b7,b8,b9,aa,ab,bf⟩:=zan g2
    have G2:=zc g2
    clear g1 g2 hg hr X I E
    go_wp2
    refine bodyPost_ret (zaI rfl _ _ (w.heap.size+1) 101 _ (0,0) _ rfl (zbb ((zv (by omega)).trans G2.out)) Tryz.underlying101 rfl (by kernel_rfl)) rfl ?_
    obtain⟨m',s'⟩:=(A.out.adv U).grow_rq (x:=tx) (zdc w _ _ _) HG.out ac.out (by rw[zad];exact ae.out) (((Off.refl _ _ _).set (b:=w.heap.size) (Nat.le_refl _) (by rw[zad];omega) _ _).set12 (b:=w.heap.size+1) (by omega) (by rw[zad];omega) ..) (by show q.rq.length<40;omega)
    rw[N.out]
    exact⟨_,{adv q with rq:=q.rq++[tx]},-1,tx,by simp[pv,adv],⟨rfl,rfl,rfl⟩,m',s'⟩
theorem zeq (C:Cx) (D A h:Nat) (x:PR) (S:Sv) (q:PS) (z:Int) (d:Nat) (w:World) (I:Is x q z) (H:Mem C D A h S q w):
  Calls Tryz.prog 132 #[pv C D A S q z d] w (zdA C D A h (bd x (zL C)) d S w):=by
 cases E:(decide (z<0)&&((ze C q.pos).kind==3)) with
 |false=>exact zqO C D A h x S q z d w I H E
 |true=>
  rw[Bool.and_eq_true,decide_eq_true_eq] at E
  obtain⟨rfl,rfl⟩:=zaG I E.1
  rw[zA]
  rcases H.own.rq.addr with e|⟨g,e⟩
  ·exact zk6 C D A h S q d w H E.2 0 (.inl e)
  ·exact zk6 C D A h S q d w H E.2 g (.inr e)
end Go.Proofs.YtcidlffeeninbaaGreat
