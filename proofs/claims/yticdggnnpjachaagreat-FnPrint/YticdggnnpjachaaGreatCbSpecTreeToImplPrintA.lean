/-
  What l5Tree of the specification answers: the walk.
  What impl's isSum,hasSides and the closure that counts a use answer: the walks.
-/
import Derived.BigRegion
import Derived.Test.YticdggnnpjachaaGreatCbEqModToImplParseQ
namespace Go.Proofs.YticdggnnpjachaaGreat
set_option maxRecDepth 100000
set_option maxHeartbeats 6400000
open Go.RowKit Go.PlainAid Go.Sort
theorem Tryz.infoInt:(Tryz.prog.info? 3).map (fun i=>(i.zero,i.size,i.bytes))=some (some (.int .i64 0),1,8):=by kernel_rfl
theorem zjj (n:Nat):(madeCells #[.int .i64 0] n).toList=zal n (fun _=>0):=by
 rw[toList_madeCells_one]
 unfold zal
 rw[List.map_const',List.length_range]
 rfl
theorem zep {w:World} {j g n o:Nat} {f:Nat→Nat} (h:w.ownsRow j 3 1 (.slice (some ⟨g,0,none⟩) n o) n (zal n f)) {k:Nat} (q:k<n):w.cell? ⟨g,k,none⟩=some (.int .i64 (f k:Int)):=by
 rw[h.cellAt k (by omega)]
 exact zfC f q
theorem zfE {w:World} {o g n q:Nat} {f:Nat→Nat} (h:w.ownsRow o 3 1 (.slice (some ⟨g,0,none⟩) n q) n (zal n f)) (k v:Nat) (z:v=f k+1):(w.setCell ⟨g,k,none⟩ (.int .i64 (v:Int))).ownsRow o 3 1 (.slice (some ⟨g,0,none⟩) n q) n (zal n (zaF f k)):=by
 have:=(h.stored k (.int .i64 (v:Int))).1
 rw[zoJ f (zaF f k) v (by rw[zoK,z]) (fun j A=>zoL f A)] at this
 exact this
theorem zfb {w q:World} {j g n o:Nat} {xs:List Value} (h:w.ownsRow j 3 1 (.slice (some ⟨g,0,none⟩) n o) n xs) (A:Below w.heap.size w q):q.ownsRow j 3 1 (.slice (some ⟨g,0,none⟩) n o) n xs:=by
 have z:OwnR w j 3 1 ⟨some ⟨g,0,none⟩,o⟩ n xs:=h
 exact z.keep fun k e=>A.block k (z.typed e).2.1
theorem zgZ {w:World} {j g n o:Nat} {xs:List Value} (h:w.ownsRow j 3 1 (.slice (some ⟨g,0,none⟩) n o) n xs):j≤g∧g<w.heap.size:=by
 have q:OwnR w j 3 1 ⟨some ⟨g,0,none⟩,o⟩ n xs:=h
 exact⟨(q.typed rfl).1,(q.typed rfl).2.1⟩
theorem zfF {w:World} {j g k:Nat} {S:Sv} {m:Md} {u:Value} (h:OwnMd w j S m) (I: ∀b,w.heap[g]? =some b→∃z,b= .cells z 3 (0,0)):OwnMd (w.setCell ⟨g,k,none⟩ u) j S m:=by
 have A: ∀(e:TypeId) (o n:Nat) (r:Rw) (D:List Value),OwnR w j e o r n D→e≠3→OwnR (w.setCell ⟨g,k,none⟩ u) j e o r n D:=fun e o n r D h K=>h.keep fun b J=>Below.heap_setCell w ⟨g,k,none⟩ u b (fun H=>by
  obtain⟨_,_,c,E⟩:=h.typed J
  obtain⟨z,q⟩:=I _ (by rw[←show b=g from H];exact E)
  simp only[Obj.cells.injEq] at q
  exact K q.2.1)
 exact⟨A _ _ _ _ _ h.rq (by decide),A _ _ _ _ _ h.im (by decide),A _ _ _ _ _ h.ep (by decide),A _ _ _ _ _ h.st (by decide),A _ _ _ _ _ h.ex (by decide)⟩
def cE (ex:List Ex) (j:Nat):Nat→Nat:=fun k=>zam (ex.take j) (k:Int)
theorem OwnMd.drewI {w:World} {j:Nat} {S:Sv} {m:Md} (h:OwnMd w j S m):OwnMd w.drew j S m:=⟨h.rq,h.im,h.ep,h.st,h.ex⟩
def cS (m:Md) (j:Nat):Nat→Nat:=fun k=>zam m.ex (k:Int)+zaG (m.st.take j) (k:Int)
def zfG (m:Md) (e:Ending):Prop:=∃b,e= .returned (.bool b)∧(b=true↔Tree m)
theorem zc4 {m:Md} (h: ¬Tree m):zfG m (.returned (.bool false)):=⟨false,rfl,⟨(fun k=>by cases k),fun t=>absurd t h⟩⟩
theorem zjk {m:Md} (h:Tree m):zfG m (.returned (.bool true)):=⟨true,rfl,⟨fun _=>h,fun _=>rfl⟩⟩
theorem zfH {w:World} {j g n o:Nat} {xs:List Value} (h:w.ownsRow j 3 1 (.slice (some ⟨g,0,none⟩) n o) n xs): ∀b,w.heap[g]? =some b→∃q,b= .cells q 3 (0,0):=by
 have D:OwnR w j 3 1 ⟨some ⟨g,0,none⟩,o⟩ n xs:=h
 obtain⟨_,_,c,A⟩:=D.typed rfl
 intro b z
 rw[A] at z
 exact⟨c,(Option.some.inj z).symm⟩
theorem zoY (n:Nat) (S:Sv) (m:Md) (w:World) (h:OwnMd w n S m) (hl:m.ex.length≤4294967296) (hs:m.st.length≤4294967296):
  Calls Tryz.prog 61 #[zp S m] w fun e w'=>zfG m e∧Below w.heap.size w w':=by
 obtain⟨i0,hi,aO,aH,aL⟩:=info_parts Tryz.infoInt
 have HH:=zc h
 clear h
 unfold zp
 go_enter Tryz.func61,Tryz.ntmps61
 go_wp2_with (first|(at_make;refine wpList_make_full _ rfl _ _ 151 rfl (w.heap.size+1) 3 i0 (.int .i64 0) 1 Tryz.underlying151 hi aO aH .i64 .i64 _ _ m.ex.length (by rfl) (by rfl) rfl rfl (by rw[aL];omega) (by unfold maxLen;omega) (by rw[zk];omega) ?_))
 intro w1 X M
 rw[zjj] at X
 have bb:Below (w.heap.size+1) (w.alloc _) w1:=⟨M.os,M.tape,M.output,M.size,fun k hk=>M.block k (by rw[zk];exact hk) (by simp)⟩
 have au:Hid (Below w.heap.size w w1):=((Below.refl _ _).alloc (Nat.le_refl _) _).trans (bb.mono (by omega))
 have ay:Hid (w1.heap[w.heap.size]? =some (.cells #[.slice S.rq.a m.rq.length S.rq.cap,.slice S.im.a m.im.length S.im.cap,.slice S.ep.a m.ep.length S.ep.cap,.slice S.st.a m.st.length S.st.cap,.slice S.ex.a m.ex.length S.ex.cap] 28 (0,0))):=(bb.block _ (by omega)).trans (heap_alloc_new w _)
 have aI:=zc (HH.out.later au.out)
 have aU:Hid (w1.ownsRow (w.heap.size+1) 3 1 (.slice (some ⟨w.heap.size+1,0,none⟩) m.ex.length m.ex.length) m.ex.length (zal m.ex.length (cE m.ex 0))):=by show World.ownsRow _ _ _ _ _ _ _;rw[show zal m.ex.length (cE m.ex 0)=zal m.ex.length (fun _=>0) from zdE fun k _=>by simp[cE,zam]];exact X
 clear X M bb
 obtain⟨c0,c1,c2,c3,c4,cf⟩:=zl ay.out
 go_wp2
 go_loopg [4] m.ex.length (fun k i wr=>∃j:Nat,i= .int .i64 j∧j+k=m.ex.length∧AheadTo m.ex j∧wr.ownsRow (w.heap.size+1) 3 1 (.slice (some ⟨w.heap.size+1,0,none⟩) m.ex.length m.ex.length) m.ex.length (zal m.ex.length (cE m.ex j))∧OwnMd wr n S m∧wr.heap[w.heap.size]? =some (.cells #[.slice S.rq.a m.rq.length S.rq.cap,.slice S.im.a m.im.length S.im.cap,.slice S.ep.a m.ep.length S.ep.cap,.slice S.st.a m.st.length S.st.cap,.slice S.ex.a m.ex.length S.ex.cap] 28 (0,0))∧Below w.heap.size w wr)
 case atStart=>exact⟨0,rfl,by omega,fun i x hi=>absurd hi (Nat.not_lt_zero i),aU.out,aI.out,ay.out,au.out⟩
 case round=>
  obtain⟨j,rfl,hj,ah,o,Q,L,H⟩:=hrel
  have AH:=zc ah
  have HN:=zc o
  have HO:=zc Q
  have HX:=zc L
  have N:=zc H
  clear ah o Q L H
  clear c0 c1 c2 c3 c4 cf
  obtain⟨c0,c1,c2,c3,c4,cf⟩:=zl HX.out
  have ai:=(Array.getElem?_eq_some_iff.1 HX.out).1
  by_cases z:j<m.ex.length
  ·have aC:(j:Int)<(m.ex.length:Int):=by omega
   obtain⟨g,hg,bz,x0,x1,x2,x3,x4,x5⟩:=HO.out.expr z
   rw[hg] at c4
   clear hg
   have aA:=zc (zdz z)
   obtain⟨x,am⟩: ∃x,m.ex.getD j zg=x:=⟨_,rfl⟩
   rw[am] at x0 x1 x2 x3 x4 x5
   have J:Hid (m.ex[j]=x):=aA.out.symm.trans am
   clear am aA
   obtain⟨I,D⟩: ∃I,I=j+1:=⟨_,rfl⟩
   have ej:(j:Int)+1=(I:Int):=by omega
   have O:=zc D
   clear D
   have U:Hid (Below wr.heap.size wr (wr.alloc (.cells #[.int .i64 x.kind,.int .i64 x.num,.string x.name,.string x.field,.int .i64 x.l,.int .i64 x.r] 108))):=(Below.refl _ _).alloc (Nat.le_refl _) _
   go_wp2_with fail
   refine (zjg x.kind _).mono ?_
   rintro e w2 ⟨rfl,hw⟩
   rw[hw]
   clear hw w2
   cases ht:zW x.kind with
   |false=>
    go_wp2
    go_roundg (gk-1)
    case rel=>exact⟨I,rfl,by have:=O.out;omega,by rw[O.out];exact AH.out.next z (fun k=>by rw[J.out,ht] at k;cases k),by rw[O.out,show zal m.ex.length (cE m.ex (j+1))=zal m.ex.length (cE m.ex j) from zdE fun k _=>(zje z (by rw[J.out];exact ht) k).symm];exact zfb HN.out U.out,HO.out.later U.out,(U.out.block _ ai).trans HX.out,N.out.trans (U.out.mono N.out.size)⟩
    case measure=>omega
   |true=>
    by_cases a1:x.l<0
    ·have aa:decide (x.l<0)=true:=decide_eq_true a1
     go_wp2
     go_ret
     exact⟨zc4 (fun (t:Tree m)=>absurd t.ahead (AheadTo.not z (by rw[J.out];exact ht) (by rw[J.out];omega))),N.out.trans (U.out.mono N.out.size)⟩
    have aa:decide (x.l<0)=false:=decide_eq_false a1
    by_cases a2:(j:Int)≤x.l
    ·have ab:decide ((j:Int)≤x.l)=true:=decide_eq_true a2
     go_wp2
     go_ret
     exact⟨zc4 (fun (t:Tree m)=>absurd t.ahead (AheadTo.not z (by rw[J.out];exact ht) (by rw[J.out];omega))),N.out.trans (U.out.mono N.out.size)⟩
    have ab:decide ((j:Int)≤x.l)=false:=decide_eq_false a2
    by_cases a3:x.r<0
    ·have ax:decide (x.r<0)=true:=decide_eq_true a3
     go_wp2
     go_ret
     exact⟨zc4 (fun (t:Tree m)=>absurd t.ahead (AheadTo.not z (by rw[J.out];exact ht) (by rw[J.out];omega))),N.out.trans (U.out.mono N.out.size)⟩
    have ax:decide (x.r<0)=false:=decide_eq_false a3
    by_cases a4:(j:Int)≤x.r
    ·have aD:decide ((j:Int)≤x.r)=true:=decide_eq_true a4
     go_wp2
     go_ret
     exact⟨zc4 (fun (t:Tree m)=>absurd t.ahead (AheadTo.not z (by rw[J.out];exact ht) (by rw[J.out];omega))),N.out.trans (U.out.mono N.out.size)⟩
    have aD:decide ((j:Int)≤x.r)=false:=decide_eq_false a4
    go_wp2_with fail
    obtain⟨q,Z⟩: ∃q:Nat,x.l=(q:Int):=⟨x.l.toNat,by omega⟩
    obtain⟨A,Y⟩: ∃A:Nat,x.r=(A:Int):=⟨x.r.toNat,by omega⟩
    have bm:q<m.ex.length:=by omega
    have bg:A<m.ex.length:=by omega
    have a6:(q:Int)<(m.ex.length:Int):=by omega
    have aY:(A:Int)<(m.ex.length:Int):=by omega
    have aR:Hid (AheadTo m.ex (j+1)):=AH.out.next z (fun _=>by rw[J.out];omega)
    have HU:Hid (∀k:Nat,zaF (zaF (cE m.ex j) q) A k=cE m.ex (j+1) k):=fun k=>by have:=zjd z (by rw[J.out];exact ht) (by rw[J.out];omega) (by rw[J.out];omega) k;rw[J.out,Z,Y] at this;exact this
    have aE:=zfB (m.ex.take j)
    have aZ:(m.ex.take j).length≤4294967296:=by rw[List.length_take];omega
    have ba:=(zgZ HN.out).2
    refine zau (R:=fun W=>W.heap[wr.heap.size]? =some (.cells #[.int .i64 x.kind,.int .i64 x.num,.string x.name,.string x.field,.int .i64 (q:Int),.int .i64 (A:Int)] 108 (0,0))∧W.ownsRow (w.heap.size+1) 3 1 (.slice (some ⟨w.heap.size+1,0,none⟩) m.ex.length m.ex.length) m.ex.length (zal m.ex.length (cE m.ex j))∧OwnMd W n S m∧W.heap[w.heap.size]? =some (.cells #[.slice S.rq.a m.rq.length S.rq.cap,.slice S.im.a m.im.length S.im.cap,.slice S.ep.a m.ep.length S.ep.cap,.slice S.st.a m.st.length S.st.cap,.slice S.ex.a m.ex.length S.ex.cap] 28 (0,0))∧Below w.heap.size w W) ⟨by have:=heap_alloc_new wr (.cells #[.int .i64 x.kind,.int .i64 x.num,.string x.name,.string x.field,.int .i64 x.l,.int .i64 x.r] 108);rw[Z,Y] at this;rw[Z,Y];exact this,zfb HN.out U.out,HO.out.later U.out,(U.out.block _ ai).trans HX.out,N.out.trans (U.out.mono N.out.size)⟩ ?_
    have bl:=zc Z
    have bu:=zc Y
    clear Z Y aa ab ax aD a1 a2 a3 a4
    rintro W ⟨xb,o,Q,L,H⟩
    have a9:=zc xb
    have bq:=zc o
    have bn:=zc Q
    have br:=zc L
    have bt:=zc H
    obtain⟨s0,s1,s2,s3,s4,s5,sf⟩:=zv xb
    obtain⟨va,af⟩: ∃v,(cE m.ex j) q=v:=⟨_,rfl⟩
    have ea:=zep o (k:=q) (by omega)
    have ef:=o.frozenAt
    rw[af] at ea
    have a5:va≤17179869184:=by rw[←af];have:=aE (q:Int);unfold cE;omega
    obtain⟨ua,aw⟩: ∃u,u=va+1:=⟨_,rfl⟩
    have bs:(va:Int)+1=(ua:Int):=by omega
    have a0:IntKind.i64.wrap (ua:Int)=(ua:Int):=IntWalk.i64_in _ ⟨by omega,by omega⟩
    have aN:Hid ((W.setCell ⟨w.heap.size+1,q,none⟩ (.int .i64 (ua:Int))).ownsRow (w.heap.size+1) 3 1 (.slice (some ⟨w.heap.size+1,0,none⟩) m.ex.length m.ex.length) m.ex.length (zal m.ex.length (zaF (cE m.ex j) q))):=zfE o q ua (by rw[aw,af])
    have aM:Hid (OwnMd (W.setCell ⟨w.heap.size+1,q,none⟩ (.int .i64 (ua:Int))) n S m):=zfF Q (zfH o)
    have aS:Hid ((W.setCell ⟨w.heap.size+1,q,none⟩ (.int .i64 (ua:Int))).heap[w.heap.size]? =some (.cells #[.slice S.rq.a m.rq.length S.rq.cap,.slice S.im.a m.im.length S.im.cap,.slice S.ep.a m.ep.length S.ep.cap,.slice S.st.a m.st.length S.st.cap,.slice S.ex.a m.ex.length S.ex.cap] 28 (0,0))):=(zi (by omega)).trans L
    have aP:Hid (Below w.heap.size w (W.setCell ⟨w.heap.size+1,q,none⟩ (.int .i64 (ua:Int)))):=H.setCell (Nat.le_succ _) _
    have aQ:Hid ((W.setCell ⟨w.heap.size+1,q,none⟩ (.int .i64 (ua:Int))).heap[wr.heap.size]? =some (.cells #[.int .i64 x.kind,.int .i64 x.num,.string x.name,.string x.field,.int .i64 (q:Int),.int .i64 (A:Int)] 108 (0,0))):=(zi (by omega)).trans xb
    clear xb o Q L H af aw
    go_region
    clear s0 s1 s2 s3 s4 s5 sf ef ea
    go_wp2_with fail
    refine zau (R:=fun W=>W.heap[wr.heap.size]? =some (.cells #[.int .i64 x.kind,.int .i64 x.num,.string x.name,.string x.field,.int .i64 (q:Int),.int .i64 (A:Int)] 108 (0,0))∧W.ownsRow (w.heap.size+1) 3 1 (.slice (some ⟨w.heap.size+1,0,none⟩) m.ex.length m.ex.length) m.ex.length (zal m.ex.length (zaF (cE m.ex j) q))∧OwnMd W n S m∧W.heap[w.heap.size]? =some (.cells #[.slice S.rq.a m.rq.length S.rq.cap,.slice S.im.a m.im.length S.im.cap,.slice S.ep.a m.ep.length S.ep.cap,.slice S.st.a m.st.length S.st.cap,.slice S.ex.a m.ex.length S.ex.cap] 28 (0,0))∧Below w.heap.size w W) ⟨aQ.out,aN.out,aM.out.drewI,aS.out,aP.out.drew⟩ ?_
    rintro V ⟨xb,o,Q,L,H⟩
    have be:=zc xb
    have bo:=zc o
    have bp:=zc Q
    have bk:=zc L
    have bi:=zc H
    obtain⟨s0,s1,s2,s3,s4,s5,sf⟩:=zv xb
    obtain⟨vb,ad⟩: ∃v,(zaF (cE m.ex j) q) A=v:=⟨_,rfl⟩
    have eb:=zep o (k:=A) (by omega)
    have ef:=o.frozenAt
    rw[ad] at eb
    have a8:vb≤17179869184:=by rw[←ad];have:=aE (A:Int);unfold zaF cE;split<;>omega
    obtain⟨ub,aq⟩: ∃u,u=vb+1:=⟨_,rfl⟩
    have bc:(vb:Int)+1=(ub:Int):=by omega
    have aX:IntKind.i64.wrap (ub:Int)=(ub:Int):=IntWalk.i64_in _ ⟨by omega,by omega⟩
    have aW:Hid ((V.setCell ⟨w.heap.size+1,A,none⟩ (.int .i64 (ub:Int))).ownsRow (w.heap.size+1) 3 1 (.slice (some ⟨w.heap.size+1,0,none⟩) m.ex.length m.ex.length) m.ex.length (zal m.ex.length (zaF (zaF (cE m.ex j) q) A))):=zfE o A ub (by rw[aq,ad])
    have aT:Hid (OwnMd (V.setCell ⟨w.heap.size+1,A,none⟩ (.int .i64 (ub:Int))) n S m):=zfF Q (zfH o)
    have aK:Hid ((V.setCell ⟨w.heap.size+1,A,none⟩ (.int .i64 (ub:Int))).heap[w.heap.size]? =some (.cells #[.slice S.rq.a m.rq.length S.rq.cap,.slice S.im.a m.im.length S.im.cap,.slice S.ep.a m.ep.length S.ep.cap,.slice S.st.a m.st.length S.st.cap,.slice S.ex.a m.ex.length S.ex.cap] 28 (0,0))):=(zi (by omega)).trans L
    have aJ:Hid (Below w.heap.size w (V.setCell ⟨w.heap.size+1,A,none⟩ (.int .i64 (ub:Int)))):=H.setCell (Nat.le_succ _) _
    have bj:Hid ((V.setCell ⟨w.heap.size+1,A,none⟩ (.int .i64 (ub:Int))).heap[wr.heap.size]? =some (.cells #[.int .i64 x.kind,.int .i64 x.num,.string x.name,.string x.field,.int .i64 (q:Int),.int .i64 (A:Int)] 108 (0,0))):=(zi (by omega)).trans xb
    clear xb o Q L H ad aq
    go_region
    clear s0 s1 s2 s3 s4 s5 sf ef eb
    go_wp2
    go_roundg (gk-1)
    case rel=>exact⟨I,rfl,by have:=O.out;omega,by rw[O.out];exact aR.out,by rw[O.out,←zdE fun k _=>HU.out k];exact aW.out,aT.out.drewI,aK.out,aJ.out.drew⟩
    case measure=>omega
  ·have aC: ¬(j:Int)<(m.ex.length:Int):=by omega
   obtain rfl:j=m.ex.length:=by omega
   have HA:=zc AH.out.all
   have HC:Hid (wr.ownsRow (w.heap.size+1) 3 1 (.slice (some ⟨w.heap.size+1,0,none⟩) m.ex.length m.ex.length) m.ex.length (zal m.ex.length (cS m 0))):=by show World.ownsRow _ _ _ _ _ _ _;rw[show zal m.ex.length (cS m 0)=zal m.ex.length (cE m.ex m.ex.length) from zdE fun k _=>by simp[cE,cS,zaG]];exact HN.out
   go_wp2
   go_loopg [6] m.st.length (fun k i wr=>∃j:Nat,i= .int .i64 j∧j+k=m.st.length∧(∀s∈m.st.take j,0≤s.expr∧s.expr<(m.ex.length:Int))∧wr.ownsRow (w.heap.size+1) 3 1 (.slice (some ⟨w.heap.size+1,0,none⟩) m.ex.length m.ex.length) m.ex.length (zal m.ex.length (cS m j))∧OwnMd wr n S m∧wr.heap[w.heap.size]? =some (.cells #[.slice S.rq.a m.rq.length S.rq.cap,.slice S.im.a m.im.length S.im.cap,.slice S.ep.a m.ep.length S.ep.cap,.slice S.st.a m.st.length S.st.cap,.slice S.ex.a m.ex.length S.ex.cap] 28 (0,0))∧Below w.heap.size w wr)
   case atStart=>exact⟨0,rfl,by omega,(fun s hs=>by simp at hs),HC.out,HO.out,HX.out,N.out⟩
   case round=>
    obtain⟨j,rfl,bv,ah,o,Q,L,H⟩:=hrel
    have AS:=zc ah
    have ac:=zc o
    have aG:=zc Q
    have aF:=zc L
    have ae:=zc H
    clear ah o Q L H c0 c1 c2 c3 c4 cf
    obtain⟨c0,c1,c2,c3,c4,cf⟩:=zl aF.out
    by_cases E:j<m.st.length
    ·have ak:(j:Int)<(m.st.length:Int):=by omega
     obtain⟨s,ar⟩: ∃s,m.st[j]? =some s:=⟨_,List.getElem?_eq_getElem E⟩
     obtain⟨g,hg,av⟩:=OwnR.elem (f:=smL) (m:=3) (fun _=>rfl) aG.out.st ar
     have k2:=av 2 (by omega)
     simp only[smL,List.getElem?_cons_zero,List.getElem?_cons_succ] at k2
     rw[hg] at c3
     obtain⟨_,aj⟩:=List.getElem?_eq_some_iff.1 ar
     have HS:Hid (m.st[j]=s):=aj
     clear hg av ar aj
     obtain⟨I,D⟩: ∃I,I=j+1:=⟨_,rfl⟩
     have ej:(j:Int)+1=(I:Int):=by omega
     have O:=zc D
     clear D
     by_cases a1:s.expr<0
     ·have aa:decide (s.expr<0)=true:=decide_eq_true a1
      go_wp2
      go_ret
      exact⟨zc4 (fun (t:Tree m)=>by have:=t.stm _ (List.getElem_mem E);rw[HS.out] at this;omega),ae.out⟩
     have aa:decide (s.expr<0)=false:=decide_eq_false a1
     by_cases a2:(m.ex.length:Int)≤s.expr
     ·have ab:decide ((m.ex.length:Int)≤s.expr)=true:=decide_eq_true a2
      go_wp2
      go_ret
      exact⟨zc4 (fun (t:Tree m)=>by have:=t.stm _ (List.getElem_mem E);rw[HS.out] at this;omega),ae.out⟩
     have ab:decide ((m.ex.length:Int)≤s.expr)=false:=decide_eq_false a2
     obtain⟨K,ao⟩: ∃K:Nat,s.expr=(K:Int):=⟨s.expr.toNat,by omega⟩
     have aV:K<m.ex.length:=by omega
     have a7:(K:Int)<(m.ex.length:Int):=by omega
     have al:Hid (∀s∈m.st.take (j+1),0≤s.expr∧s.expr<(m.ex.length:Int)):=by
      intro y hy
      rw[List.take_succ_eq_append_getElem E,List.mem_append] at hy
      rcases hy with hy|hy
      ·exact AS.out y hy
      ·simp only[List.mem_singleton] at hy
       rw[hy,HS.out]
       omega
     have HU:Hid (∀k:Nat,zaF (cS m j) K k=cS m (j+1) k):=fun k=>by have:=zjf (ex:=m.ex) E (by rw[HS.out];omega) k;rw[HS.out,ao] at this;exact this
     rw[ao] at k2 a1 a2 aa ab
     obtain⟨v,hv⟩: ∃v,cS m j K=v:=⟨_,rfl⟩
     have ea:=zep ac.out aV
     have ef:=ac.out.frozenAt
     rw[hv] at ea
     have ad:v≤17179869184:=by rw[←hv];unfold cS;have:=zfB m.ex (K:Int);have:=zjc (m.st.take j) (K:Int);rw[List.length_take] at this;omega
     obtain⟨u,hu⟩: ∃u,u=v+1:=⟨_,rfl⟩
     have ev:(v:Int)+1=(u:Int):=by omega
     have aq:u≤17179869185:=by omega
     have NN:Hid ((wr.setCell ⟨w.heap.size+1,K,none⟩ (.int .i64 (u:Int))).ownsRow (w.heap.size+1) 3 1 (.slice (some ⟨w.heap.size+1,0,none⟩) m.ex.length m.ex.length) m.ex.length (zal m.ex.length (zaF (cS m j) K))):=zfE ac.out K u (by rw[hu,hv])
     have NO:Hid (OwnMd (wr.setCell ⟨w.heap.size+1,K,none⟩ (.int .i64 (u:Int))) n S m):=zfF aG.out (zfH ac.out)
     have NX:Hid ((wr.setCell ⟨w.heap.size+1,K,none⟩ (.int .i64 (u:Int))).heap[w.heap.size]? =some (.cells #[.slice S.rq.a m.rq.length S.rq.cap,.slice S.im.a m.im.length S.im.cap,.slice S.ep.a m.ep.length S.ep.cap,.slice S.st.a m.st.length S.st.cap,.slice S.ex.a m.ex.length S.ex.cap] 28 (0,0))):=(zi (by omega)).trans aF.out
     have NB:Hid (Below w.heap.size w (wr.setCell ⟨w.heap.size+1,K,none⟩ (.int .i64 (u:Int)))):=ae.out.setCell (Nat.le_succ _) _
     clear ao hv hu
     go_wp2
     go_roundg (gk-1)
     case rel=>exact⟨I,rfl,by have:=O.out;omega,by rw[O.out];exact al.out,by rw[O.out,←zdE fun k _=>HU.out k];exact NN.out,NO.out,NX.out,NB.out⟩
     case measure=>omega
    ·have ak: ¬(j:Int)<(m.st.length:Int):=by omega
     obtain rfl:j=m.st.length:=by omega
     have al:Hid (∀s∈m.st,0≤s.expr∧s.expr<(m.ex.length:Int)):=by have:=AS.out;rw[List.take_length] at this;exact this
     go_wp2
     go_loopg [8] m.ex.length (fun k i wr=>∃j:Nat,i= .int .i64 j∧j+k=m.ex.length∧(∀k,k<j→cS m m.st.length k=1)∧wr.ownsRow (w.heap.size+1) 3 1 (.slice (some ⟨w.heap.size+1,0,none⟩) m.ex.length m.ex.length) m.ex.length (zal m.ex.length (cS m m.st.length))∧Below w.heap.size w wr)
     case atStart=>exact⟨0,rfl,by omega,fun k hk=>absurd hk (Nat.not_lt_zero k),ac.out,ae.out⟩
     case round=>
      obtain⟨j,rfl,bf,ah,o,H⟩:=hrel
      have AC:=zc ah
      have aB:=zc o
      have an:=zc H
      clear ah o H c0 c1 c2 c3 c4 cf
      by_cases ag:j<m.ex.length
      ·have ap:(j:Int)<(m.ex.length:Int):=by omega
       obtain⟨v,hv⟩: ∃v,cS m m.st.length j=v:=⟨_,rfl⟩
       have ea:=zep aB.out ag
       rw[hv] at ea
       have HV:=zc hv
       clear hv
       obtain⟨I,D⟩: ∃I,I=j+1:=⟨_,rfl⟩
       have ej:(j:Int)+1=(I:Int):=by omega
       have O:=zc D
       clear D
       by_cases az:v=1
       ·subst az
        go_wp2
        go_roundg (gk-1)
        case rel=>exact⟨I,rfl,by have:=O.out;omega,(fun k hk=>(Nat.lt_or_eq_of_le (show k≤j by have:=O.out;omega)).elim (AC.out k) (fun e=>by rw[e];exact HV.out)),aB.out,an.out⟩
        case measure=>omega
       ·have dv:((v:Int) !=1)=true:=by rw[bne_iff_ne];omega
        go_wp2
        go_ret
        exact⟨zc4 (fun (t:Tree m)=>absurd (by have:=t.once j ag;have h2:=HV.out;unfold cS at h2;rw[List.take_length] at h2;omega) az),an.out⟩
      ·have ap: ¬(j:Int)<(m.ex.length:Int):=by omega
       go_wp2
       go_ret
       exact⟨zjk ⟨HA.out,al.out,fun k hk=>by have:=AC.out k (by omega);unfold cS at this;rw[List.take_length] at this;exact this⟩,an.out⟩
theorem zfc (k:Int) (w:World):Calls Tryz.prog 158 #[.int .i64 k] w fun e j=>e= .returned (.bool (k==6||k==7))∧j=w:=by
 cases o:(k==6) with
 |true=>
  go_enter Tryz.func158,Tryz.ntmps158
  go_wp2
  go_ret
  exact⟨rfl,rfl⟩
 |false=>
  cases n:(k==7) with
  |true=>
   go_enter Tryz.func158,Tryz.ntmps158
   go_wp2
   go_ret
   exact⟨rfl,rfl⟩
  |false=>
   go_enter Tryz.func158,Tryz.ntmps158
   go_wp2
   go_ret
   exact⟨rfl,rfl⟩
theorem zjl (k:Int) (w:World):Calls Tryz.prog 113 #[.int .i64 k] w fun e z=>e= .returned (.bool (zW k))∧z=w:=by
 cases j:(k==6||k==7) with
 |true=>
  have n:Hid (zW k=true):=by show _=_;rw[zW,j];rfl
  go_enter Tryz.func113,Tryz.ntmps113
  go_wp2_with fail
  refine (zfc k _).mono ?_
  rintro e q ⟨rfl,rfl⟩
  rw[j]
  go_wp2
  go_ret
  exact⟨zm n.out.symm,rfl⟩
 |false=>
  cases o:(k==8) with
  |true=>
   have n:Hid (zW k=true):=by show _=_;rw[zW,j,o];rfl
   go_enter Tryz.func113,Tryz.ntmps113
   go_wp2_with fail
   refine (zfc k _).mono ?_
   rintro e q ⟨rfl,rfl⟩
   rw[j]
   go_wp2
   go_ret
   exact⟨zm n.out.symm,rfl⟩
  |false=>
   have n:Hid (zW k=false):=by show _=_;rw[zW,j,o];rfl
   go_enter Tryz.func113,Tryz.ntmps113
   go_wp2_with fail
   refine (zfc k _).mono ?_
   rintro e q ⟨rfl,rfl⟩
   rw[j]
   go_wp2
   go_ret
   exact⟨zm n.out.symm,rfl⟩
theorem zoZ (k:Int) (w:World):Calls Tryz.prog 115 #[.int .i64 k] w fun e j=>e= .returned (.bool (k !=1))∧j=w:=by
 go_enter Tryz.func115,Tryz.ntmps115
 go_wp2
 go_ret
 exact⟨rfl,rfl⟩
theorem zjm {w:World} {b:Nat} {t:TypeId} {j:Value} (h:w.heap[b]? =some (.cells #[j] t (0,0))):w.cell? ⟨b,0,none⟩=some j∧∀i,w.frozen? ⟨b,i,none⟩=false:=by
 refine⟨?_,fun i=>?_⟩<;>simp[World.cell?,World.frozen?,h]
theorem zha (i n:Int) (u:Value) (w:World) (h: ¬(0≤i∧i<n)):
  Calls Tryz.prog 112 #[.int .i64 i,.int .i64 n,u] w fun e j=>e= .returned (.bool false)∧j=w:=by
 by_cases o:i<0
 ·go_enter Tryz.func112,Tryz.ntmps112
  go_wp2
  go_ret
  exact⟨rfl,rfl⟩
 ·have q:n≤i:=by omega
  clear h
  go_enter Tryz.func112,Tryz.ntmps112
  go_wp2
  go_ret
  exact⟨rfl,rfl⟩
theorem zpa (i j q g D:Nat) (n:Int) (f:Nat→Nat) (w:World) (I:w.heap[D]? =some (.cells #[.slice (some ⟨g,0,none⟩) j j] 151 (0,0))) (h:w.ownsRow q 3 1 (.slice (some ⟨g,0,none⟩) j j) j (zal j f)) (K:f i≤17179869184) (U:i<j) (V:(i:Int)<n):
  Calls Tryz.prog 112 #[.int .i64 (i:Int),.int .i64 n,.pointer (some ⟨D,0,none⟩)] w fun e N=>e= .returned (.bool true)∧N=w.setCell ⟨g,i,none⟩ (.int .i64 (f i+1:Nat)):=by
 have O: ¬(i:Int)<0:=by omega
 have X: ¬n≤(i:Int):=by omega
 have M:(i:Int)<(j:Int):=by omega
 obtain⟨Z,Q⟩:=zjm I
 obtain⟨E,o⟩: ∃v,f i=v:=⟨_,rfl⟩
 have L:=zep h (k:=i) (by omega)
 have Y:=h.frozenAt
 rw[o] at L K
 rw[o]
 obtain⟨A,z⟩: ∃u,u=E+1:=⟨_,rfl⟩
 have J:(E:Int)+1=(A:Int):=by omega
 have H:IntKind.i64.wrap (A:Int)=(A:Int):=IntWalk.i64_in _ ⟨by omega,by omega⟩
 rw[←z]
 clear I h o z
 go_enter Tryz.func112,Tryz.ntmps112
 go_wp2
 go_ret
 exact⟨rfl,rfl⟩
def odd (n:Nat) (f:Nat→Nat) (j:Nat):Bool:=(List.range n).any fun k=>decide (j≤k)&&((f k:Int) !=1)
theorem zpb {n:Nat} {f:Nat→Nat} {j:Nat} (z:j<n):odd n f j=(((f j:Int) !=1)||odd n f (j+1)):=by
 rw[Bool.eq_iff_iff,Bool.or_eq_true]
 simp only[odd,List.any_eq_true,List.mem_range,Bool.and_eq_true,decide_eq_true_eq]
 constructor
 ·rintro⟨k,o,q,h⟩
  by_cases e:k=j
  ·exact .inl (e▸h)
  ·exact .inr ⟨k,o,by omega,h⟩
 ·rintro (h|⟨k,o,q,h⟩)
  ·exact⟨j,z,Nat.le_refl _,h⟩
  ·exact⟨k,o,by omega,h⟩
theorem zpc {n:Nat} (f:Nat→Nat) {j:Nat} (z:n≤j):odd n f j=false:=by
 rw[Bool.eq_false_iff]
 intro h
 simp only[odd,List.any_eq_true,List.mem_range,Bool.and_eq_true,decide_eq_true_eq] at h
 obtain⟨k,q,o,_⟩:=h
 omega
theorem zpd (o g n:Nat) (f:Nat→Nat) (w:World) (h:w.ownsRow o 3 1 (.slice (some ⟨g,0,none⟩) n n) n (zal n f)) (Z:n≤4294967296):
  Calls Tryz.prog 159 #[.slice (some ⟨g,0,none⟩) n n,.func (.func 115) #[] #[]] w fun e V=>(∃v:Int,e= .returned (.int .i64 v)∧decide (0≤v)=odd n f 0)∧Below w.heap.size w V:=by
 have Y:=zc h
 clear h
 go_enter Tryz.func159,Tryz.ntmps159
 go_wp2
 go_loopg [8] (n+1) (fun k i wr=>∃j:Nat,i= .int .i64 j∧j+k=n+1∧odd n f j=odd n f 0∧Below w.heap.size w wr)
 case atStart=>exact⟨0,rfl,by omega,rfl,Below.refl _ _⟩
 case round=>
  obtain⟨j,rfl,hj,K,O⟩:=hrel
  have H:=zc K
  have E:=zc O
  clear K O
  by_cases A:j<n
  ·have z:(j:Int)<(n:Int):=by omega
   have X:=zep (zfb Y.out E.out) A
   have M:=zc (zpb (f:=f) A)
   obtain⟨v,I⟩: ∃v,f j=v:=⟨_,rfl⟩
   rw[I] at X
   have Q:=zc I
   clear I
   obtain⟨D,q⟩: ∃D,D=j+1:=⟨_,rfl⟩
   have ej:(j:Int)+1=(D:Int):=by omega
   have J:=zc q
   clear q
   go_wp2_with fail
   refine (zoZ (v:Int) _).mono ?_
   rintro e U ⟨rfl,N⟩
   rw[N]
   clear N U
   cases L:((v:Int) !=1) with
   |true=>
    go_wp2
    go_ret
    refine⟨⟨_,rfl,?_⟩,E.out⟩
    rw[←H.out,M.out,Q.out,L]
    simp
   |false=>
    go_wp2
    go_roundg (gk-1)
    case rel=>
     refine⟨D,rfl,by have:=J.out;omega,?_,E.out⟩
     rw[←H.out,M.out,Q.out,L,J.out]
     simp
    case measure=>omega
  ·have z: ¬(j:Int)<(n:Int):=by omega
   go_wp2
   go_ret
   refine⟨⟨_,rfl,?_⟩,E.out⟩
   rw[←H.out,zpc f (by omega)]
   rfl
theorem zpe (n g j:Nat) (f:Nat→Nat) (w:World) (h:w.ownsRow n 3 1 (.slice (some ⟨g,0,none⟩) j j) j (zal j f)) (D:j≤4294967296):
  Calls Tryz.prog 114 #[.slice (some ⟨g,0,none⟩) j j,.func (.func 115) #[] #[]] w fun e E=>e= .returned (.bool (odd j f 0))∧Below w.heap.size w E:=by
 have H:=zc h
 clear h
 go_enter Tryz.func114,Tryz.ntmps114
 go_wp2_with fail
 refine (zpd n g j f _ H.out D).mono ?_
 rintro e I ⟨⟨v,rfl,q⟩,o⟩
 have A:=zc q
 have z:=zc o
 clear q o
 go_wp2
 go_ret
 exact⟨zm A.out,z.out⟩
end Go.Proofs.YticdggnnpjachaaGreat
