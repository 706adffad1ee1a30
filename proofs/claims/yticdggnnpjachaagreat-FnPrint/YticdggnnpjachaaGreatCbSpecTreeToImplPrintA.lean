/-
  What l5Tree of the specification answers: the walk.
  What impl's isSum,hasSides and the closure that counts a use answer: the walks.
-/
import Derived.BigRegion
import Derived.Test.YticdggnnpjachaaGreatCbEqModToImplParseQ
namespace Go.Proofs.YticdggnnpjachaaGreat
set_option maxRecDepth 100000
set_option maxHeartbeats 6400000
open Go.RowKit Go.PlainAid Go.Sort
theorem Tryz.infoInt:(Tryz.prog.info? 3).map (fun i=>(i.zero,i.size,i.bytes))=some (some (.int .i64 0),1,8):=by kernel_rfl
theorem zjj (n:Nat):(madeCells #[.int .i64 0] n).toList=zal n (fun _=>0):=by
 rw[toList_madeCells_one]
 unfold zal
 rw[List.map_const',List.length_range]
 rfl
theorem zep {w:World} {j g n o:Nat} {f:Nat→Nat} (h:w.ownsRow j 3 1 (.slice (some ⟨g,0,none⟩) n o) n (zal n f)) {k:Nat} (q:k<n):w.cell? ⟨g,k,none⟩=some (.int .i64 (f k:Int)):=by
 rw[h.cellAt k (by omega)]
 exact zfC f q
theorem zfE {w:World} {o g n q:Nat} {f:Nat→Nat} (h:w.ownsRow o 3 1 (.slice (some ⟨g,0,none⟩) n q) n (zal n f)) (k v:Nat) (z:v=f k+1):(w.setCell ⟨g,k,none⟩ (.int .i64 (v:Int))).ownsRow o 3 1 (.slice (some ⟨g,0,none⟩) n q) n (zal n (zaF f k)):=by
 have:=(h.stored k (.int .i64 (v:Int))).1
 rw[zoJ f (zaF f k) v (by rw[zoK,z]) (fun j A=>zoL f A)] at this
 exact this
theorem zfb {w z:World} {j g n o:Nat} {xs:List Value} (h:w.ownsRow j 3 1 (.slice (some ⟨g,0,none⟩) n o) n xs) (A:Below w.heap.size w z):z.ownsRow j 3 1 (.slice (some ⟨g,0,none⟩) n o) n xs:=by
 have q:OwnR w j 3 1 ⟨some ⟨g,0,none⟩,o⟩ n xs:=h
 exact q.keep fun k e=>A.block k (q.typed e).2.1
theorem zgZ {w:World} {j g n o:Nat} {xs:List Value} (h:w.ownsRow j 3 1 (.slice (some ⟨g,0,none⟩) n o) n xs):j≤g∧g<w.heap.size:=by
 have q:OwnR w j 3 1 ⟨some ⟨g,0,none⟩,o⟩ n xs:=h
 exact⟨(q.typed rfl).1,(q.typed rfl).2.1⟩
theorem zfF {w:World} {j g k:Nat} {S:Sv} {m:Md} {u:Value} (h:OwnMd w j S m) (I: ∀b,w.heap[g]? =some b→∃z,b= .cells z 3 (0,0)):OwnMd (w.setCell ⟨g,k,none⟩ u) j S m:=by
 have A: ∀(e:TypeId) (o n:Nat) (r:Rw) (D:List Value),OwnR w j e o r n D→e≠3→OwnR (w.setCell ⟨g,k,none⟩ u) j e o r n D:=fun e o n r D h H=>h.keep fun b K=>Below.heap_setCell w ⟨g,k,none⟩ u b (fun J=>by
  obtain⟨_,_,c,E⟩:=h.typed K
  obtain⟨z,q⟩:=I _ (by rw[←show b=g from J];exact E)
  simp only[Obj.cells.injEq] at q
  exact H q.2.1)
 exact⟨A _ _ _ _ _ h.rq (by decide),A _ _ _ _ _ h.im (by decide),A _ _ _ _ _ h.ep (by decide),A _ _ _ _ _ h.st (by decide),A _ _ _ _ _ h.ex (by decide)⟩
def cE (ex:List Ex) (j:Nat):Nat→Nat:=fun k=>zam (ex.take j) (k:Int)
theorem OwnMd.drewI {w:World} {j:Nat} {S:Sv} {m:Md} (h:OwnMd w j S m):OwnMd w.drew j S m:=⟨h.rq,h.im,h.ep,h.st,h.ex⟩
def cS (m:Md) (j:Nat):Nat→Nat:=fun k=>zam m.ex (k:Int)+zaG (m.st.take j) (k:Int)
def zfG (m:Md) (e:Ending):Prop:=∃b,e= .returned (.bool b)∧(b=true↔Tree m)
theorem zc4 {m:Md} (h: ¬Tree m):zfG m (.returned (.bool false)):=⟨false,rfl,⟨(fun k=>by cases k),fun t=>absurd t h⟩⟩
theorem zjk {m:Md} (h:Tree m):zfG m (.returned (.bool true)):=⟨true,rfl,⟨fun _=>h,fun _=>rfl⟩⟩
theorem zfH {w:World} {j g n o:Nat} {xs:List Value} (h:w.ownsRow j 3 1 (.slice (some ⟨g,0,none⟩) n o) n xs): ∀b,w.heap[g]? =some b→∃q,b= .cells q 3 (0,0):=by
 have D:OwnR w j 3 1 ⟨some ⟨g,0,none⟩,o⟩ n xs:=h
 obtain⟨_,_,c,A⟩:=D.typed rfl
 intro b z
 rw[A] at z
 exact⟨c,(Option.some.inj z).symm⟩
theorem zoY (n:Nat) (S:Sv) (m:Md) (w:World) (h:OwnMd w n S m) (hl:m.ex.length≤4294967296) (hs:m.st.length≤4294967296):
  Calls Tryz.prog 61 #[zp S m] w fun e w'=>zfG m e∧Below w.heap.size w w':=by
 obtain⟨i0,hi,aR,aL,aW⟩:=info_parts Tryz.infoInt
 have HH:=zc h
 clear h
 unfold zp
 go_enter Tryz.func61,Tryz.ntmps61
 go_wp2_with (first|(at_make;refine wpList_make_full _ rfl _ _ 151 rfl (w.heap.size+1) 3 i0 (.int .i64 0) 1 Tryz.underlying151 hi aR aL .i64 .i64 _ _ m.ex.length (by rfl) (by rfl) rfl rfl (by rw[aW];omega) (by unfold maxLen;omega) (by rw[zk];omega) ?_))
 intro w1 ab Q
 rw[zjj] at ab
 have bb:Below (w.heap.size+1) (w.alloc _) w1:=⟨Q.os,Q.tape,Q.output,Q.size,fun k hk=>Q.block k (by rw[zk];exact hk) (by simp)⟩
 have aw:Hid (Below w.heap.size w w1):=((Below.refl _ _).alloc (Nat.le_refl _) _).trans (bb.mono (by omega))
 have au:Hid (w1.heap[w.heap.size]? =some (.cells #[.slice S.rq.a m.rq.length S.rq.cap,.slice S.im.a m.im.length S.im.cap,.slice S.ep.a m.ep.length S.ep.cap,.slice S.st.a m.st.length S.st.cap,.slice S.ex.a m.ex.length S.ex.cap] 28 (0,0))):=(bb.block _ (by omega)).trans (heap_alloc_new w _)
 have aT:=zc (HH.out.later aw.out)
 have aH:Hid (w1.ownsRow (w.heap.size+1) 3 1 (.slice (some ⟨w.heap.size+1,0,none⟩) m.ex.length m.ex.length) m.ex.length (zal m.ex.length (cE m.ex 0))):=by show World.ownsRow _ _ _ _ _ _ _;rw[show zal m.ex.length (cE m.ex 0)=zal m.ex.length (fun _=>0) from zdE fun k _=>by simp[cE,zam]];exact ab
 clear ab Q bb
 obtain⟨c0,c1,c2,c3,c4,cf⟩:=zl au.out
 go_wp2
 go_loopg [4] m.ex.length (fun k i wr=>∃j:Nat,i= .int .i64 j∧j+k=m.ex.length∧AheadTo m.ex j∧wr.ownsRow (w.heap.size+1) 3 1 (.slice (some ⟨w.heap.size+1,0,none⟩) m.ex.length m.ex.length) m.ex.length (zal m.ex.length (cE m.ex j))∧OwnMd wr n S m∧wr.heap[w.heap.size]? =some (.cells #[.slice S.rq.a m.rq.length S.rq.cap,.slice S.im.a m.im.length S.im.cap,.slice S.ep.a m.ep.length S.ep.cap,.slice S.st.a m.st.length S.st.cap,.slice S.ex.a m.ex.length S.ex.cap] 28 (0,0))∧Below w.heap.size w wr)
 case atStart=>exact⟨0,rfl,by omega,fun i x hi=>absurd hi (Nat.not_lt_zero i),aH.out,aT.out,au.out,aw.out⟩
 case round=>
  obtain⟨j,rfl,hj,ah,o,L,M,H⟩:=hrel
  have AH:=zc ah
  have HN:=zc o
  have HO:=zc L
  have HX:=zc M
  have N:=zc H
  clear ah o L M H
  clear c0 c1 c2 c3 c4 cf
  obtain⟨c0,c1,c2,c3,c4,cf⟩:=zl HX.out
  have ag:=(Array.getElem?_eq_some_iff.1 HX.out).1
  by_cases z:j<m.ex.length
  ·have aD:(j:Int)<(m.ex.length:Int):=by omega
   obtain⟨g,hg,bo,x0,x1,x2,x3,x4,x5⟩:=HO.out.expr z
   rw[hg] at c4
   clear hg
   have aG:=zc (zdz z)
   obtain⟨x,am⟩: ∃x,m.ex.getD j zg=x:=⟨_,rfl⟩
   rw[am] at x0 x1 x2 x3 x4 x5
   have I:Hid (m.ex[j]=x):=aG.out.symm.trans am
   clear am aG
   obtain⟨J,E⟩: ∃J,J=j+1:=⟨_,rfl⟩
   have ej:(j:Int)+1=(J:Int):=by omega
   have O:=zc E
   clear E
   have U:Hid (Below wr.heap.size wr (wr.alloc (.cells #[.int .i64 x.kind,.int .i64 x.num,.string x.name,.string x.field,.int .i64 x.l,.int .i64 x.r] 108))):=(Below.refl _ _).alloc (Nat.le_refl _) _
   go_wp2_with fail
   refine (zjg x.kind _).mono ?_
   rintro e w2 ⟨rfl,hw⟩
   rw[hw]
   clear hw w2
   cases ht:zW x.kind with
   |false=>
    go_wp2
    go_roundg (gk-1)
    case rel=>exact⟨J,rfl,by have:=O.out;omega,by rw[O.out];exact AH.out.next z (fun k=>by rw[I.out,ht] at k;cases k),by rw[O.out,show zal m.ex.length (cE m.ex (j+1))=zal m.ex.length (cE m.ex j) from zdE fun k _=>(zje z (by rw[I.out];exact ht) k).symm];exact zfb HN.out U.out,HO.out.later U.out,(U.out.block _ ag).trans HX.out,N.out.trans (U.out.mono N.out.size)⟩
    case measure=>omega
   |true=>
    by_cases a1:x.l<0
    ·have X:decide (x.l<0)=true:=decide_eq_true a1
     go_wp2
     go_ret
     exact⟨zc4 (fun (t:Tree m)=>absurd t.ahead (AheadTo.not z (by rw[I.out];exact ht) (by rw[I.out];omega))),N.out.trans (U.out.mono N.out.size)⟩
    have X:decide (x.l<0)=false:=decide_eq_false a1
    by_cases a2:(j:Int)≤x.l
    ·have Y:decide ((j:Int)≤x.l)=true:=decide_eq_true a2
     go_wp2
     go_ret
     exact⟨zc4 (fun (t:Tree m)=>absurd t.ahead (AheadTo.not z (by rw[I.out];exact ht) (by rw[I.out];omega))),N.out.trans (U.out.mono N.out.size)⟩
    have Y:decide ((j:Int)≤x.l)=false:=decide_eq_false a2
    by_cases a3:x.r<0
    ·have az:decide (x.r<0)=true:=decide_eq_true a3
     go_wp2
     go_ret
     exact⟨zc4 (fun (t:Tree m)=>absurd t.ahead (AheadTo.not z (by rw[I.out];exact ht) (by rw[I.out];omega))),N.out.trans (U.out.mono N.out.size)⟩
    have az:decide (x.r<0)=false:=decide_eq_false a3
    by_cases a4:(j:Int)≤x.r
    ·have aB:decide ((j:Int)≤x.r)=true:=decide_eq_true a4
     go_wp2
     go_ret
     exact⟨zc4 (fun (t:Tree m)=>absurd t.ahead (AheadTo.not z (by rw[I.out];exact ht) (by rw[I.out];omega))),N.out.trans (U.out.mono N.out.size)⟩
    have aB:decide ((j:Int)≤x.r)=false:=decide_eq_false a4
    go_wp2_with fail
    obtain⟨q,ac⟩: ∃q:Nat,x.l=(q:Int):=⟨x.l.toNat,by omega⟩
    obtain⟨A,aa⟩: ∃A:Nat,x.r=(A:Int):=⟨x.r.toNat,by omega⟩
    have bt:q<m.ex.length:=by omega
    have bu:A<m.ex.length:=by omega
    have a8:(q:Int)<(m.ex.length:Int):=by omega
    have aZ:(A:Int)<(m.ex.length:Int):=by omega
    have aN:Hid (AheadTo m.ex (j+1)):=AH.out.next z (fun _=>by rw[I.out];omega)
    have HU:Hid (∀k:Nat,zaF (zaF (cE m.ex j) q) A k=cE m.ex (j+1) k):=fun k=>by have:=zjd z (by rw[I.out];exact ht) (by rw[I.out];omega) (by rw[I.out];omega) k;rw[I.out,ac,aa] at this;exact this
    have ax:=zfB (m.ex.take j)
    have a5:(m.ex.take j).length≤4294967296:=by rw[List.length_take];omega
    have ba:=(zgZ HN.out).2
    refine zau (R:=fun W=>W.heap[wr.heap.size]? =some (.cells #[.int .i64 x.kind,.int .i64 x.num,.string x.name,.string x.field,.int .i64 (q:Int),.int .i64 (A:Int)] 108 (0,0))∧W.ownsRow (w.heap.size+1) 3 1 (.slice (some ⟨w.heap.size+1,0,none⟩) m.ex.length m.ex.length) m.ex.length (zal m.ex.length (cE m.ex j))∧OwnMd W n S m∧W.heap[w.heap.size]? =some (.cells #[.slice S.rq.a m.rq.length S.rq.cap,.slice S.im.a m.im.length S.im.cap,.slice S.ep.a m.ep.length S.ep.cap,.slice S.st.a m.st.length S.st.cap,.slice S.ex.a m.ex.length S.ex.cap] 28 (0,0))∧Below w.heap.size w W) ⟨by have:=heap_alloc_new wr (.cells #[.int .i64 x.kind,.int .i64 x.num,.string x.name,.string x.field,.int .i64 x.l,.int .i64 x.r] 108);rw[ac,aa] at this;rw[ac,aa];exact this,zfb HN.out U.out,HO.out.later U.out,(U.out.block _ ag).trans HX.out,N.out.trans (U.out.mono N.out.size)⟩ ?_
    have bf:=zc ac
    have a9:=zc aa
    clear ac aa X Y az aB a1 a2 a3 a4
    rintro W ⟨xb,o,L,M,H⟩
    have bk:=zc xb
    have bi:=zc o
    have bj:=zc L
    have bq:=zc M
    have bg:=zc H
    obtain⟨s0,s1,s2,s3,s4,s5,sf⟩:=zv xb
    obtain⟨va,af⟩: ∃v,(cE m.ex j) q=v:=⟨_,rfl⟩
    have ea:=zep o (k:=q) (by omega)
    have ef:=o.frozenAt
    rw[af] at ea
    have a6:va≤17179869184:=by rw[←af];have:=ax (q:Int);unfold cE;omega
    obtain⟨ua,aC⟩: ∃u,u=va+1:=⟨_,rfl⟩
    have bz:(va:Int)+1=(ua:Int):=by omega
    have aX:IntKind.i64.wrap (ua:Int)=(ua:Int):=IntWalk.i64_in _ ⟨by omega,by omega⟩
    have aK:Hid ((W.setCell ⟨w.heap.size+1,q,none⟩ (.int .i64 (ua:Int))).ownsRow (w.heap.size+1) 3 1 (.slice (some ⟨w.heap.size+1,0,none⟩) m.ex.length m.ex.length) m.ex.length (zal m.ex.length (zaF (cE m.ex j) q))):=zfE o q ua (by rw[aC,af])
    have aV:Hid (OwnMd (W.setCell ⟨w.heap.size+1,q,none⟩ (.int .i64 (ua:Int))) n S m):=zfF L (zfH o)
    have aI:Hid ((W.setCell ⟨w.heap.size+1,q,none⟩ (.int .i64 (ua:Int))).heap[w.heap.size]? =some (.cells #[.slice S.rq.a m.rq.length S.rq.cap,.slice S.im.a m.im.length S.im.cap,.slice S.ep.a m.ep.length S.ep.cap,.slice S.st.a m.st.length S.st.cap,.slice S.ex.a m.ex.length S.ex.cap] 28 (0,0))):=(zi (by omega)).trans M
    have aQ:Hid (Below w.heap.size w (W.setCell ⟨w.heap.size+1,q,none⟩ (.int .i64 (ua:Int)))):=H.setCell (Nat.le_succ _) _
    have aS:Hid ((W.setCell ⟨w.heap.size+1,q,none⟩ (.int .i64 (ua:Int))).heap[wr.heap.size]? =some (.cells #[.int .i64 x.kind,.int .i64 x.num,.string x.name,.string x.field,.int .i64 (q:Int),.int .i64 (A:Int)] 108 (0,0))):=(zi (by omega)).trans xb
    clear xb o L M H af aC
    go_region
    clear s0 s1 s2 s3 s4 s5 sf ef ea
    go_wp2_with fail
    refine zau (R:=fun W=>W.heap[wr.heap.size]? =some (.cells #[.int .i64 x.kind,.int .i64 x.num,.string x.name,.string x.field,.int .i64 (q:Int),.int .i64 (A:Int)] 108 (0,0))∧W.ownsRow (w.heap.size+1) 3 1 (.slice (some ⟨w.heap.size+1,0,none⟩) m.ex.length m.ex.length) m.ex.length (zal m.ex.length (zaF (cE m.ex j) q))∧OwnMd W n S m∧W.heap[w.heap.size]? =some (.cells #[.slice S.rq.a m.rq.length S.rq.cap,.slice S.im.a m.im.length S.im.cap,.slice S.ep.a m.ep.length S.ep.cap,.slice S.st.a m.st.length S.st.cap,.slice S.ex.a m.ex.length S.ex.cap] 28 (0,0))∧Below w.heap.size w W) ⟨aS.out,aK.out,aV.out.drewI,aI.out,aQ.out.drew⟩ ?_
    rintro V ⟨xb,o,L,M,H⟩
    have bc:=zc xb
    have bl:=zc o
    have bv:=zc L
    have bs:=zc M
    have bp:=zc H
    obtain⟨s0,s1,s2,s3,s4,s5,sf⟩:=zv xb
    obtain⟨vb,Z⟩: ∃v,(zaF (cE m.ex j) q) A=v:=⟨_,rfl⟩
    have eb:=zep o (k:=A) (by omega)
    have ef:=o.frozenAt
    rw[Z] at eb
    have a7:vb≤17179869184:=by rw[←Z];have:=ax (A:Int);unfold zaF cE;split<;>omega
    obtain⟨ub,aq⟩: ∃u,u=vb+1:=⟨_,rfl⟩
    have bm:(vb:Int)+1=(ub:Int):=by omega
    have a0:IntKind.i64.wrap (ub:Int)=(ub:Int):=IntWalk.i64_in _ ⟨by omega,by omega⟩
    have aJ:Hid ((V.setCell ⟨w.heap.size+1,A,none⟩ (.int .i64 (ub:Int))).ownsRow (w.heap.size+1) 3 1 (.slice (some ⟨w.heap.size+1,0,none⟩) m.ex.length m.ex.length) m.ex.length (zal m.ex.length (zaF (zaF (cE m.ex j) q) A))):=zfE o A ub (by rw[aq,Z])
    have aM:Hid (OwnMd (V.setCell ⟨w.heap.size+1,A,none⟩ (.int .i64 (ub:Int))) n S m):=zfF L (zfH o)
    have aU:Hid ((V.setCell ⟨w.heap.size+1,A,none⟩ (.int .i64 (ub:Int))).heap[w.heap.size]? =some (.cells #[.slice S.rq.a m.rq.length S.rq.cap,.slice S.im.a m.im.length S.im.cap,.slice S.ep.a m.ep.length S.ep.cap,.slice S.st.a m.st.length S.st.cap,.slice S.ex.a m.ex.length S.ex.cap] 28 (0,0))):=(zi (by omega)).trans M
    have aP:Hid (Below w.heap.size w (V.setCell ⟨w.heap.size+1,A,none⟩ (.int .i64 (ub:Int)))):=H.setCell (Nat.le_succ _) _
    have bn:Hid ((V.setCell ⟨w.heap.size+1,A,none⟩ (.int .i64 (ub:Int))).heap[wr.heap.size]? =some (.cells #[.int .i64 x.kind,.int .i64 x.num,.string x.name,.string x.field,.int .i64 (q:Int),.int .i64 (A:Int)] 108 (0,0))):=(zi (by omega)).trans xb
    clear xb o L M H Z aq
    go_region
    clear s0 s1 s2 s3 s4 s5 sf ef eb
    go_wp2
    go_roundg (gk-1)
    case rel=>exact⟨J,rfl,by have:=O.out;omega,by rw[O.out];exact aN.out,by rw[O.out,←zdE fun k _=>HU.out k];exact aJ.out,aM.out.drewI,aU.out,aP.out.drew⟩
    case measure=>omega
  ·have aD: ¬(j:Int)<(m.ex.length:Int):=by omega
   obtain rfl:j=m.ex.length:=by omega
   have HA:=zc AH.out.all
   have HC:Hid (wr.ownsRow (w.heap.size+1) 3 1 (.slice (some ⟨w.heap.size+1,0,none⟩) m.ex.length m.ex.length) m.ex.length (zal m.ex.length (cS m 0))):=by show World.ownsRow _ _ _ _ _ _ _;rw[show zal m.ex.length (cS m 0)=zal m.ex.length (cE m.ex m.ex.length) from zdE fun k _=>by simp[cE,cS,zaG]];exact HN.out
   go_wp2
   go_loopg [6] m.st.length (fun k i wr=>∃j:Nat,i= .int .i64 j∧j+k=m.st.length∧(∀s∈m.st.take j,0≤s.expr∧s.expr<(m.ex.length:Int))∧wr.ownsRow (w.heap.size+1) 3 1 (.slice (some ⟨w.heap.size+1,0,none⟩) m.ex.length m.ex.length) m.ex.length (zal m.ex.length (cS m j))∧OwnMd wr n S m∧wr.heap[w.heap.size]? =some (.cells #[.slice S.rq.a m.rq.length S.rq.cap,.slice S.im.a m.im.length S.im.cap,.slice S.ep.a m.ep.length S.ep.cap,.slice S.st.a m.st.length S.st.cap,.slice S.ex.a m.ex.length S.ex.cap] 28 (0,0))∧Below w.heap.size w wr)
   case atStart=>exact⟨0,rfl,by omega,(fun s hs=>by simp at hs),HC.out,HO.out,HX.out,N.out⟩
   case round=>
    obtain⟨j,rfl,be,ah,o,L,M,H⟩:=hrel
    have AS:=zc ah
    have ad:=zc o
    have aE:=zc L
    have av:=zc M
    have ae:=zc H
    clear ah o L M H c0 c1 c2 c3 c4 cf
    obtain⟨c0,c1,c2,c3,c4,cf⟩:=zl av.out
    by_cases D:j<m.st.length
    ·have an:(j:Int)<(m.st.length:Int):=by omega
     obtain⟨s,ao⟩: ∃s,m.st[j]? =some s:=⟨_,List.getElem?_eq_getElem D⟩
     obtain⟨g,hg,aF⟩:=OwnR.elem (f:=smL) (m:=3) (fun _=>rfl) aE.out.st ao
     have k2:=aF 2 (by omega)
     simp only[smL,List.getElem?_cons_zero,List.getElem?_cons_succ] at k2
     rw[hg] at c3
     obtain⟨_,aj⟩:=List.getElem?_eq_some_iff.1 ao
     have HS:Hid (m.st[j]=s):=aj
     clear hg aF ao aj
     obtain⟨J,E⟩: ∃J,J=j+1:=⟨_,rfl⟩
     have ej:(j:Int)+1=(J:Int):=by omega
     have O:=zc E
     clear E
     by_cases a1:s.expr<0
     ·have X:decide (s.expr<0)=true:=decide_eq_true a1
      go_wp2
      go_ret
      exact⟨zc4 (fun (t:Tree m)=>by have:=t.stm _ (List.getElem_mem D);rw[HS.out] at this;omega),ae.out⟩
     have X:decide (s.expr<0)=false:=decide_eq_false a1
     by_cases a2:(m.ex.length:Int)≤s.expr
     ·have Y:decide ((m.ex.length:Int)≤s.expr)=true:=decide_eq_true a2
      go_wp2
      go_ret
      exact⟨zc4 (fun (t:Tree m)=>by have:=t.stm _ (List.getElem_mem D);rw[HS.out] at this;omega),ae.out⟩
     have Y:decide ((m.ex.length:Int)≤s.expr)=false:=decide_eq_false a2
     obtain⟨K,al⟩: ∃K:Nat,s.expr=(K:Int):=⟨s.expr.toNat,by omega⟩
     have aO:K<m.ex.length:=by omega
     have aY:(K:Int)<(m.ex.length:Int):=by omega
     have ar:Hid (∀s∈m.st.take (j+1),0≤s.expr∧s.expr<(m.ex.length:Int)):=by
      intro y hy
      rw[List.take_succ_eq_append_getElem D,List.mem_append] at hy
      rcases hy with hy|hy
      ·exact AS.out y hy
      ·simp only[List.mem_singleton] at hy
       rw[hy,HS.out]
       omega
     have HU:Hid (∀k:Nat,zaF (cS m j) K k=cS m (j+1) k):=fun k=>by have:=zjf (ex:=m.ex) D (by rw[HS.out];omega) k;rw[HS.out,al] at this;exact this
     rw[al] at k2 a1 a2 X Y
     obtain⟨v,hv⟩: ∃v,cS m j K=v:=⟨_,rfl⟩
     have ea:=zep ad.out aO
     have ef:=ad.out.frozenAt
     rw[hv] at ea
     have Z:v≤17179869184:=by rw[←hv];unfold cS;have:=zfB m.ex (K:Int);have:=zjc (m.st.take j) (K:Int);rw[List.length_take] at this;omega
     obtain⟨u,hu⟩: ∃u,u=v+1:=⟨_,rfl⟩
     have ev:(v:Int)+1=(u:Int):=by omega
     have aq:u≤17179869185:=by omega
     have NN:Hid ((wr.setCell ⟨w.heap.size+1,K,none⟩ (.int .i64 (u:Int))).ownsRow (w.heap.size+1) 3 1 (.slice (some ⟨w.heap.size+1,0,none⟩) m.ex.length m.ex.length) m.ex.length (zal m.ex.length (zaF (cS m j) K))):=zfE ad.out K u (by rw[hu,hv])
     have NO:Hid (OwnMd (wr.setCell ⟨w.heap.size+1,K,none⟩ (.int .i64 (u:Int))) n S m):=zfF aE.out (zfH ad.out)
     have NX:Hid ((wr.setCell ⟨w.heap.size+1,K,none⟩ (.int .i64 (u:Int))).heap[w.heap.size]? =some (.cells #[.slice S.rq.a m.rq.length S.rq.cap,.slice S.im.a m.im.length S.im.cap,.slice S.ep.a m.ep.length S.ep.cap,.slice S.st.a m.st.length S.st.cap,.slice S.ex.a m.ex.length S.ex.cap] 28 (0,0))):=(zi (by omega)).trans av.out
     have NB:Hid (Below w.heap.size w (wr.setCell ⟨w.heap.size+1,K,none⟩ (.int .i64 (u:Int)))):=ae.out.setCell (Nat.le_succ _) _
     clear al hv hu
     go_wp2
     go_roundg (gk-1)
     case rel=>exact⟨J,rfl,by have:=O.out;omega,by rw[O.out];exact ar.out,by rw[O.out,←zdE fun k _=>HU.out k];exact NN.out,NO.out,NX.out,NB.out⟩
     case measure=>omega
    ·have an: ¬(j:Int)<(m.st.length:Int):=by omega
     obtain rfl:j=m.st.length:=by omega
     have ar:Hid (∀s∈m.st,0≤s.expr∧s.expr<(m.ex.length:Int)):=by have:=AS.out;rw[List.take_length] at this;exact this
     go_wp2
     go_loopg [8] m.ex.length (fun k i wr=>∃j:Nat,i= .int .i64 j∧j+k=m.ex.length∧(∀k,k<j→cS m m.st.length k=1)∧wr.ownsRow (w.heap.size+1) 3 1 (.slice (some ⟨w.heap.size+1,0,none⟩) m.ex.length m.ex.length) m.ex.length (zal m.ex.length (cS m m.st.length))∧Below w.heap.size w wr)
     case atStart=>exact⟨0,rfl,by omega,fun k hk=>absurd hk (Nat.not_lt_zero k),ad.out,ae.out⟩
     case round=>
      obtain⟨j,rfl,br,ah,o,H⟩:=hrel
      have AC:=zc ah
      have ay:=zc o
      have ak:=zc H
      clear ah o H c0 c1 c2 c3 c4 cf
      by_cases ai:j<m.ex.length
      ·have ap:(j:Int)<(m.ex.length:Int):=by omega
       obtain⟨v,hv⟩: ∃v,cS m m.st.length j=v:=⟨_,rfl⟩
       have ea:=zep ay.out ai
       rw[hv] at ea
       have HV:=zc hv
       clear hv
       obtain⟨J,E⟩: ∃J,J=j+1:=⟨_,rfl⟩
       have ej:(j:Int)+1=(J:Int):=by omega
       have O:=zc E
       clear E
       by_cases aA:v=1
       ·subst aA
        go_wp2
        go_roundg (gk-1)
        case rel=>exact⟨J,rfl,by have:=O.out;omega,(fun k hk=>(Nat.lt_or_eq_of_le (show k≤j by have:=O.out;omega)).elim (AC.out k) (fun e=>by rw[e];exact HV.out)),ay.out,ak.out⟩
        case measure=>omega
       ·have dv:((v:Int) !=1)=true:=by rw[bne_iff_ne];omega
        go_wp2
        go_ret
        exact⟨zc4 (fun (t:Tree m)=>absurd (by have:=t.once j ai;have h2:=HV.out;unfold cS at h2;rw[List.take_length] at h2;omega) aA),ak.out⟩
      ·have ap: ¬(j:Int)<(m.ex.length:Int):=by omega
       go_wp2
       go_ret
       exact⟨zjk ⟨HA.out,ar.out,fun k hk=>by have:=AC.out k (by omega);unfold cS at this;rw[List.take_length] at this;exact this⟩,ak.out⟩
theorem zfc (k:Int) (w:World):Calls Tryz.prog 158 #[.int .i64 k] w fun e j=>e= .returned (.bool (k==6||k==7))∧j=w:=by
 cases n:(k==6) with
 |true=>
  go_enter Tryz.func158,Tryz.ntmps158
  go_wp2
  go_ret
  exact⟨rfl,rfl⟩
 |false=>
  cases o:(k==7) with
  |true=>
   go_enter Tryz.func158,Tryz.ntmps158
   go_wp2
   go_ret
   exact⟨rfl,rfl⟩
  |false=>
   go_enter Tryz.func158,Tryz.ntmps158
   go_wp2
   go_ret
   exact⟨rfl,rfl⟩
theorem zjl (k:Int) (w:World):Calls Tryz.prog 113 #[.int .i64 k] w fun e z=>e= .returned (.bool (zW k))∧z=w:=by
 cases j:(k==6||k==7) with
 |true=>
  have n:Hid (zW k=true):=by show _=_;rw[zW,j];rfl
  go_enter Tryz.func113,Tryz.ntmps113
  go_wp2_with fail
  refine (zfc k _).mono ?_
  rintro e o ⟨rfl,rfl⟩
  rw[j]
  go_wp2
  go_ret
  exact⟨zm n.out.symm,rfl⟩
 |false=>
  cases q:(k==8) with
  |true=>
   have n:Hid (zW k=true):=by show _=_;rw[zW,j,q];rfl
   go_enter Tryz.func113,Tryz.ntmps113
   go_wp2_with fail
   refine (zfc k _).mono ?_
   rintro e o ⟨rfl,rfl⟩
   rw[j]
   go_wp2
   go_ret
   exact⟨zm n.out.symm,rfl⟩
  |false=>
   have n:Hid (zW k=false):=by show _=_;rw[zW,j,q];rfl
   go_enter Tryz.func113,Tryz.ntmps113
   go_wp2_with fail
   refine (zfc k _).mono ?_
   rintro e o ⟨rfl,rfl⟩
   rw[j]
   go_wp2
   go_ret
   exact⟨zm n.out.symm,rfl⟩
theorem zoZ (k:Int) (w:World):Calls Tryz.prog 115 #[.int .i64 k] w fun e j=>e= .returned (.bool (k !=1))∧j=w:=by
 go_enter Tryz.func115,Tryz.ntmps115
 go_wp2
 go_ret
 exact⟨rfl,rfl⟩
theorem zjm {w:World} {b:Nat} {t:TypeId} {j:Value} (h:w.heap[b]? =some (.cells #[j] t (0,0))):w.cell? ⟨b,0,none⟩=some j∧∀i,w.frozen? ⟨b,i,none⟩=false:=by
 refine⟨?_,fun i=>?_⟩<;>simp[World.cell?,World.frozen?,h]
theorem zha (i n:Int) (u:Value) (w:World) (h: ¬(0≤i∧i<n)):
  Calls Tryz.prog 112 #[.int .i64 i,.int .i64 n,u] w fun e j=>e= .returned (.bool false)∧j=w:=by
 by_cases q:i<0
 ·go_enter Tryz.func112,Tryz.ntmps112
  go_wp2
  go_ret
  exact⟨rfl,rfl⟩
 ·have o:n≤i:=by omega
  clear h
  go_enter Tryz.func112,Tryz.ntmps112
  go_wp2
  go_ret
  exact⟨rfl,rfl⟩
theorem zpa (i j q g H:Nat) (n:Int) (f:Nat→Nat) (w:World) (I:w.heap[H]? =some (.cells #[.slice (some ⟨g,0,none⟩) j j] 151 (0,0))) (h:w.ownsRow q 3 1 (.slice (some ⟨g,0,none⟩) j j) j (zal j f)) (L:f i≤17179869184) (O:i<j) (Q:(i:Int)<n):
  Calls Tryz.prog 112 #[.int .i64 (i:Int),.int .i64 n,.pointer (some ⟨H,0,none⟩)] w fun e N=>e= .returned (.bool true)∧N=w.setCell ⟨g,i,none⟩ (.int .i64 (f i+1:Nat)):=by
 have V: ¬(i:Int)<0:=by omega
 have Y: ¬n≤(i:Int):=by omega
 have J:(i:Int)<(j:Int):=by omega
 obtain⟨X,Z⟩:=zjm I
 obtain⟨D,o⟩: ∃v,f i=v:=⟨_,rfl⟩
 have M:=zep h (k:=i) (by omega)
 have U:=h.frozenAt
 rw[o] at M L
 rw[o]
 obtain⟨A,z⟩: ∃u,u=D+1:=⟨_,rfl⟩
 have K:(D:Int)+1=(A:Int):=by omega
 have E:IntKind.i64.wrap (A:Int)=(A:Int):=IntWalk.i64_in _ ⟨by omega,by omega⟩
 rw[←z]
 clear I h o z
 go_enter Tryz.func112,Tryz.ntmps112
 go_wp2
 go_ret
 exact⟨rfl,rfl⟩
def odd (n:Nat) (f:Nat→Nat) (j:Nat):Bool:=(List.range n).any fun k=>decide (j≤k)&&((f k:Int) !=1)
theorem zpb {n:Nat} {f:Nat→Nat} {j:Nat} (z:j<n):odd n f j=(((f j:Int) !=1)||odd n f (j+1)):=by
 rw[Bool.eq_iff_iff,Bool.or_eq_true]
 simp only[odd,List.any_eq_true,List.mem_range,Bool.and_eq_true,decide_eq_true_eq]
 constructor
 ·rintro⟨k,q,o,h⟩
  by_cases e:k=j
  ·exact .inl (e▸h)
  ·exact .inr ⟨k,q,by omega,h⟩
 ·rintro (h|⟨k,q,o,h⟩)
  ·exact⟨j,z,Nat.le_refl _,h⟩
  ·exact⟨k,q,by omega,h⟩
theorem zpc {n:Nat} (f:Nat→Nat) {j:Nat} (z:n≤j):odd n f j=false:=by
 rw[Bool.eq_false_iff]
 intro h
 simp only[odd,List.any_eq_true,List.mem_range,Bool.and_eq_true,decide_eq_true_eq] at h
 obtain⟨k,q,o,_⟩:=h
 omega
theorem zpd (q g n:Nat) (f:Nat→Nat) (w:World) (h:w.ownsRow q 3 1 (.slice (some ⟨g,0,none⟩) n n) n (zal n f)) (Z:n≤4294967296):
  Calls Tryz.prog 159 #[.slice (some ⟨g,0,none⟩) n n,.func (.func 115) #[] #[]] w fun e Y=>(∃v:Int,e= .returned (.int .i64 v)∧decide (0≤v)=odd n f 0)∧Below w.heap.size w Y:=by
 have X:=zc h
 clear h
 go_enter Tryz.func159,Tryz.ntmps159
 go_wp2
 go_loopg [8] (n+1) (fun k i wr=>∃j:Nat,i= .int .i64 j∧j+k=n+1∧odd n f j=odd n f 0∧Below w.heap.size w wr)
 case atStart=>exact⟨0,rfl,by omega,rfl,Below.refl _ _⟩
 case round=>
  obtain⟨j,rfl,hj,L,M⟩:=hrel
  have I:=zc L
  have E:=zc M
  clear L M
  by_cases A:j<n
  ·have o:(j:Int)<(n:Int):=by omega
   have V:=zep (zfb X.out E.out) A
   have N:=zc (zpb (f:=f) A)
   obtain⟨v,H⟩: ∃v,f j=v:=⟨_,rfl⟩
   rw[H] at V
   have Q:=zc H
   clear H
   obtain⟨D,z⟩: ∃D,D=j+1:=⟨_,rfl⟩
   have ej:(j:Int)+1=(D:Int):=by omega
   have J:=zc z
   clear z
   go_wp2_with fail
   refine (zoZ (v:Int) _).mono ?_
   rintro e U ⟨rfl,K⟩
   rw[K]
   clear K U
   cases O:((v:Int) !=1) with
   |true=>
    go_wp2
    go_ret
    refine⟨⟨_,rfl,?_⟩,E.out⟩
    rw[←I.out,N.out,Q.out,O]
    simp
   |false=>
    go_wp2
    go_roundg (gk-1)
    case rel=>
     refine⟨D,rfl,by have:=J.out;omega,?_,E.out⟩
     rw[←I.out,N.out,Q.out,O,J.out]
     simp
    case measure=>omega
  ·have o: ¬(j:Int)<(n:Int):=by omega
   go_wp2
   go_ret
   refine⟨⟨_,rfl,?_⟩,E.out⟩
   rw[←I.out,zpc f (by omega)]
   rfl
theorem zpe (n g j:Nat) (f:Nat→Nat) (w:World) (h:w.ownsRow n 3 1 (.slice (some ⟨g,0,none⟩) j j) j (zal j f)) (D:j≤4294967296):
  Calls Tryz.prog 114 #[.slice (some ⟨g,0,none⟩) j j,.func (.func 115) #[] #[]] w fun e H=>e= .returned (.bool (odd j f 0))∧Below w.heap.size w H:=by
 have E:=zc h
 clear h
 go_enter Tryz.func114,Tryz.ntmps114
 go_wp2_with fail
 refine (zpd n g j f _ E.out D).mono ?_
 rintro e I ⟨⟨v,rfl,o⟩,q⟩
 have A:=zc o
 have z:=zc q
 clear o q
 go_wp2
 go_ret
 exact⟨zm A.out,z.out⟩
end Go.Proofs.YticdggnnpjachaaGreat
