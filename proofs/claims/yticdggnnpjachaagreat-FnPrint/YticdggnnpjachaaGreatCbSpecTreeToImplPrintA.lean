/-
  What l5Tree of the specification answers: the walk.
  What impl's isSum,hasSides and the closure that counts a use answer: the walks.
-/
import Derived.BigRegion
import Derived.Test.YticdggnnpjachaaGreatCbEqModToImplParseQ
namespace Go.Proofs.YticdggnnpjachaaGreat
set_option maxRecDepth 100000
set_option maxHeartbeats 6400000
open Go.RowKit Go.PlainAid Go.Sort
theorem Tryz.infoInt:(Tryz.prog.info? 3).map (fun i=>(i.zero,i.size,i.bytes))=some (some (.int .i64 0),1,8):=by kernel_rfl
theorem zjj (n:Nat):(madeCells #[.int .i64 0] n).toList=zal n (fun _=>0):=by
 rw[toList_madeCells_one]
 unfold zal
 rw[List.map_const',List.length_range]
 rfl
theorem zep {w:World} {j g n o:Nat} {f:Nat→Nat} (h:w.ownsRow j 3 1 (.slice (some ⟨g,0,none⟩) n o) n (zal n f)) {k:Nat} (q:k<n):w.cell? ⟨g,k,none⟩=some (.int .i64 (f k:Int)):=by
 rw[h.cellAt k (by omega)]
 exact zfC f q
theorem zfE {w:World} {o g n q:Nat} {f:Nat→Nat} (h:w.ownsRow o 3 1 (.slice (some ⟨g,0,none⟩) n q) n (zal n f)) (k v:Nat) (z:v=f k+1):(w.setCell ⟨g,k,none⟩ (.int .i64 (v:Int))).ownsRow o 3 1 (.slice (some ⟨g,0,none⟩) n q) n (zal n (zaF f k)):=by
 have:=(h.stored k (.int .i64 (v:Int))).1
 rw[zoJ f (zaF f k) v (by rw[zoK,z]) (fun j A=>zoL f A)] at this
 exact this
theorem zfb {w q:World} {j g n o:Nat} {xs:List Value} (h:w.ownsRow j 3 1 (.slice (some ⟨g,0,none⟩) n o) n xs) (A:Below w.heap.size w q):q.ownsRow j 3 1 (.slice (some ⟨g,0,none⟩) n o) n xs:=by
 have z:OwnR w j 3 1 ⟨some ⟨g,0,none⟩,o⟩ n xs:=h
 exact z.keep fun k e=>A.block k (z.typed e).2.1
theorem zgZ {w:World} {j g n o:Nat} {xs:List Value} (h:w.ownsRow j 3 1 (.slice (some ⟨g,0,none⟩) n o) n xs):j≤g∧g<w.heap.size:=by
 have q:OwnR w j 3 1 ⟨some ⟨g,0,none⟩,o⟩ n xs:=h
 exact⟨(q.typed rfl).1,(q.typed rfl).2.1⟩
theorem zfF {w:World} {j g k:Nat} {S:Sv} {m:Md} {u:Value} (h:OwnMd w j S m) (I: ∀b,w.heap[g]? =some b→∃z,b= .cells z 3 (0,0)):OwnMd (w.setCell ⟨g,k,none⟩ u) j S m:=by
 have A: ∀(e:TypeId) (o n:Nat) (r:Rw) (D:List Value),OwnR w j e o r n D→e≠3→OwnR (w.setCell ⟨g,k,none⟩ u) j e o r n D:=fun e o n r D h J=>h.keep fun b E=>Below.heap_setCell w ⟨g,k,none⟩ u b (fun K=>by
  obtain⟨_,_,c,H⟩:=h.typed E
  obtain⟨z,q⟩:=I _ (by rw[←show b=g from K];exact H)
  simp only[Obj.cells.injEq] at q
  exact J q.2.1)
 exact⟨A _ _ _ _ _ h.rq (by decide),A _ _ _ _ _ h.im (by decide),A _ _ _ _ _ h.ep (by decide),A _ _ _ _ _ h.st (by decide),A _ _ _ _ _ h.ex (by decide)⟩
def cE (ex:List Ex) (j:Nat):Nat→Nat:=fun k=>zam (ex.take j) (k:Int)
theorem OwnMd.drewI {w:World} {j:Nat} {S:Sv} {m:Md} (h:OwnMd w j S m):OwnMd w.drew j S m:=⟨h.rq,h.im,h.ep,h.st,h.ex⟩
def cS (m:Md) (j:Nat):Nat→Nat:=fun k=>zam m.ex (k:Int)+zaG (m.st.take j) (k:Int)
def zfG (m:Md) (e:Ending):Prop:=∃b,e= .returned (.bool b)∧(b=true↔Tree m)
theorem zc4 {m:Md} (h: ¬Tree m):zfG m (.returned (.bool false)):=⟨false,rfl,⟨(fun k=>by cases k),fun t=>absurd t h⟩⟩
theorem zjk {m:Md} (h:Tree m):zfG m (.returned (.bool true)):=⟨true,rfl,⟨fun _=>h,fun _=>rfl⟩⟩
theorem zfH {w:World} {j g n o:Nat} {xs:List Value} (h:w.ownsRow j 3 1 (.slice (some ⟨g,0,none⟩) n o) n xs): ∀b,w.heap[g]? =some b→∃q,b= .cells q 3 (0,0):=by
 have D:OwnR w j 3 1 ⟨some ⟨g,0,none⟩,o⟩ n xs:=h
 obtain⟨_,_,c,A⟩:=D.typed rfl
 intro b z
 rw[A] at z
 exact⟨c,(Option.some.inj z).symm⟩
theorem zoY (n:Nat) (S:Sv) (m:Md) (w:World) (h:OwnMd w n S m) (hl:m.ex.length≤4294967296) (hs:m.st.length≤4294967296):
  Calls Tryz.prog 61 #[zp S m] w fun e w'=>zfG m e∧Below w.heap.size w w':=by
 obtain⟨i0,hi,aI,aT,aR⟩:=info_parts Tryz.infoInt
 have HH:=zc h
 clear h
 unfold zp
 go_enter Tryz.func61,Tryz.ntmps61
 go_wp2_with (first|(at_make;refine wpList_make_full _ rfl _ _ 151 rfl (w.heap.size+1) 3 i0 (.int .i64 0) 1 Tryz.underlying151 hi aI aT .i64 .i64 _ _ m.ex.length (by rfl) (by rfl) rfl rfl (by rw[aR];omega) (by unfold maxLen;omega) (by rw[zk];omega) ?_))
 intro w1 Z M
 rw[zjj] at Z
 have bb:Below (w.heap.size+1) (w.alloc _) w1:=⟨M.os,M.tape,M.output,M.size,fun k hk=>M.block k (by rw[zk];exact hk) (by simp)⟩
 have aE:Hid (Below w.heap.size w w1):=((Below.refl _ _).alloc (Nat.le_refl _) _).trans (bb.mono (by omega))
 have aC:Hid (w1.heap[w.heap.size]? =some (.cells #[.slice S.rq.a m.rq.length S.rq.cap,.slice S.im.a m.im.length S.im.cap,.slice S.ep.a m.ep.length S.ep.cap,.slice S.st.a m.st.length S.st.cap,.slice S.ex.a m.ex.length S.ex.cap] 28 (0,0))):=(bb.block _ (by omega)).trans (heap_alloc_new w _)
 have aJ:=zc (HH.out.later aE.out)
 have aK:Hid (w1.ownsRow (w.heap.size+1) 3 1 (.slice (some ⟨w.heap.size+1,0,none⟩) m.ex.length m.ex.length) m.ex.length (zal m.ex.length (cE m.ex 0))):=by show World.ownsRow _ _ _ _ _ _ _;rw[show zal m.ex.length (cE m.ex 0)=zal m.ex.length (fun _=>0) from zdE fun k _=>by simp[cE,zam]];exact Z
 clear Z M bb
 obtain⟨c0,c1,c2,c3,c4,cf⟩:=zl aC.out
 go_wp2
 go_loopg [4] m.ex.length (fun k i wr=>∃j:Nat,i= .int .i64 j∧j+k=m.ex.length∧AheadTo m.ex j∧wr.ownsRow (w.heap.size+1) 3 1 (.slice (some ⟨w.heap.size+1,0,none⟩) m.ex.length m.ex.length) m.ex.length (zal m.ex.length (cE m.ex j))∧OwnMd wr n S m∧wr.heap[w.heap.size]? =some (.cells #[.slice S.rq.a m.rq.length S.rq.cap,.slice S.im.a m.im.length S.im.cap,.slice S.ep.a m.ep.length S.ep.cap,.slice S.st.a m.st.length S.st.cap,.slice S.ex.a m.ex.length S.ex.cap] 28 (0,0))∧Below w.heap.size w wr)
 case atStart=>exact⟨0,rfl,by omega,fun i x hi=>absurd hi (Nat.not_lt_zero i),aK.out,aJ.out,aC.out,aE.out⟩
 case round=>
  obtain⟨j,rfl,hj,ah,o,N,Q,H⟩:=hrel
  have AH:=zc ah
  have HN:=zc o
  have HO:=zc N
  have HX:=zc Q
  have O:=zc H
  clear ah o N Q H
  clear c0 c1 c2 c3 c4 cf
  obtain⟨c0,c1,c2,c3,c4,cf⟩:=zl HX.out
  have ai:=(Array.getElem?_eq_some_iff.1 HX.out).1
  by_cases z:j<m.ex.length
  ·have aw:(j:Int)<(m.ex.length:Int):=by omega
   obtain⟨g,hg,bi,x0,x1,x2,x3,x4,x5⟩:=HO.out.expr z
   rw[hg] at c4
   clear hg
   have aB:=zc (zdz z)
   obtain⟨x,al⟩: ∃x,m.ex.getD j zg=x:=⟨_,rfl⟩
   rw[al] at x0 x1 x2 x3 x4 x5
   have J:Hid (m.ex[j]=x):=aB.out.symm.trans al
   clear al aB
   obtain⟨I,E⟩: ∃I,I=j+1:=⟨_,rfl⟩
   have ej:(j:Int)+1=(I:Int):=by omega
   have L:=zc E
   clear E
   have U:Hid (Below wr.heap.size wr (wr.alloc (.cells #[.int .i64 x.kind,.int .i64 x.num,.string x.name,.string x.field,.int .i64 x.l,.int .i64 x.r] 108))):=(Below.refl _ _).alloc (Nat.le_refl _) _
   go_wp2_with fail
   refine (zjg x.kind _).mono ?_
   rintro e w2 ⟨rfl,hw⟩
   rw[hw]
   clear hw w2
   cases ht:zW x.kind with
   |false=>
    go_wp2
    go_roundg (gk-1)
    case rel=>exact⟨I,rfl,by have:=L.out;omega,by rw[L.out];exact AH.out.next z (fun k=>by rw[J.out,ht] at k;cases k),by rw[L.out,show zal m.ex.length (cE m.ex (j+1))=zal m.ex.length (cE m.ex j) from zdE fun k _=>(zje z (by rw[J.out];exact ht) k).symm];exact zfb HN.out U.out,HO.out.later U.out,(U.out.block _ ai).trans HX.out,O.out.trans (U.out.mono O.out.size)⟩
    case measure=>omega
   |true=>
    by_cases a1:x.l<0
    ·have X:decide (x.l<0)=true:=decide_eq_true a1
     go_wp2
     go_ret
     exact⟨zc4 (fun (t:Tree m)=>absurd t.ahead (AheadTo.not z (by rw[J.out];exact ht) (by rw[J.out];omega))),O.out.trans (U.out.mono O.out.size)⟩
    have X:decide (x.l<0)=false:=decide_eq_false a1
    by_cases a2:(j:Int)≤x.l
    ·have aa:decide ((j:Int)≤x.l)=true:=decide_eq_true a2
     go_wp2
     go_ret
     exact⟨zc4 (fun (t:Tree m)=>absurd t.ahead (AheadTo.not z (by rw[J.out];exact ht) (by rw[J.out];omega))),O.out.trans (U.out.mono O.out.size)⟩
    have aa:decide ((j:Int)≤x.l)=false:=decide_eq_false a2
    by_cases a3:x.r<0
    ·have ax:decide (x.r<0)=true:=decide_eq_true a3
     go_wp2
     go_ret
     exact⟨zc4 (fun (t:Tree m)=>absurd t.ahead (AheadTo.not z (by rw[J.out];exact ht) (by rw[J.out];omega))),O.out.trans (U.out.mono O.out.size)⟩
    have ax:decide (x.r<0)=false:=decide_eq_false a3
    by_cases a4:(j:Int)≤x.r
    ·have aD:decide ((j:Int)≤x.r)=true:=decide_eq_true a4
     go_wp2
     go_ret
     exact⟨zc4 (fun (t:Tree m)=>absurd t.ahead (AheadTo.not z (by rw[J.out];exact ht) (by rw[J.out];omega))),O.out.trans (U.out.mono O.out.size)⟩
    have aD:decide ((j:Int)≤x.r)=false:=decide_eq_false a4
    go_wp2_with fail
    obtain⟨q,Y⟩: ∃q:Nat,x.l=(q:Int):=⟨x.l.toNat,by omega⟩
    obtain⟨A,ab⟩: ∃A:Nat,x.r=(A:Int):=⟨x.r.toNat,by omega⟩
    have bg:q<m.ex.length:=by omega
    have bt:A<m.ex.length:=by omega
    have a6:(q:Int)<(m.ex.length:Int):=by omega
    have a5:(A:Int)<(m.ex.length:Int):=by omega
    have aH:Hid (AheadTo m.ex (j+1)):=AH.out.next z (fun _=>by rw[J.out];omega)
    have HU:Hid (∀k:Nat,zaF (zaF (cE m.ex j) q) A k=cE m.ex (j+1) k):=fun k=>by have:=zjd z (by rw[J.out];exact ht) (by rw[J.out];omega) (by rw[J.out];omega) k;rw[J.out,Y,ab] at this;exact this
    have aG:=zfB (m.ex.take j)
    have a0:(m.ex.take j).length≤4294967296:=by rw[List.length_take];omega
    have bz:=(zgZ HN.out).2
    refine zau (R:=fun W=>W.heap[wr.heap.size]? =some (.cells #[.int .i64 x.kind,.int .i64 x.num,.string x.name,.string x.field,.int .i64 (q:Int),.int .i64 (A:Int)] 108 (0,0))∧W.ownsRow (w.heap.size+1) 3 1 (.slice (some ⟨w.heap.size+1,0,none⟩) m.ex.length m.ex.length) m.ex.length (zal m.ex.length (cE m.ex j))∧OwnMd W n S m∧W.heap[w.heap.size]? =some (.cells #[.slice S.rq.a m.rq.length S.rq.cap,.slice S.im.a m.im.length S.im.cap,.slice S.ep.a m.ep.length S.ep.cap,.slice S.st.a m.st.length S.st.cap,.slice S.ex.a m.ex.length S.ex.cap] 28 (0,0))∧Below w.heap.size w W) ⟨by have:=heap_alloc_new wr (.cells #[.int .i64 x.kind,.int .i64 x.num,.string x.name,.string x.field,.int .i64 x.l,.int .i64 x.r] 108);rw[Y,ab] at this;rw[Y,ab];exact this,zfb HN.out U.out,HO.out.later U.out,(U.out.block _ ai).trans HX.out,O.out.trans (U.out.mono O.out.size)⟩ ?_
    have bp:=zc Y
    have bk:=zc ab
    clear Y ab X aa ax aD a1 a2 a3 a4
    rintro W ⟨xb,o,N,Q,H⟩
    have bj:=zc xb
    have bs:=zc o
    have bu:=zc N
    have bl:=zc Q
    have bq:=zc H
    obtain⟨s0,s1,s2,s3,s4,s5,sf⟩:=zv xb
    obtain⟨va,ae⟩: ∃v,(cE m.ex j) q=v:=⟨_,rfl⟩
    have ea:=zep o (k:=q) (by omega)
    have ef:=o.frozenAt
    rw[ae] at ea
    have aZ:va≤17179869184:=by rw[←ae];have:=aG (q:Int);unfold cE;omega
    obtain⟨ua,aA⟩: ∃u,u=va+1:=⟨_,rfl⟩
    have bn:(va:Int)+1=(ua:Int):=by omega
    have a8:IntKind.i64.wrap (ua:Int)=(ua:Int):=IntWalk.i64_in _ ⟨by omega,by omega⟩
    have aN:Hid ((W.setCell ⟨w.heap.size+1,q,none⟩ (.int .i64 (ua:Int))).ownsRow (w.heap.size+1) 3 1 (.slice (some ⟨w.heap.size+1,0,none⟩) m.ex.length m.ex.length) m.ex.length (zal m.ex.length (zaF (cE m.ex j) q))):=zfE o q ua (by rw[aA,ae])
    have aS:Hid (OwnMd (W.setCell ⟨w.heap.size+1,q,none⟩ (.int .i64 (ua:Int))) n S m):=zfF N (zfH o)
    have aL:Hid ((W.setCell ⟨w.heap.size+1,q,none⟩ (.int .i64 (ua:Int))).heap[w.heap.size]? =some (.cells #[.slice S.rq.a m.rq.length S.rq.cap,.slice S.im.a m.im.length S.im.cap,.slice S.ep.a m.ep.length S.ep.cap,.slice S.st.a m.st.length S.st.cap,.slice S.ex.a m.ex.length S.ex.cap] 28 (0,0))):=(zi (by omega)).trans Q
    have aV:Hid (Below w.heap.size w (W.setCell ⟨w.heap.size+1,q,none⟩ (.int .i64 (ua:Int)))):=H.setCell (Nat.le_succ _) _
    have aQ:Hid ((W.setCell ⟨w.heap.size+1,q,none⟩ (.int .i64 (ua:Int))).heap[wr.heap.size]? =some (.cells #[.int .i64 x.kind,.int .i64 x.num,.string x.name,.string x.field,.int .i64 (q:Int),.int .i64 (A:Int)] 108 (0,0))):=(zi (by omega)).trans xb
    clear xb o N Q H ae aA
    go_region
    clear s0 s1 s2 s3 s4 s5 sf ef ea
    go_wp2_with fail
    refine zau (R:=fun W=>W.heap[wr.heap.size]? =some (.cells #[.int .i64 x.kind,.int .i64 x.num,.string x.name,.string x.field,.int .i64 (q:Int),.int .i64 (A:Int)] 108 (0,0))∧W.ownsRow (w.heap.size+1) 3 1 (.slice (some ⟨w.heap.size+1,0,none⟩) m.ex.length m.ex.length) m.ex.length (zal m.ex.length (zaF (cE m.ex j) q))∧OwnMd W n S m∧W.heap[w.heap.size]? =some (.cells #[.slice S.rq.a m.rq.length S.rq.cap,.slice S.im.a m.im.length S.im.cap,.slice S.ep.a m.ep.length S.ep.cap,.slice S.st.a m.st.length S.st.cap,.slice S.ex.a m.ex.length S.ex.cap] 28 (0,0))∧Below w.heap.size w W) ⟨aQ.out,aN.out,aS.out.drewI,aL.out,aV.out.drew⟩ ?_
    rintro V ⟨xb,o,N,Q,H⟩
    have ba:=zc xb
    have br:=zc o
    have bv:=zc N
    have bf:=zc Q
    have a9:=zc H
    obtain⟨s0,s1,s2,s3,s4,s5,sf⟩:=zv xb
    obtain⟨vb,ad⟩: ∃v,(zaF (cE m.ex j) q) A=v:=⟨_,rfl⟩
    have eb:=zep o (k:=A) (by omega)
    have ef:=o.frozenAt
    rw[ad] at eb
    have aY:vb≤17179869184:=by rw[←ad];have:=aG (A:Int);unfold zaF cE;split<;>omega
    obtain⟨ub,an⟩: ∃u,u=vb+1:=⟨_,rfl⟩
    have bm:(vb:Int)+1=(ub:Int):=by omega
    have aX:IntKind.i64.wrap (ub:Int)=(ub:Int):=IntWalk.i64_in _ ⟨by omega,by omega⟩
    have aU:Hid ((V.setCell ⟨w.heap.size+1,A,none⟩ (.int .i64 (ub:Int))).ownsRow (w.heap.size+1) 3 1 (.slice (some ⟨w.heap.size+1,0,none⟩) m.ex.length m.ex.length) m.ex.length (zal m.ex.length (zaF (zaF (cE m.ex j) q) A))):=zfE o A ub (by rw[an,ad])
    have aW:Hid (OwnMd (V.setCell ⟨w.heap.size+1,A,none⟩ (.int .i64 (ub:Int))) n S m):=zfF N (zfH o)
    have aM:Hid ((V.setCell ⟨w.heap.size+1,A,none⟩ (.int .i64 (ub:Int))).heap[w.heap.size]? =some (.cells #[.slice S.rq.a m.rq.length S.rq.cap,.slice S.im.a m.im.length S.im.cap,.slice S.ep.a m.ep.length S.ep.cap,.slice S.st.a m.st.length S.st.cap,.slice S.ex.a m.ex.length S.ex.cap] 28 (0,0))):=(zi (by omega)).trans Q
    have aO:Hid (Below w.heap.size w (V.setCell ⟨w.heap.size+1,A,none⟩ (.int .i64 (ub:Int)))):=H.setCell (Nat.le_succ _) _
    have bc:Hid ((V.setCell ⟨w.heap.size+1,A,none⟩ (.int .i64 (ub:Int))).heap[wr.heap.size]? =some (.cells #[.int .i64 x.kind,.int .i64 x.num,.string x.name,.string x.field,.int .i64 (q:Int),.int .i64 (A:Int)] 108 (0,0))):=(zi (by omega)).trans xb
    clear xb o N Q H ad an
    go_region
    clear s0 s1 s2 s3 s4 s5 sf ef eb
    go_wp2
    go_roundg (gk-1)
    case rel=>exact⟨I,rfl,by have:=L.out;omega,by rw[L.out];exact aH.out,by rw[L.out,←zdE fun k _=>HU.out k];exact aU.out,aW.out.drewI,aM.out,aO.out.drew⟩
    case measure=>omega
  ·have aw: ¬(j:Int)<(m.ex.length:Int):=by omega
   obtain rfl:j=m.ex.length:=by omega
   have HA:=zc AH.out.all
   have HC:Hid (wr.ownsRow (w.heap.size+1) 3 1 (.slice (some ⟨w.heap.size+1,0,none⟩) m.ex.length m.ex.length) m.ex.length (zal m.ex.length (cS m 0))):=by show World.ownsRow _ _ _ _ _ _ _;rw[show zal m.ex.length (cS m 0)=zal m.ex.length (cE m.ex m.ex.length) from zdE fun k _=>by simp[cE,cS,zaG]];exact HN.out
   go_wp2
   go_loopg [6] m.st.length (fun k i wr=>∃j:Nat,i= .int .i64 j∧j+k=m.st.length∧(∀s∈m.st.take j,0≤s.expr∧s.expr<(m.ex.length:Int))∧wr.ownsRow (w.heap.size+1) 3 1 (.slice (some ⟨w.heap.size+1,0,none⟩) m.ex.length m.ex.length) m.ex.length (zal m.ex.length (cS m j))∧OwnMd wr n S m∧wr.heap[w.heap.size]? =some (.cells #[.slice S.rq.a m.rq.length S.rq.cap,.slice S.im.a m.im.length S.im.cap,.slice S.ep.a m.ep.length S.ep.cap,.slice S.st.a m.st.length S.st.cap,.slice S.ex.a m.ex.length S.ex.cap] 28 (0,0))∧Below w.heap.size w wr)
   case atStart=>exact⟨0,rfl,by omega,(fun s hs=>by simp at hs),HC.out,HO.out,HX.out,O.out⟩
   case round=>
    obtain⟨j,rfl,be,ah,o,N,Q,H⟩:=hrel
    have AS:=zc ah
    have ac:=zc o
    have ay:=zc N
    have au:=zc Q
    have af:=zc H
    clear ah o N Q H c0 c1 c2 c3 c4 cf
    obtain⟨c0,c1,c2,c3,c4,cf⟩:=zl au.out
    by_cases D:j<m.st.length
    ·have ar:(j:Int)<(m.st.length:Int):=by omega
     obtain⟨s,ap⟩: ∃s,m.st[j]? =some s:=⟨_,List.getElem?_eq_getElem D⟩
     obtain⟨g,hg,az⟩:=OwnR.elem (f:=smL) (m:=3) (fun _=>rfl) ay.out.st ap
     have k2:=az 2 (by omega)
     simp only[smL,List.getElem?_cons_zero,List.getElem?_cons_succ] at k2
     rw[hg] at c3
     obtain⟨_,ag⟩:=List.getElem?_eq_some_iff.1 ap
     have HS:Hid (m.st[j]=s):=ag
     clear hg az ap ag
     obtain⟨I,E⟩: ∃I,I=j+1:=⟨_,rfl⟩
     have ej:(j:Int)+1=(I:Int):=by omega
     have L:=zc E
     clear E
     by_cases a1:s.expr<0
     ·have X:decide (s.expr<0)=true:=decide_eq_true a1
      go_wp2
      go_ret
      exact⟨zc4 (fun (t:Tree m)=>by have:=t.stm _ (List.getElem_mem D);rw[HS.out] at this;omega),af.out⟩
     have X:decide (s.expr<0)=false:=decide_eq_false a1
     by_cases a2:(m.ex.length:Int)≤s.expr
     ·have aa:decide ((m.ex.length:Int)≤s.expr)=true:=decide_eq_true a2
      go_wp2
      go_ret
      exact⟨zc4 (fun (t:Tree m)=>by have:=t.stm _ (List.getElem_mem D);rw[HS.out] at this;omega),af.out⟩
     have aa:decide ((m.ex.length:Int)≤s.expr)=false:=decide_eq_false a2
     obtain⟨K,ak⟩: ∃K:Nat,s.expr=(K:Int):=⟨s.expr.toNat,by omega⟩
     have aP:K<m.ex.length:=by omega
     have a7:(K:Int)<(m.ex.length:Int):=by omega
     have am:Hid (∀s∈m.st.take (j+1),0≤s.expr∧s.expr<(m.ex.length:Int)):=by
      intro y hy
      rw[List.take_succ_eq_append_getElem D,List.mem_append] at hy
      rcases hy with hy|hy
      ·exact AS.out y hy
      ·simp only[List.mem_singleton] at hy
       rw[hy,HS.out]
       omega
     have HU:Hid (∀k:Nat,zaF (cS m j) K k=cS m (j+1) k):=fun k=>by have:=zjf (ex:=m.ex) D (by rw[HS.out];omega) k;rw[HS.out,ak] at this;exact this
     rw[ak] at k2 a1 a2 X aa
     obtain⟨v,hv⟩: ∃v,cS m j K=v:=⟨_,rfl⟩
     have ea:=zep ac.out aP
     have ef:=ac.out.frozenAt
     rw[hv] at ea
     have ad:v≤17179869184:=by rw[←hv];unfold cS;have:=zfB m.ex (K:Int);have:=zjc (m.st.take j) (K:Int);rw[List.length_take] at this;omega
     obtain⟨u,hu⟩: ∃u,u=v+1:=⟨_,rfl⟩
     have ev:(v:Int)+1=(u:Int):=by omega
     have an:u≤17179869185:=by omega
     have NN:Hid ((wr.setCell ⟨w.heap.size+1,K,none⟩ (.int .i64 (u:Int))).ownsRow (w.heap.size+1) 3 1 (.slice (some ⟨w.heap.size+1,0,none⟩) m.ex.length m.ex.length) m.ex.length (zal m.ex.length (zaF (cS m j) K))):=zfE ac.out K u (by rw[hu,hv])
     have NO:Hid (OwnMd (wr.setCell ⟨w.heap.size+1,K,none⟩ (.int .i64 (u:Int))) n S m):=zfF ay.out (zfH ac.out)
     have NX:Hid ((wr.setCell ⟨w.heap.size+1,K,none⟩ (.int .i64 (u:Int))).heap[w.heap.size]? =some (.cells #[.slice S.rq.a m.rq.length S.rq.cap,.slice S.im.a m.im.length S.im.cap,.slice S.ep.a m.ep.length S.ep.cap,.slice S.st.a m.st.length S.st.cap,.slice S.ex.a m.ex.length S.ex.cap] 28 (0,0))):=(zi (by omega)).trans au.out
     have NB:Hid (Below w.heap.size w (wr.setCell ⟨w.heap.size+1,K,none⟩ (.int .i64 (u:Int)))):=af.out.setCell (Nat.le_succ _) _
     clear ak hv hu
     go_wp2
     go_roundg (gk-1)
     case rel=>exact⟨I,rfl,by have:=L.out;omega,by rw[L.out];exact am.out,by rw[L.out,←zdE fun k _=>HU.out k];exact NN.out,NO.out,NX.out,NB.out⟩
     case measure=>omega
    ·have ar: ¬(j:Int)<(m.st.length:Int):=by omega
     obtain rfl:j=m.st.length:=by omega
     have am:Hid (∀s∈m.st,0≤s.expr∧s.expr<(m.ex.length:Int)):=by have:=AS.out;rw[List.take_length] at this;exact this
     go_wp2
     go_loopg [8] m.ex.length (fun k i wr=>∃j:Nat,i= .int .i64 j∧j+k=m.ex.length∧(∀k,k<j→cS m m.st.length k=1)∧wr.ownsRow (w.heap.size+1) 3 1 (.slice (some ⟨w.heap.size+1,0,none⟩) m.ex.length m.ex.length) m.ex.length (zal m.ex.length (cS m m.st.length))∧Below w.heap.size w wr)
     case atStart=>exact⟨0,rfl,by omega,fun k hk=>absurd hk (Nat.not_lt_zero k),ac.out,af.out⟩
     case round=>
      obtain⟨j,rfl,bo,ah,o,H⟩:=hrel
      have AC:=zc ah
      have aF:=zc o
      have ao:=zc H
      clear ah o H c0 c1 c2 c3 c4 cf
      by_cases aj:j<m.ex.length
      ·have aq:(j:Int)<(m.ex.length:Int):=by omega
       obtain⟨v,hv⟩: ∃v,cS m m.st.length j=v:=⟨_,rfl⟩
       have ea:=zep aF.out aj
       rw[hv] at ea
       have HV:=zc hv
       clear hv
       obtain⟨I,E⟩: ∃I,I=j+1:=⟨_,rfl⟩
       have ej:(j:Int)+1=(I:Int):=by omega
       have L:=zc E
       clear E
       by_cases av:v=1
       ·subst av
        go_wp2
        go_roundg (gk-1)
        case rel=>exact⟨I,rfl,by have:=L.out;omega,(fun k hk=>(Nat.lt_or_eq_of_le (show k≤j by have:=L.out;omega)).elim (AC.out k) (fun e=>by rw[e];exact HV.out)),aF.out,ao.out⟩
        case measure=>omega
       ·have dv:((v:Int) !=1)=true:=by rw[bne_iff_ne];omega
        go_wp2
        go_ret
        exact⟨zc4 (fun (t:Tree m)=>absurd (by have:=t.once j aj;have h2:=HV.out;unfold cS at h2;rw[List.take_length] at h2;omega) av),ao.out⟩
      ·have aq: ¬(j:Int)<(m.ex.length:Int):=by omega
       go_wp2
       go_ret
       exact⟨zjk ⟨HA.out,am.out,fun k hk=>by have:=AC.out k (by omega);unfold cS at this;rw[List.take_length] at this;exact this⟩,ao.out⟩
theorem zfc (k:Int) (w:World):Calls Tryz.prog 158 #[.int .i64 k] w fun e j=>e= .returned (.bool (k==6||k==7))∧j=w:=by
 cases n:(k==6) with
 |true=>
  go_enter Tryz.func158,Tryz.ntmps158
  go_wp2
  go_ret
  exact⟨rfl,rfl⟩
 |false=>
  cases o:(k==7) with
  |true=>
   go_enter Tryz.func158,Tryz.ntmps158
   go_wp2
   go_ret
   exact⟨rfl,rfl⟩
  |false=>
   go_enter Tryz.func158,Tryz.ntmps158
   go_wp2
   go_ret
   exact⟨rfl,rfl⟩
theorem zjl (k:Int) (w:World):Calls Tryz.prog 113 #[.int .i64 k] w fun e z=>e= .returned (.bool (zW k))∧z=w:=by
 cases j:(k==6||k==7) with
 |true=>
  have n:Hid (zW k=true):=by show _=_;rw[zW,j];rfl
  go_enter Tryz.func113,Tryz.ntmps113
  go_wp2_with fail
  refine (zfc k _).mono ?_
  rintro e o ⟨rfl,rfl⟩
  rw[j]
  go_wp2
  go_ret
  exact⟨zm n.out.symm,rfl⟩
 |false=>
  cases q:(k==8) with
  |true=>
   have n:Hid (zW k=true):=by show _=_;rw[zW,j,q];rfl
   go_enter Tryz.func113,Tryz.ntmps113
   go_wp2_with fail
   refine (zfc k _).mono ?_
   rintro e o ⟨rfl,rfl⟩
   rw[j]
   go_wp2
   go_ret
   exact⟨zm n.out.symm,rfl⟩
  |false=>
   have n:Hid (zW k=false):=by show _=_;rw[zW,j,q];rfl
   go_enter Tryz.func113,Tryz.ntmps113
   go_wp2_with fail
   refine (zfc k _).mono ?_
   rintro e o ⟨rfl,rfl⟩
   rw[j]
   go_wp2
   go_ret
   exact⟨zm n.out.symm,rfl⟩
theorem zoZ (k:Int) (w:World):Calls Tryz.prog 115 #[.int .i64 k] w fun e j=>e= .returned (.bool (k !=1))∧j=w:=by
 go_enter Tryz.func115,Tryz.ntmps115
 go_wp2
 go_ret
 exact⟨rfl,rfl⟩
theorem zjm {w:World} {b:Nat} {t:TypeId} {j:Value} (h:w.heap[b]? =some (.cells #[j] t (0,0))):w.cell? ⟨b,0,none⟩=some j∧∀i,w.frozen? ⟨b,i,none⟩=false:=by
 refine⟨?_,fun i=>?_⟩<;>simp[World.cell?,World.frozen?,h]
theorem zha (i n:Int) (u:Value) (w:World) (h: ¬(0≤i∧i<n)):
  Calls Tryz.prog 112 #[.int .i64 i,.int .i64 n,u] w fun e j=>e= .returned (.bool false)∧j=w:=by
 by_cases q:i<0
 ·go_enter Tryz.func112,Tryz.ntmps112
  go_wp2
  go_ret
  exact⟨rfl,rfl⟩
 ·have o:n≤i:=by omega
  clear h
  go_enter Tryz.func112,Tryz.ntmps112
  go_wp2
  go_ret
  exact⟨rfl,rfl⟩
theorem zpa (i j z g E:Nat) (n:Int) (f:Nat→Nat) (w:World) (D:w.heap[E]? =some (.cells #[.slice (some ⟨g,0,none⟩) j j] 151 (0,0))) (h:w.ownsRow z 3 1 (.slice (some ⟨g,0,none⟩) j j) j (zal j f)) (J:f i≤17179869184) (U:i<j) (Y:(i:Int)<n):
  Calls Tryz.prog 112 #[.int .i64 (i:Int),.int .i64 n,.pointer (some ⟨E,0,none⟩)] w fun e K=>e= .returned (.bool true)∧K=w.setCell ⟨g,i,none⟩ (.int .i64 (f i+1:Nat)):=by
 have X: ¬(i:Int)<0:=by omega
 have Q: ¬n≤(i:Int):=by omega
 have M:(i:Int)<(j:Int):=by omega
 obtain⟨Z,O⟩:=zjm D
 obtain⟨H,o⟩: ∃v,f i=v:=⟨_,rfl⟩
 have N:=zep h (k:=i) (by omega)
 have V:=h.frozenAt
 rw[o] at N J
 rw[o]
 obtain⟨A,q⟩: ∃u,u=H+1:=⟨_,rfl⟩
 have L:(H:Int)+1=(A:Int):=by omega
 have I:IntKind.i64.wrap (A:Int)=(A:Int):=IntWalk.i64_in _ ⟨by omega,by omega⟩
 rw[←q]
 clear D h o q
 go_enter Tryz.func112,Tryz.ntmps112
 go_wp2
 go_ret
 exact⟨rfl,rfl⟩
def odd (n:Nat) (f:Nat→Nat) (j:Nat):Bool:=(List.range n).any fun k=>decide (j≤k)&&((f k:Int) !=1)
theorem zpb {n:Nat} {f:Nat→Nat} {j:Nat} (z:j<n):odd n f j=(((f j:Int) !=1)||odd n f (j+1)):=by
 rw[Bool.eq_iff_iff,Bool.or_eq_true]
 simp only[odd,List.any_eq_true,List.mem_range,Bool.and_eq_true,decide_eq_true_eq]
 constructor
 ·rintro⟨k,q,o,h⟩
  by_cases e:k=j
  ·exact .inl (e▸h)
  ·exact .inr ⟨k,q,by omega,h⟩
 ·rintro (h|⟨k,q,o,h⟩)
  ·exact⟨j,z,Nat.le_refl _,h⟩
  ·exact⟨k,q,by omega,h⟩
theorem zpc {n:Nat} (f:Nat→Nat) {j:Nat} (q:n≤j):odd n f j=false:=by
 rw[Bool.eq_false_iff]
 intro h
 simp only[odd,List.any_eq_true,List.mem_range,Bool.and_eq_true,decide_eq_true_eq] at h
 obtain⟨k,z,o,_⟩:=h
 omega
theorem zpd (o g n:Nat) (f:Nat→Nat) (w:World) (h:w.ownsRow o 3 1 (.slice (some ⟨g,0,none⟩) n n) n (zal n f)) (Z:n≤4294967296):
  Calls Tryz.prog 159 #[.slice (some ⟨g,0,none⟩) n n,.func (.func 115) #[] #[]] w fun e X=>(∃v:Int,e= .returned (.int .i64 v)∧decide (0≤v)=odd n f 0)∧Below w.heap.size w X:=by
 have U:=zc h
 clear h
 go_enter Tryz.func159,Tryz.ntmps159
 go_wp2
 go_loopg [8] (n+1) (fun k i wr=>∃j:Nat,i= .int .i64 j∧j+k=n+1∧odd n f j=odd n f 0∧Below w.heap.size w wr)
 case atStart=>exact⟨0,rfl,by omega,rfl,Below.refl _ _⟩
 case round=>
  obtain⟨j,rfl,hj,N,M⟩:=hrel
  have I:=zc N
  have D:=zc M
  clear N M
  by_cases q:j<n
  ·have A:(j:Int)<(n:Int):=by omega
   have V:=zep (zfb U.out D.out) q
   have O:=zc (zpb (f:=f) q)
   obtain⟨v,H⟩: ∃v,f j=v:=⟨_,rfl⟩
   rw[H] at V
   have L:=zc H
   clear H
   obtain⟨E,z⟩: ∃E,E=j+1:=⟨_,rfl⟩
   have ej:(j:Int)+1=(E:Int):=by omega
   have K:=zc z
   clear z
   go_wp2_with fail
   refine (zoZ (v:Int) _).mono ?_
   rintro e Y ⟨rfl,J⟩
   rw[J]
   clear J Y
   cases Q:((v:Int) !=1) with
   |true=>
    go_wp2
    go_ret
    refine⟨⟨_,rfl,?_⟩,D.out⟩
    rw[←I.out,O.out,L.out,Q]
    simp
   |false=>
    go_wp2
    go_roundg (gk-1)
    case rel=>
     refine⟨E,rfl,by have:=K.out;omega,?_,D.out⟩
     rw[←I.out,O.out,L.out,Q,K.out]
     simp
    case measure=>omega
  ·have A: ¬(j:Int)<(n:Int):=by omega
   go_wp2
   go_ret
   refine⟨⟨_,rfl,?_⟩,D.out⟩
   rw[←I.out,zpc f (by omega)]
   rfl
theorem zpe (n g j:Nat) (f:Nat→Nat) (w:World) (h:w.ownsRow n 3 1 (.slice (some ⟨g,0,none⟩) j j) j (zal j f)) (H:j≤4294967296):
  Calls Tryz.prog 114 #[.slice (some ⟨g,0,none⟩) j j,.func (.func 115) #[] #[]] w fun e A=>e= .returned (.bool (odd j f 0))∧Below w.heap.size w A:=by
 have D:=zc h
 clear h
 go_enter Tryz.func114,Tryz.ntmps114
 go_wp2_with fail
 refine (zpd n g j f _ D.out H).mono ?_
 rintro e I ⟨⟨v,rfl,o⟩,q⟩
 have z:=zc o
 have E:=zc q
 clear o q
 go_wp2
 go_ret
 exact⟨zm z.out,E.out⟩
end Go.Proofs.YticdggnnpjachaaGreat
