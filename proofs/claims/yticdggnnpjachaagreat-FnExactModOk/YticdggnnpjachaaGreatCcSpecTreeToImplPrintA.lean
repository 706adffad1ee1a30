/-
  What l5Tree of the specification answers: the walk.
  What impl's isSum,hasSides and the closure that counts a use answer: the walks.
-/
import Derived.BigRegion
import Derived.Test.YticdggnnpjachaaGreatCcEqModToImplParseQ
namespace Go.Proofs.YticdggnnpjachaaGreat
set_option maxRecDepth 100000
set_option maxHeartbeats 6400000
open Go.RowKit Go.PlainAid Go.Sort
theorem Tryz.infoInt:(Tryz.prog.info? 3).map (fun i=>(i.zero,i.size,i.bytes))=some (some (.int .i64 0),1,8):=by kernel_rfl
theorem zhS (n:Nat):(madeCells #[.int .i64 0] n).toList=zai n (fun _=>0):=by
 rw[toList_madeCells_one]
 unfold zai
 rw[List.map_const',List.length_range]
 rfl
theorem zdQ {w:World} {j g n o:Nat} {f:Nat→Nat} (h:w.ownsRow j 3 1 (.slice (some ⟨g,0,none⟩) n o) n (zai n f)) {k:Nat} (q:k<n):w.cell? ⟨g,k,none⟩=some (.int .i64 (f k:Int)):=by
 rw[h.cellAt k (by omega)]
 exact zfi f q
theorem zfk {w:World} {o g n q:Nat} {f:Nat→Nat} (h:w.ownsRow o 3 1 (.slice (some ⟨g,0,none⟩) n q) n (zai n f)) (k v:Nat) (A:v=f k+1):(w.setCell ⟨g,k,none⟩ (.int .i64 (v:Int))).ownsRow o 3 1 (.slice (some ⟨g,0,none⟩) n q) n (zai n (za9 f k)):=by
 have:=(h.stored k (.int .i64 (v:Int))).1
 rw[zlI f (za9 f k) v (by rw[zlJ,A]) (fun j z=>zlK f z)] at this
 exact this
theorem zez {w q:World} {j g n o:Nat} {xs:List Value} (h:w.ownsRow j 3 1 (.slice (some ⟨g,0,none⟩) n o) n xs) (A:Below w.heap.size w q):q.ownsRow j 3 1 (.slice (some ⟨g,0,none⟩) n o) n xs:=by
 have z:OwnR w j 3 1 ⟨some ⟨g,0,none⟩,o⟩ n xs:=h
 exact z.keep fun k e=>A.block k (z.typed e).2.1
theorem zgc {w:World} {j g n o:Nat} {xs:List Value} (h:w.ownsRow j 3 1 (.slice (some ⟨g,0,none⟩) n o) n xs):j≤g∧g<w.heap.size:=by
 have q:OwnR w j 3 1 ⟨some ⟨g,0,none⟩,o⟩ n xs:=h
 exact⟨(q.typed rfl).1,(q.typed rfl).2.1⟩
theorem zfl {w:World} {j g k:Nat} {S:Sv} {m:Md} {u:Value} (h:OwnMd w j S m) (E: ∀b,w.heap[g]? =some b→∃A,b= .cells A 3 (0,0)):OwnMd (w.setCell ⟨g,k,none⟩ u) j S m:=by
 have z: ∀(e:TypeId) (o n:Nat) (r:Rw) (D:List Value),OwnR w j e o r n D→e≠3→OwnR (w.setCell ⟨g,k,none⟩ u) j e o r n D:=fun e o n r D h K=>h.keep fun b J=>Below.heap_setCell w ⟨g,k,none⟩ u b (fun I=>by
  obtain⟨_,_,c,H⟩:=h.typed J
  obtain⟨A,q⟩:=E _ (by rw[←show b=g from I];exact H)
  simp only[Obj.cells.injEq] at q
  exact K q.2.1)
 exact⟨z _ _ _ _ _ h.rq (by decide),z _ _ _ _ _ h.im (by decide),z _ _ _ _ _ h.ep (by decide),z _ _ _ _ _ h.st (by decide),z _ _ _ _ _ h.ex (by decide)⟩
def cE (ex:List Ex) (j:Nat):Nat→Nat:=fun k=>zaj (ex.take j) (k:Int)
theorem OwnMd.drewI {w:World} {j:Nat} {S:Sv} {m:Md} (h:OwnMd w j S m):OwnMd w.drew j S m:=⟨h.rq,h.im,h.ep,h.st,h.ex⟩
def cS (m:Md) (j:Nat):Nat→Nat:=fun k=>zaj m.ex (k:Int)+zaB (m.st.take j) (k:Int)
def zfm (m:Md) (e:Ending):Prop:=∃b,e= .returned (.bool b)∧(b=true↔Tree m)
theorem zcq {m:Md} (h: ¬Tree m):zfm m (.returned (.bool false)):=⟨false,rfl,⟨(fun k=>by cases k),fun t=>absurd t h⟩⟩
theorem zhT {m:Md} (h:Tree m):zfm m (.returned (.bool true)):=⟨true,rfl,⟨fun _=>h,fun _=>rfl⟩⟩
theorem zfn {w:World} {j g n o:Nat} {xs:List Value} (h:w.ownsRow j 3 1 (.slice (some ⟨g,0,none⟩) n o) n xs): ∀b,w.heap[g]? =some b→∃q,b= .cells q 3 (0,0):=by
 have D:OwnR w j 3 1 ⟨some ⟨g,0,none⟩,o⟩ n xs:=h
 obtain⟨_,_,c,A⟩:=D.typed rfl
 intro b z
 rw[A] at z
 exact⟨c,(Option.some.inj z).symm⟩
theorem zme (n:Nat) (S:Sv) (m:Md) (w:World) (h:OwnMd w n S m) (hl:m.ex.length≤4294967296) (hs:m.st.length≤4294967296):
  Calls Tryz.prog 61 #[zt S m] w fun e w'=>zfm m e∧Below w.heap.size w w':=by
 obtain⟨i0,hi,aM,aO,aJ⟩:=info_parts Tryz.infoInt
 have HH:=zc h
 clear h
 unfold zt
 go_enter Tryz.func61,Tryz.ntmps61
 go_wp2_with (first|(at_make;refine wpList_make_full _ rfl _ _ 151 rfl (w.heap.size+1) 3 i0 (.int .i64 0) 1 Tryz.underlying151 hi aM aO .i64 .i64 _ _ m.ex.length (by rfl) (by rfl) rfl rfl (by rw[aJ];omega) (by unfold maxLen;omega) (by rw[zj];omega) ?_))
 intro w1 ad N
 rw[zhS] at ad
 have bb:Below (w.heap.size+1) (w.alloc _) w1:=⟨N.os,N.tape,N.output,N.size,fun k hk=>N.block k (by rw[zj];exact hk) (by simp)⟩
 have aE:Hid (Below w.heap.size w w1):=((Below.refl _ _).alloc (Nat.le_refl _) _).trans (bb.mono (by omega))
 have aA:Hid (w1.heap[w.heap.size]? =some (.cells #[.slice S.rq.a m.rq.length S.rq.cap,.slice S.im.a m.im.length S.im.cap,.slice S.ep.a m.ep.length S.ep.cap,.slice S.st.a m.st.length S.st.cap,.slice S.ex.a m.ex.length S.ex.cap] 28 (0,0))):=(bb.block _ (by omega)).trans (heap_alloc_new w _)
 have aN:=zc (HH.out.later aE.out)
 have aT:Hid (w1.ownsRow (w.heap.size+1) 3 1 (.slice (some ⟨w.heap.size+1,0,none⟩) m.ex.length m.ex.length) m.ex.length (zai m.ex.length (cE m.ex 0))):=by show World.ownsRow _ _ _ _ _ _ _;rw[show zai m.ex.length (cE m.ex 0)=zai m.ex.length (fun _=>0) from zdq fun k _=>by simp[cE,zaj]];exact ad
 clear ad N bb
 obtain⟨c0,c1,c2,c3,c4,cf⟩:=zk aA.out
 go_wp2
 go_loopg [4] m.ex.length (fun k i wr=>∃j:Nat,i= .int .i64 j∧j+k=m.ex.length∧AheadTo m.ex j∧wr.ownsRow (w.heap.size+1) 3 1 (.slice (some ⟨w.heap.size+1,0,none⟩) m.ex.length m.ex.length) m.ex.length (zai m.ex.length (cE m.ex j))∧OwnMd wr n S m∧wr.heap[w.heap.size]? =some (.cells #[.slice S.rq.a m.rq.length S.rq.cap,.slice S.im.a m.im.length S.im.cap,.slice S.ep.a m.ep.length S.ep.cap,.slice S.st.a m.st.length S.st.cap,.slice S.ex.a m.ex.length S.ex.cap] 28 (0,0))∧Below w.heap.size w wr)
 case atStart=>exact⟨0,rfl,by omega,fun i x hi=>absurd hi (Nat.not_lt_zero i),aT.out,aN.out,aA.out,aE.out⟩
 case round=>
  obtain⟨j,rfl,hj,ah,o,M,O,H⟩:=hrel
  have AH:=zc ah
  have HN:=zc o
  have HO:=zc M
  have HX:=zc O
  have L:=zc H
  clear ah o M O H
  clear c0 c1 c2 c3 c4 cf
  obtain⟨c0,c1,c2,c3,c4,cf⟩:=zk HX.out
  have ak:=(Array.getElem?_eq_some_iff.1 HX.out).1
  by_cases z:j<m.ex.length
  ·have aD:(j:Int)<(m.ex.length:Int):=by omega
   obtain⟨g,hg,bf,x0,x1,x2,x3,x4,x5⟩:=HO.out.expr z
   rw[hg] at c4
   clear hg
   have ax:=zc (zdf z)
   obtain⟨x,aq⟩: ∃x,m.ex.getD j zf=x:=⟨_,rfl⟩
   rw[aq] at x0 x1 x2 x3 x4 x5
   have J:Hid (m.ex[j]=x):=ax.out.symm.trans aq
   clear aq ax
   obtain⟨I,D⟩: ∃I,I=j+1:=⟨_,rfl⟩
   have ej:(j:Int)+1=(I:Int):=by omega
   have U:=zc D
   clear D
   have X:Hid (Below wr.heap.size wr (wr.alloc (.cells #[.int .i64 x.kind,.int .i64 x.num,.string x.name,.string x.field,.int .i64 x.l,.int .i64 x.r] 108))):=(Below.refl _ _).alloc (Nat.le_refl _) _
   go_wp2_with fail
   refine (zhP x.kind _).mono ?_
   rintro e w2 ⟨rfl,hw⟩
   rw[hw]
   clear hw w2
   cases ht:zT x.kind with
   |false=>
    go_wp2
    go_roundg (gk-1)
    case rel=>exact⟨I,rfl,by have:=U.out;omega,by rw[U.out];exact AH.out.next z (fun k=>by rw[J.out,ht] at k;cases k),by rw[U.out,show zai m.ex.length (cE m.ex (j+1))=zai m.ex.length (cE m.ex j) from zdq fun k _=>(zhM z (by rw[J.out];exact ht) k).symm];exact zez HN.out X.out,HO.out.later X.out,(X.out.block _ ak).trans HX.out,L.out.trans (X.out.mono L.out.size)⟩
    case measure=>omega
   |true=>
    by_cases a1:x.l<0
    ·have ac:decide (x.l<0)=true:=decide_eq_true a1
     go_wp2
     go_ret
     exact⟨zcq (fun (t:Tree m)=>absurd t.ahead (AheadTo.not z (by rw[J.out];exact ht) (by rw[J.out];omega))),L.out.trans (X.out.mono L.out.size)⟩
    have ac:decide (x.l<0)=false:=decide_eq_false a1
    by_cases a2:(j:Int)≤x.l
    ·have Y:decide ((j:Int)≤x.l)=true:=decide_eq_true a2
     go_wp2
     go_ret
     exact⟨zcq (fun (t:Tree m)=>absurd t.ahead (AheadTo.not z (by rw[J.out];exact ht) (by rw[J.out];omega))),L.out.trans (X.out.mono L.out.size)⟩
    have Y:decide ((j:Int)≤x.l)=false:=decide_eq_false a2
    by_cases a3:x.r<0
    ·have aG:decide (x.r<0)=true:=decide_eq_true a3
     go_wp2
     go_ret
     exact⟨zcq (fun (t:Tree m)=>absurd t.ahead (AheadTo.not z (by rw[J.out];exact ht) (by rw[J.out];omega))),L.out.trans (X.out.mono L.out.size)⟩
    have aG:decide (x.r<0)=false:=decide_eq_false a3
    by_cases a4:(j:Int)≤x.r
    ·have ay:decide ((j:Int)≤x.r)=true:=decide_eq_true a4
     go_wp2
     go_ret
     exact⟨zcq (fun (t:Tree m)=>absurd t.ahead (AheadTo.not z (by rw[J.out];exact ht) (by rw[J.out];omega))),L.out.trans (X.out.mono L.out.size)⟩
    have ay:decide ((j:Int)≤x.r)=false:=decide_eq_false a4
    go_wp2_with fail
    obtain⟨q,Z⟩: ∃q:Nat,x.l=(q:Int):=⟨x.l.toNat,by omega⟩
    obtain⟨A,ae⟩: ∃A:Nat,x.r=(A:Int):=⟨x.r.toNat,by omega⟩
    have bh:q<m.ex.length:=by omega
    have bm:A<m.ex.length:=by omega
    have a8:(q:Int)<(m.ex.length:Int):=by omega
    have a5:(A:Int)<(m.ex.length:Int):=by omega
    have aK:Hid (AheadTo m.ex (j+1)):=AH.out.next z (fun _=>by rw[J.out];omega)
    have HU:Hid (∀k:Nat,za9 (za9 (cE m.ex j) q) A k=cE m.ex (j+1) k):=fun k=>by have:=zhL z (by rw[J.out];exact ht) (by rw[J.out];omega) (by rw[J.out];omega) k;rw[J.out,Z,ae] at this;exact this
    have aw:=zfh (m.ex.take j)
    have aZ:(m.ex.take j).length≤4294967296:=by rw[List.length_take];omega
    have bq:=(zgc HN.out).2
    refine zah (R:=fun W=>W.heap[wr.heap.size]? =some (.cells #[.int .i64 x.kind,.int .i64 x.num,.string x.name,.string x.field,.int .i64 (q:Int),.int .i64 (A:Int)] 108 (0,0))∧W.ownsRow (w.heap.size+1) 3 1 (.slice (some ⟨w.heap.size+1,0,none⟩) m.ex.length m.ex.length) m.ex.length (zai m.ex.length (cE m.ex j))∧OwnMd W n S m∧W.heap[w.heap.size]? =some (.cells #[.slice S.rq.a m.rq.length S.rq.cap,.slice S.im.a m.im.length S.im.cap,.slice S.ep.a m.ep.length S.ep.cap,.slice S.st.a m.st.length S.st.cap,.slice S.ex.a m.ex.length S.ex.cap] 28 (0,0))∧Below w.heap.size w W) ⟨by have:=heap_alloc_new wr (.cells #[.int .i64 x.kind,.int .i64 x.num,.string x.name,.string x.field,.int .i64 x.l,.int .i64 x.r] 108);rw[Z,ae] at this;rw[Z,ae];exact this,zez HN.out X.out,HO.out.later X.out,(X.out.block _ ak).trans HX.out,L.out.trans (X.out.mono L.out.size)⟩ ?_
    have br:=zc Z
    have bg:=zc ae
    clear Z ae ac Y aG ay a1 a2 a3 a4
    rintro W ⟨xb,o,M,O,H⟩
    have bj:=zc xb
    have bo:=zc o
    have bs:=zc M
    have bk:=zc O
    have bt:=zc H
    obtain⟨s0,s1,s2,s3,s4,s5,sf⟩:=zu xb
    obtain⟨va,af⟩: ∃v,(cE m.ex j) q=v:=⟨_,rfl⟩
    have ea:=zdQ o (k:=q) (by omega)
    have ef:=o.frozenAt
    rw[af] at ea
    have a9:va≤17179869184:=by rw[←af];have:=aw (q:Int);unfold cE;omega
    obtain⟨ua,aB⟩: ∃u,u=va+1:=⟨_,rfl⟩
    have bp:(va:Int)+1=(ua:Int):=by omega
    have a7:IntKind.i64.wrap (ua:Int)=(ua:Int):=IntWalk.i64_in _ ⟨by omega,by omega⟩
    have aS:Hid ((W.setCell ⟨w.heap.size+1,q,none⟩ (.int .i64 (ua:Int))).ownsRow (w.heap.size+1) 3 1 (.slice (some ⟨w.heap.size+1,0,none⟩) m.ex.length m.ex.length) m.ex.length (zai m.ex.length (za9 (cE m.ex j) q))):=zfk o q ua (by rw[aB,af])
    have aW:Hid (OwnMd (W.setCell ⟨w.heap.size+1,q,none⟩ (.int .i64 (ua:Int))) n S m):=zfl M (zfn o)
    have aU:Hid ((W.setCell ⟨w.heap.size+1,q,none⟩ (.int .i64 (ua:Int))).heap[w.heap.size]? =some (.cells #[.slice S.rq.a m.rq.length S.rq.cap,.slice S.im.a m.im.length S.im.cap,.slice S.ep.a m.ep.length S.ep.cap,.slice S.st.a m.st.length S.st.cap,.slice S.ex.a m.ex.length S.ex.cap] 28 (0,0))):=(zp (by omega)).trans O
    have aP:Hid (Below w.heap.size w (W.setCell ⟨w.heap.size+1,q,none⟩ (.int .i64 (ua:Int)))):=H.setCell (Nat.le_succ _) _
    have aV:Hid ((W.setCell ⟨w.heap.size+1,q,none⟩ (.int .i64 (ua:Int))).heap[wr.heap.size]? =some (.cells #[.int .i64 x.kind,.int .i64 x.num,.string x.name,.string x.field,.int .i64 (q:Int),.int .i64 (A:Int)] 108 (0,0))):=(zp (by omega)).trans xb
    clear xb o M O H af aB
    go_region
    clear s0 s1 s2 s3 s4 s5 sf ef ea
    go_wp2_with fail
    refine zah (R:=fun W=>W.heap[wr.heap.size]? =some (.cells #[.int .i64 x.kind,.int .i64 x.num,.string x.name,.string x.field,.int .i64 (q:Int),.int .i64 (A:Int)] 108 (0,0))∧W.ownsRow (w.heap.size+1) 3 1 (.slice (some ⟨w.heap.size+1,0,none⟩) m.ex.length m.ex.length) m.ex.length (zai m.ex.length (za9 (cE m.ex j) q))∧OwnMd W n S m∧W.heap[w.heap.size]? =some (.cells #[.slice S.rq.a m.rq.length S.rq.cap,.slice S.im.a m.im.length S.im.cap,.slice S.ep.a m.ep.length S.ep.cap,.slice S.st.a m.st.length S.st.cap,.slice S.ex.a m.ex.length S.ex.cap] 28 (0,0))∧Below w.heap.size w W) ⟨aV.out,aS.out,aW.out.drewI,aU.out,aP.out.drew⟩ ?_
    rintro V ⟨xb,o,M,O,H⟩
    have bv:=zc xb
    have bn:=zc o
    have ba:=zc M
    have bl:=zc O
    have be:=zc H
    obtain⟨s0,s1,s2,s3,s4,s5,sf⟩:=zu xb
    obtain⟨vb,aa⟩: ∃v,(za9 (cE m.ex j) q) A=v:=⟨_,rfl⟩
    have eb:=zdQ o (k:=A) (by omega)
    have ef:=o.frozenAt
    rw[aa] at eb
    have a0:vb≤17179869184:=by rw[←aa];have:=aw (A:Int);unfold za9 cE;split<;>omega
    obtain⟨ub,am⟩: ∃u,u=vb+1:=⟨_,rfl⟩
    have bc:(vb:Int)+1=(ub:Int):=by omega
    have aY:IntKind.i64.wrap (ub:Int)=(ub:Int):=IntWalk.i64_in _ ⟨by omega,by omega⟩
    have aL:Hid ((V.setCell ⟨w.heap.size+1,A,none⟩ (.int .i64 (ub:Int))).ownsRow (w.heap.size+1) 3 1 (.slice (some ⟨w.heap.size+1,0,none⟩) m.ex.length m.ex.length) m.ex.length (zai m.ex.length (za9 (za9 (cE m.ex j) q) A))):=zfk o A ub (by rw[am,aa])
    have aI:Hid (OwnMd (V.setCell ⟨w.heap.size+1,A,none⟩ (.int .i64 (ub:Int))) n S m):=zfl M (zfn o)
    have aQ:Hid ((V.setCell ⟨w.heap.size+1,A,none⟩ (.int .i64 (ub:Int))).heap[w.heap.size]? =some (.cells #[.slice S.rq.a m.rq.length S.rq.cap,.slice S.im.a m.im.length S.im.cap,.slice S.ep.a m.ep.length S.ep.cap,.slice S.st.a m.st.length S.st.cap,.slice S.ex.a m.ex.length S.ex.cap] 28 (0,0))):=(zp (by omega)).trans O
    have aX:Hid (Below w.heap.size w (V.setCell ⟨w.heap.size+1,A,none⟩ (.int .i64 (ub:Int)))):=H.setCell (Nat.le_succ _) _
    have bi:Hid ((V.setCell ⟨w.heap.size+1,A,none⟩ (.int .i64 (ub:Int))).heap[wr.heap.size]? =some (.cells #[.int .i64 x.kind,.int .i64 x.num,.string x.name,.string x.field,.int .i64 (q:Int),.int .i64 (A:Int)] 108 (0,0))):=(zp (by omega)).trans xb
    clear xb o M O H aa am
    go_region
    clear s0 s1 s2 s3 s4 s5 sf ef eb
    go_wp2
    go_roundg (gk-1)
    case rel=>exact⟨I,rfl,by have:=U.out;omega,by rw[U.out];exact aK.out,by rw[U.out,←zdq fun k _=>HU.out k];exact aL.out,aI.out.drewI,aQ.out,aX.out.drew⟩
    case measure=>omega
  ·have aD: ¬(j:Int)<(m.ex.length:Int):=by omega
   obtain rfl:j=m.ex.length:=by omega
   have HA:=zc AH.out.all
   have HC:Hid (wr.ownsRow (w.heap.size+1) 3 1 (.slice (some ⟨w.heap.size+1,0,none⟩) m.ex.length m.ex.length) m.ex.length (zai m.ex.length (cS m 0))):=by show World.ownsRow _ _ _ _ _ _ _;rw[show zai m.ex.length (cS m 0)=zai m.ex.length (cE m.ex m.ex.length) from zdq fun k _=>by simp[cE,cS,zaB]];exact HN.out
   go_wp2
   go_loopg [6] m.st.length (fun k i wr=>∃j:Nat,i= .int .i64 j∧j+k=m.st.length∧(∀s∈m.st.take j,0≤s.expr∧s.expr<(m.ex.length:Int))∧wr.ownsRow (w.heap.size+1) 3 1 (.slice (some ⟨w.heap.size+1,0,none⟩) m.ex.length m.ex.length) m.ex.length (zai m.ex.length (cS m j))∧OwnMd wr n S m∧wr.heap[w.heap.size]? =some (.cells #[.slice S.rq.a m.rq.length S.rq.cap,.slice S.im.a m.im.length S.im.cap,.slice S.ep.a m.ep.length S.ep.cap,.slice S.st.a m.st.length S.st.cap,.slice S.ex.a m.ex.length S.ex.cap] 28 (0,0))∧Below w.heap.size w wr)
   case atStart=>exact⟨0,rfl,by omega,(fun s hs=>by simp at hs),HC.out,HO.out,HX.out,L.out⟩
   case round=>
    obtain⟨j,rfl,bw,ah,o,M,O,H⟩:=hrel
    have AS:=zc ah
    have ab:=zc o
    have az:=zc M
    have aH:=zc O
    have ag:=zc H
    clear ah o M O H c0 c1 c2 c3 c4 cf
    obtain⟨c0,c1,c2,c3,c4,cf⟩:=zk aH.out
    by_cases E:j<m.st.length
    ·have ap:(j:Int)<(m.st.length:Int):=by omega
     obtain⟨s,ao⟩: ∃s,m.st[j]? =some s:=⟨_,List.getElem?_eq_getElem E⟩
     obtain⟨g,hg,av⟩:=OwnR.elem (f:=smL) (m:=3) (fun _=>rfl) az.out.st ao
     have k2:=av 2 (by omega)
     simp only[smL,List.getElem?_cons_zero,List.getElem?_cons_succ] at k2
     rw[hg] at c3
     obtain⟨_,ai⟩:=List.getElem?_eq_some_iff.1 ao
     have HS:Hid (m.st[j]=s):=ai
     clear hg av ao ai
     obtain⟨I,D⟩: ∃I,I=j+1:=⟨_,rfl⟩
     have ej:(j:Int)+1=(I:Int):=by omega
     have U:=zc D
     clear D
     by_cases a1:s.expr<0
     ·have ac:decide (s.expr<0)=true:=decide_eq_true a1
      go_wp2
      go_ret
      exact⟨zcq (fun (t:Tree m)=>by have:=t.stm _ (List.getElem_mem E);rw[HS.out] at this;omega),ag.out⟩
     have ac:decide (s.expr<0)=false:=decide_eq_false a1
     by_cases a2:(m.ex.length:Int)≤s.expr
     ·have Y:decide ((m.ex.length:Int)≤s.expr)=true:=decide_eq_true a2
      go_wp2
      go_ret
      exact⟨zcq (fun (t:Tree m)=>by have:=t.stm _ (List.getElem_mem E);rw[HS.out] at this;omega),ag.out⟩
     have Y:decide ((m.ex.length:Int)≤s.expr)=false:=decide_eq_false a2
     obtain⟨K,an⟩: ∃K:Nat,s.expr=(K:Int):=⟨s.expr.toNat,by omega⟩
     have aR:K<m.ex.length:=by omega
     have a6:(K:Int)<(m.ex.length:Int):=by omega
     have au:Hid (∀s∈m.st.take (j+1),0≤s.expr∧s.expr<(m.ex.length:Int)):=by
      intro y hy
      rw[List.take_succ_eq_append_getElem E,List.mem_append] at hy
      rcases hy with hy|hy
      ·exact AS.out y hy
      ·simp only[List.mem_singleton] at hy
       rw[hy,HS.out]
       omega
     have HU:Hid (∀k:Nat,za9 (cS m j) K k=cS m (j+1) k):=fun k=>by have:=zhN (ex:=m.ex) E (by rw[HS.out];omega) k;rw[HS.out,an] at this;exact this
     rw[an] at k2 a1 a2 ac Y
     obtain⟨v,hv⟩: ∃v,cS m j K=v:=⟨_,rfl⟩
     have ea:=zdQ ab.out aR
     have ef:=ab.out.frozenAt
     rw[hv] at ea
     have aa:v≤17179869184:=by rw[←hv];unfold cS;have:=zfh m.ex (K:Int);have:=zhK (m.st.take j) (K:Int);rw[List.length_take] at this;omega
     obtain⟨u,hu⟩: ∃u,u=v+1:=⟨_,rfl⟩
     have ev:(v:Int)+1=(u:Int):=by omega
     have am:u≤17179869185:=by omega
     have NN:Hid ((wr.setCell ⟨w.heap.size+1,K,none⟩ (.int .i64 (u:Int))).ownsRow (w.heap.size+1) 3 1 (.slice (some ⟨w.heap.size+1,0,none⟩) m.ex.length m.ex.length) m.ex.length (zai m.ex.length (za9 (cS m j) K))):=zfk ab.out K u (by rw[hu,hv])
     have NO:Hid (OwnMd (wr.setCell ⟨w.heap.size+1,K,none⟩ (.int .i64 (u:Int))) n S m):=zfl az.out (zfn ab.out)
     have NX:Hid ((wr.setCell ⟨w.heap.size+1,K,none⟩ (.int .i64 (u:Int))).heap[w.heap.size]? =some (.cells #[.slice S.rq.a m.rq.length S.rq.cap,.slice S.im.a m.im.length S.im.cap,.slice S.ep.a m.ep.length S.ep.cap,.slice S.st.a m.st.length S.st.cap,.slice S.ex.a m.ex.length S.ex.cap] 28 (0,0))):=(zp (by omega)).trans aH.out
     have NB:Hid (Below w.heap.size w (wr.setCell ⟨w.heap.size+1,K,none⟩ (.int .i64 (u:Int)))):=ag.out.setCell (Nat.le_succ _) _
     clear an hv hu
     go_wp2
     go_roundg (gk-1)
     case rel=>exact⟨I,rfl,by have:=U.out;omega,by rw[U.out];exact au.out,by rw[U.out,←zdq fun k _=>HU.out k];exact NN.out,NO.out,NX.out,NB.out⟩
     case measure=>omega
    ·have ap: ¬(j:Int)<(m.st.length:Int):=by omega
     obtain rfl:j=m.st.length:=by omega
     have au:Hid (∀s∈m.st,0≤s.expr∧s.expr<(m.ex.length:Int)):=by have:=AS.out;rw[List.take_length] at this;exact this
     go_wp2
     go_loopg [8] m.ex.length (fun k i wr=>∃j:Nat,i= .int .i64 j∧j+k=m.ex.length∧(∀k,k<j→cS m m.st.length k=1)∧wr.ownsRow (w.heap.size+1) 3 1 (.slice (some ⟨w.heap.size+1,0,none⟩) m.ex.length m.ex.length) m.ex.length (zai m.ex.length (cS m m.st.length))∧Below w.heap.size w wr)
     case atStart=>exact⟨0,rfl,by omega,fun k hk=>absurd hk (Nat.not_lt_zero k),ab.out,ag.out⟩
     case round=>
      obtain⟨j,rfl,bu,ah,o,H⟩:=hrel
      have AC:=zc ah
      have aF:=zc o
      have al:=zc H
      clear ah o H c0 c1 c2 c3 c4 cf
      by_cases aj:j<m.ex.length
      ·have ar:(j:Int)<(m.ex.length:Int):=by omega
       obtain⟨v,hv⟩: ∃v,cS m m.st.length j=v:=⟨_,rfl⟩
       have ea:=zdQ aF.out aj
       rw[hv] at ea
       have HV:=zc hv
       clear hv
       obtain⟨I,D⟩: ∃I,I=j+1:=⟨_,rfl⟩
       have ej:(j:Int)+1=(I:Int):=by omega
       have U:=zc D
       clear D
       by_cases aC:v=1
       ·subst aC
        go_wp2
        go_roundg (gk-1)
        case rel=>exact⟨I,rfl,by have:=U.out;omega,(fun k hk=>(Nat.lt_or_eq_of_le (show k≤j by have:=U.out;omega)).elim (AC.out k) (fun e=>by rw[e];exact HV.out)),aF.out,al.out⟩
        case measure=>omega
       ·have dv:((v:Int) !=1)=true:=by rw[bne_iff_ne];omega
        go_wp2
        go_ret
        exact⟨zcq (fun (t:Tree m)=>absurd (by have:=t.once j aj;have h2:=HV.out;unfold cS at h2;rw[List.take_length] at h2;omega) aC),al.out⟩
      ·have ar: ¬(j:Int)<(m.ex.length:Int):=by omega
       go_wp2
       go_ret
       exact⟨zhT ⟨HA.out,au.out,fun k hk=>by have:=AC.out k (by omega);unfold cS at this;rw[List.take_length] at this;exact this⟩,al.out⟩
theorem ze0 (k:Int) (w:World):Calls Tryz.prog 158 #[.int .i64 k] w fun e h=>e= .returned (.bool (k==6||k==7))∧h=w:=by
 cases n:(k==6) with
 |true=>
  go_enter Tryz.func158,Tryz.ntmps158
  go_wp2
  go_ret
  exact⟨rfl,rfl⟩
 |false=>
  cases j:(k==7) with
  |true=>
   go_enter Tryz.func158,Tryz.ntmps158
   go_wp2
   go_ret
   exact⟨rfl,rfl⟩
  |false=>
   go_enter Tryz.func158,Tryz.ntmps158
   go_wp2
   go_ret
   exact⟨rfl,rfl⟩
theorem zhU (k:Int) (w:World):Calls Tryz.prog 113 #[.int .i64 k] w fun e q=>e= .returned (.bool (zT k))∧q=w:=by
 cases h:(k==6||k==7) with
 |true=>
  have j:Hid (zT k=true):=by show _=_;rw[zT,h];rfl
  go_enter Tryz.func113,Tryz.ntmps113
  go_wp2_with fail
  refine (ze0 k _).mono ?_
  rintro e n ⟨rfl,rfl⟩
  rw[h]
  go_wp2
  go_ret
  exact⟨zl j.out.symm,rfl⟩
 |false=>
  cases o:(k==8) with
  |true=>
   have j:Hid (zT k=true):=by show _=_;rw[zT,h,o];rfl
   go_enter Tryz.func113,Tryz.ntmps113
   go_wp2_with fail
   refine (ze0 k _).mono ?_
   rintro e n ⟨rfl,rfl⟩
   rw[h]
   go_wp2
   go_ret
   exact⟨zl j.out.symm,rfl⟩
  |false=>
   have j:Hid (zT k=false):=by show _=_;rw[zT,h,o];rfl
   go_enter Tryz.func113,Tryz.ntmps113
   go_wp2_with fail
   refine (ze0 k _).mono ?_
   rintro e n ⟨rfl,rfl⟩
   rw[h]
   go_wp2
   go_ret
   exact⟨zl j.out.symm,rfl⟩
theorem zmf (k:Int) (w:World):Calls Tryz.prog 115 #[.int .i64 k] w fun e h=>e= .returned (.bool (k !=1))∧h=w:=by
 go_enter Tryz.func115,Tryz.ntmps115
 go_wp2
 go_ret
 exact⟨rfl,rfl⟩
theorem zhV {w:World} {b:Nat} {t:TypeId} {j:Value} (h:w.heap[b]? =some (.cells #[j] t (0,0))):w.cell? ⟨b,0,none⟩=some j∧∀i,w.frozen? ⟨b,i,none⟩=false:=by
 refine⟨?_,fun i=>?_⟩<;>simp[World.cell?,World.frozen?,h]
theorem zgd (i n:Int) (u:Value) (w:World) (h: ¬(0≤i∧i<n)):
  Calls Tryz.prog 112 #[.int .i64 i,.int .i64 n,u] w fun e j=>e= .returned (.bool false)∧j=w:=by
 by_cases o:i<0
 ·go_enter Tryz.func112,Tryz.ntmps112
  go_wp2
  go_ret
  exact⟨rfl,rfl⟩
 ·have q:n≤i:=by omega
  clear h
  go_enter Tryz.func112,Tryz.ntmps112
  go_wp2
  go_ret
  exact⟨rfl,rfl⟩
theorem zmg (i j q g D:Nat) (n:Int) (f:Nat→Nat) (w:World) (E:w.heap[D]? =some (.cells #[.slice (some ⟨g,0,none⟩) j j] 151 (0,0))) (h:w.ownsRow q 3 1 (.slice (some ⟨g,0,none⟩) j j) j (zai j f)) (N:f i≤17179869184) (Y:i<j) (X:(i:Int)<n):
  Calls Tryz.prog 112 #[.int .i64 (i:Int),.int .i64 n,.pointer (some ⟨D,0,none⟩)] w fun e M=>e= .returned (.bool true)∧M=w.setCell ⟨g,i,none⟩ (.int .i64 (f i+1:Nat)):=by
 have U: ¬(i:Int)<0:=by omega
 have V: ¬n≤(i:Int):=by omega
 have L:(i:Int)<(j:Int):=by omega
 obtain⟨s0,Z⟩:=zhV E
 obtain⟨H,o⟩: ∃v,f i=v:=⟨_,rfl⟩
 have K:=zdQ h (k:=i) (by omega)
 have O:=h.frozenAt
 rw[o] at K N
 rw[o]
 obtain⟨A,z⟩: ∃u,u=H+1:=⟨_,rfl⟩
 have J:(H:Int)+1=(A:Int):=by omega
 have I:IntKind.i64.wrap (A:Int)=(A:Int):=IntWalk.i64_in _ ⟨by omega,by omega⟩
 rw[←z]
 clear E h o z
 go_enter Tryz.func112,Tryz.ntmps112
 go_wp2
 go_ret
 exact⟨rfl,rfl⟩
def odd (n:Nat) (f:Nat→Nat) (j:Nat):Bool:=(List.range n).any fun k=>decide (j≤k)&&((f k:Int) !=1)
theorem zmh {n:Nat} {f:Nat→Nat} {j:Nat} (w:j<n):odd n f j=(((f j:Int) !=1)||odd n f (j+1)):=by
 rw[Bool.eq_iff_iff,Bool.or_eq_true]
 simp only[odd,List.any_eq_true,List.mem_range,Bool.and_eq_true,decide_eq_true_eq]
 constructor
 ·rintro⟨k,o,q,h⟩
  by_cases e:k=j
  ·exact .inl (e▸h)
  ·exact .inr ⟨k,o,by omega,h⟩
 ·rintro (h|⟨k,o,q,h⟩)
  ·exact⟨j,w,Nat.le_refl _,h⟩
  ·exact⟨k,o,by omega,h⟩
theorem zmi {n:Nat} (f:Nat→Nat) {j:Nat} (w:n≤j):odd n f j=false:=by
 rw[Bool.eq_false_iff]
 intro h
 simp only[odd,List.any_eq_true,List.mem_range,Bool.and_eq_true,decide_eq_true_eq] at h
 obtain⟨k,q,o,_⟩:=h
 omega
theorem zmj (q g n:Nat) (f:Nat→Nat) (w:World) (h:w.ownsRow q 3 1 (.slice (some ⟨g,0,none⟩) n n) n (zai n f)) (hl:n≤4294967296):
  Calls Tryz.prog 159 #[.slice (some ⟨g,0,none⟩) n n,.func (.func 115) #[] #[]] w fun e Z=>(∃v:Int,e= .returned (.int .i64 v)∧decide (0≤v)=odd n f 0)∧Below w.heap.size w Z:=by
 have Y:=zc h
 clear h
 go_enter Tryz.func159,Tryz.ntmps159
 go_wp2
 go_loopg [8] (n+1) (fun k i wr=>∃j:Nat,i= .int .i64 j∧j+k=n+1∧odd n f j=odd n f 0∧Below w.heap.size w wr)
 case atStart=>exact⟨0,rfl,by omega,rfl,Below.refl _ _⟩
 case round=>
  obtain⟨j,rfl,hj,N,L⟩:=hrel
  have I:=zc N
  have D:=zc L
  clear N L
  by_cases A:j<n
  ·have z:(j:Int)<(n:Int):=by omega
   have V:=zdQ (zez Y.out D.out) A
   have J:=zc (zmh (f:=f) A)
   obtain⟨v,H⟩: ∃v,f j=v:=⟨_,rfl⟩
   rw[H] at V
   have K:=zc H
   clear H
   obtain⟨E,o⟩: ∃E,E=j+1:=⟨_,rfl⟩
   have ej:(j:Int)+1=(E:Int):=by omega
   have O:=zc o
   clear o
   go_wp2_with fail
   refine (zmf (v:Int) _).mono ?_
   rintro e X ⟨rfl,U⟩
   rw[U]
   clear U X
   cases M:((v:Int) !=1) with
   |true=>
    go_wp2
    go_ret
    refine⟨⟨_,rfl,?_⟩,D.out⟩
    rw[←I.out,J.out,K.out,M]
    simp
   |false=>
    go_wp2
    go_roundg (gk-1)
    case rel=>
     refine⟨E,rfl,by have:=O.out;omega,?_,D.out⟩
     rw[←I.out,J.out,K.out,M,O.out]
     simp
    case measure=>omega
  ·have z: ¬(j:Int)<(n:Int):=by omega
   go_wp2
   go_ret
   refine⟨⟨_,rfl,?_⟩,D.out⟩
   rw[←I.out,zmi f (by omega)]
   rfl
theorem zmk (n g j:Nat) (f:Nat→Nat) (w:World) (h:w.ownsRow n 3 1 (.slice (some ⟨g,0,none⟩) j j) j (zai j f)) (D:j≤4294967296):
  Calls Tryz.prog 114 #[.slice (some ⟨g,0,none⟩) j j,.func (.func 115) #[] #[]] w fun e z=>e= .returned (.bool (odd j f 0))∧Below w.heap.size w z:=by
 have E:=zc h
 clear h
 go_enter Tryz.func114,Tryz.ntmps114
 go_wp2_with fail
 refine (zmj n g j f _ E.out D).mono ?_
 rintro e I ⟨⟨v,rfl,o⟩,q⟩
 have H:=zc o
 have A:=zc q
 clear o q
 go_wp2
 go_ret
 exact⟨zl H.out,A.out⟩
end Go.Proofs.YticdggnnpjachaaGreat
