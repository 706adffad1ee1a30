/-
  What l5Tree of the specification answers: the walk.
  What impl's isSum,hasSides and the closure that counts a use answer: the walks.
-/
import Derived.BigRegion
import Derived.Test.YtjdddblpfbmpaaaGreatCoMdAsideToImplParseQ
namespace Go.Proofs.YtjdddblpfbmpaaaGreat
set_option maxRecDepth 100000
set_option maxHeartbeats 6400000
open Go.RowKit Go.PlainAid Go.Sort
theorem Tryz.infoInt:(Tryz.prog.info? 3).map (fun i=>(i.zero,i.size,i.bytes))=some (some (.int .i64 0),1,8):=by kernel_rfl
theorem zhR (n:Nat):(madeCells #[.int .i64 0] n).toList=zah n (fun _=>0):=by
 rw[toList_madeCells_one]
 unfold zah
 rw[List.map_const',List.length_range]
 rfl
theorem zdM {w:World} {j g n q:Nat} {f:Nat→Nat} (h:w.ownsRow j 3 1 (.slice (some ⟨g,0,none⟩) n q) n (zah n f)) {k:Nat} (z:k<n):w.cell? ⟨g,k,none⟩=some (.int .i64 (f k:Int)):=by
 rw[h.cellAt k (by omega)]
 exact zff f z
theorem zfh {w:World} {q g n z:Nat} {f:Nat→Nat} (h:w.ownsRow q 3 1 (.slice (some ⟨g,0,none⟩) n z) n (zah n f)) (k v:Nat) (A:v=f k+1):(w.setCell ⟨g,k,none⟩ (.int .i64 (v:Int))).ownsRow q 3 1 (.slice (some ⟨g,0,none⟩) n z) n (zah n (za7 f k)):=by
 have:=(h.stored k (.int .i64 (v:Int))).1
 rw[zlO f (za7 f k) v (by rw[zlP,A]) (fun j D=>zlQ f D)] at this
 exact this
theorem zew {w z:World} {j g n q:Nat} {xs:List Value} (h:w.ownsRow j 3 1 (.slice (some ⟨g,0,none⟩) n q) n xs) (D:Below w.heap.size w z):z.ownsRow j 3 1 (.slice (some ⟨g,0,none⟩) n q) n xs:=by
 have A:OwnR w j 3 1 ⟨some ⟨g,0,none⟩,q⟩ n xs:=h
 exact A.keep fun k e=>D.block k (A.typed e).2.1
theorem zfZ {w:World} {j g n q:Nat} {xs:List Value} (h:w.ownsRow j 3 1 (.slice (some ⟨g,0,none⟩) n q) n xs):j≤g∧g<w.heap.size:=by
 have z:OwnR w j 3 1 ⟨some ⟨g,0,none⟩,q⟩ n xs:=h
 exact⟨(z.typed rfl).1,(z.typed rfl).2.1⟩
theorem zfi {w:World} {j g k:Nat} {S:Sv} {m:Md} {u:Value} (h:OwnMd w j S m) (K: ∀b,w.heap[g]? =some b→∃A,b= .cells A 3 (0,0)):OwnMd (w.setCell ⟨g,k,none⟩ u) j S m:=by
 have D: ∀(e:TypeId) (q n:Nat) (r:Rw) (E:List Value),OwnR w j e q r n E→e≠3→OwnR (w.setCell ⟨g,k,none⟩ u) j e q r n E:=fun e q n r E h H=>h.keep fun b J=>Below.heap_setCell w ⟨g,k,none⟩ u b (fun I=>by
  obtain⟨_,_,c,L⟩:=h.typed J
  obtain⟨A,z⟩:=K _ (by rw[←show b=g from I];exact L)
  simp only[Obj.cells.injEq] at z
  exact H z.2.1)
 exact⟨D _ _ _ _ _ h.rq (by decide),D _ _ _ _ _ h.im (by decide),D _ _ _ _ _ h.ep (by decide),D _ _ _ _ _ h.st (by decide),D _ _ _ _ _ h.ex (by decide)⟩
def cE (ex:List Ex) (j:Nat):Nat→Nat:=fun k=>zai (ex.take j) (k:Int)
theorem OwnMd.drewI {w:World} {j:Nat} {S:Sv} {m:Md} (h:OwnMd w j S m):OwnMd w.drew j S m:=⟨h.rq,h.im,h.ep,h.st,h.ex⟩
def cS (m:Md) (j:Nat):Nat→Nat:=fun k=>zai m.ex (k:Int)+za9 (m.st.take j) (k:Int)
def zfj (m:Md) (e:Ending):Prop:=∃b,e= .returned (.bool b)∧(b=true↔Tree m)
theorem zcn {m:Md} (h: ¬Tree m):zfj m (.returned (.bool false)):=⟨false,rfl,⟨(fun k=>by cases k),fun t=>absurd t h⟩⟩
theorem zhS {m:Md} (h:Tree m):zfj m (.returned (.bool true)):=⟨true,rfl,⟨fun _=>h,fun _=>rfl⟩⟩
theorem zfk {w:World} {j g n q:Nat} {xs:List Value} (h:w.ownsRow j 3 1 (.slice (some ⟨g,0,none⟩) n q) n xs): ∀b,w.heap[g]? =some b→∃z,b= .cells z 3 (0,0):=by
 have D:OwnR w j 3 1 ⟨some ⟨g,0,none⟩,q⟩ n xs:=h
 obtain⟨_,_,c,E⟩:=D.typed rfl
 intro b A
 rw[E] at A
 exact⟨c,(Option.some.inj A).symm⟩
theorem zmk (n:Nat) (S:Sv) (m:Md) (w:World) (h:OwnMd w n S m) (hl:m.ex.length≤4294967296) (hs:m.st.length≤4294967296):
  Calls Tryz.prog 80 #[zq S m] w fun e w'=>zfj m e∧Below w.heap.size w w':=by
 obtain⟨i0,hi,aM,aW,aT⟩:=info_parts Tryz.infoInt
 have HH:=zc h
 clear h
 unfold zq
 go_enter Tryz.func80,Tryz.ntmps80
 go_wp2_with (first|(at_make;refine wpList_make_full _ rfl _ _ 152 rfl (w.heap.size+1) 3 i0 (.int .i64 0) 1 Tryz.underlying152 hi aM aW .i64 .i64 _ _ m.ex.length (by rfl) (by rfl) rfl rfl (by rw[aT];omega) (by unfold maxLen;omega) (by rw[zk];omega) ?_))
 intro w1 ad X
 rw[zhR] at ad
 have bb:Below (w.heap.size+1) (w.alloc _) w1:=⟨X.os,X.tape,X.output,X.size,fun k hk=>X.block k (by rw[zk];exact hk) (by simp)⟩
 have aD:Hid (Below w.heap.size w w1):=((Below.refl _ _).alloc (Nat.le_refl _) _).trans (bb.mono (by omega))
 have aC:Hid (w1.heap[w.heap.size]? =some (.cells #[.slice S.rq.a m.rq.length S.rq.cap,.slice S.im.a m.im.length S.im.cap,.slice S.ep.a m.ep.length S.ep.cap,.slice S.st.a m.st.length S.st.cap,.slice S.ex.a m.ex.length S.ex.cap] 36 (0,0))):=(bb.block _ (by omega)).trans (heap_alloc_new w _)
 have aL:=zc (HH.out.later aD.out)
 have aO:Hid (w1.ownsRow (w.heap.size+1) 3 1 (.slice (some ⟨w.heap.size+1,0,none⟩) m.ex.length m.ex.length) m.ex.length (zah m.ex.length (cE m.ex 0))):=by show World.ownsRow _ _ _ _ _ _ _;rw[show zah m.ex.length (cE m.ex 0)=zah m.ex.length (fun _=>0) from zdo fun k _=>by simp[cE,zai]];exact ad
 clear ad X bb
 obtain⟨c0,c1,c2,c3,c4,cf⟩:=zi aC.out
 go_wp2
 go_loopg [4] m.ex.length (fun k i wr=>∃j:Nat,i= .int .i64 j∧j+k=m.ex.length∧AheadTo m.ex j∧wr.ownsRow (w.heap.size+1) 3 1 (.slice (some ⟨w.heap.size+1,0,none⟩) m.ex.length m.ex.length) m.ex.length (zah m.ex.length (cE m.ex j))∧OwnMd wr n S m∧wr.heap[w.heap.size]? =some (.cells #[.slice S.rq.a m.rq.length S.rq.cap,.slice S.im.a m.im.length S.im.cap,.slice S.ep.a m.ep.length S.ep.cap,.slice S.st.a m.st.length S.st.cap,.slice S.ex.a m.ex.length S.ex.cap] 36 (0,0))∧Below w.heap.size w wr)
 case atStart=>exact⟨0,rfl,by omega,fun i x hi=>absurd hi (Nat.not_lt_zero i),aO.out,aL.out,aC.out,aD.out⟩
 case round=>
  obtain⟨j,rfl,hj,ah,z,M,N,I⟩:=hrel
  have AH:=zc ah
  have HN:=zc z
  have HO:=zc M
  have HX:=zc N
  have U:=zc I
  clear ah z M N I
  clear c0 c1 c2 c3 c4 cf
  obtain⟨c0,c1,c2,c3,c4,cf⟩:=zi HX.out
  have ak:=(Array.getElem?_eq_some_iff.1 HX.out).1
  by_cases A:j<m.ex.length
  ·have aB:(j:Int)<(m.ex.length:Int):=by omega
   obtain⟨g,hg,bj,x0,x1,x2,x3,x4,x5⟩:=HO.out.expr A
   rw[hg] at c4
   clear hg
   have aA:=zc (zdd A)
   obtain⟨x,am⟩: ∃x,m.ex.getD j zf=x:=⟨_,rfl⟩
   rw[am] at x0 x1 x2 x3 x4 x5
   have K:Hid (m.ex[j]=x):=aA.out.symm.trans am
   clear am aA
   obtain⟨J,E⟩: ∃J,J=j+1:=⟨_,rfl⟩
   have ej:(j:Int)+1=(J:Int):=by omega
   have O:=zc E
   clear E
   have Y:Hid (Below wr.heap.size wr (wr.alloc (.cells #[.int .i64 x.kind,.int .i64 x.num,.string x.name,.string x.field,.int .i64 x.l,.int .i64 x.r] 109))):=(Below.refl _ _).alloc (Nat.le_refl _) _
   go_wp2_with fail
   refine (zhP x.kind _).mono ?_
   rintro e w2 ⟨rfl,hw⟩
   rw[hw]
   clear hw w2
   cases ht:zR x.kind with
   |false=>
    go_wp2
    go_roundg (gk-1)
    case rel=>exact⟨J,rfl,by have:=O.out;omega,by rw[O.out];exact AH.out.next A (fun k=>by rw[K.out,ht] at k;cases k),by rw[O.out,show zah m.ex.length (cE m.ex (j+1))=zah m.ex.length (cE m.ex j) from zdo fun k _=>(zhM A (by rw[K.out];exact ht) k).symm];exact zew HN.out Y.out,HO.out.later Y.out,(Y.out.block _ ak).trans HX.out,U.out.trans (Y.out.mono U.out.size)⟩
    case measure=>omega
   |true=>
    by_cases a1:x.l<0
    ·have ac:decide (x.l<0)=true:=decide_eq_true a1
     go_wp2
     go_ret
     exact⟨zcn (fun (t:Tree m)=>absurd t.ahead (AheadTo.not A (by rw[K.out];exact ht) (by rw[K.out];omega))),U.out.trans (Y.out.mono U.out.size)⟩
    have ac:decide (x.l<0)=false:=decide_eq_false a1
    by_cases a2:(j:Int)≤x.l
    ·have af:decide ((j:Int)≤x.l)=true:=decide_eq_true a2
     go_wp2
     go_ret
     exact⟨zcn (fun (t:Tree m)=>absurd t.ahead (AheadTo.not A (by rw[K.out];exact ht) (by rw[K.out];omega))),U.out.trans (Y.out.mono U.out.size)⟩
    have af:decide ((j:Int)≤x.l)=false:=decide_eq_false a2
    by_cases a3:x.r<0
    ·have aE:decide (x.r<0)=true:=decide_eq_true a3
     go_wp2
     go_ret
     exact⟨zcn (fun (t:Tree m)=>absurd t.ahead (AheadTo.not A (by rw[K.out];exact ht) (by rw[K.out];omega))),U.out.trans (Y.out.mono U.out.size)⟩
    have aE:decide (x.r<0)=false:=decide_eq_false a3
    by_cases a4:(j:Int)≤x.r
    ·have aH:decide ((j:Int)≤x.r)=true:=decide_eq_true a4
     go_wp2
     go_ret
     exact⟨zcn (fun (t:Tree m)=>absurd t.ahead (AheadTo.not A (by rw[K.out];exact ht) (by rw[K.out];omega))),U.out.trans (Y.out.mono U.out.size)⟩
    have aH:decide ((j:Int)≤x.r)=false:=decide_eq_false a4
    go_wp2_with fail
    obtain⟨q,aa⟩: ∃q:Nat,x.l=(q:Int):=⟨x.l.toNat,by omega⟩
    obtain⟨D,Z⟩: ∃D:Nat,x.r=(D:Int):=⟨x.r.toNat,by omega⟩
    have bt:q<m.ex.length:=by omega
    have bl:D<m.ex.length:=by omega
    have a0:(q:Int)<(m.ex.length:Int):=by omega
    have a6:(D:Int)<(m.ex.length:Int):=by omega
    have aN:Hid (AheadTo m.ex (j+1)):=AH.out.next A (fun _=>by rw[K.out];omega)
    have HU:Hid (∀k:Nat,za7 (za7 (cE m.ex j) q) D k=cE m.ex (j+1) k):=fun k=>by have:=zhL A (by rw[K.out];exact ht) (by rw[K.out];omega) (by rw[K.out];omega) k;rw[K.out,aa,Z] at this;exact this
    have aF:=zfe (m.ex.take j)
    have aZ:(m.ex.take j).length≤4294967296:=by rw[List.length_take];omega
    have be:=(zfZ HN.out).2
    refine zac (R:=fun W=>W.heap[wr.heap.size]? =some (.cells #[.int .i64 x.kind,.int .i64 x.num,.string x.name,.string x.field,.int .i64 (q:Int),.int .i64 (D:Int)] 109 (0,0))∧W.ownsRow (w.heap.size+1) 3 1 (.slice (some ⟨w.heap.size+1,0,none⟩) m.ex.length m.ex.length) m.ex.length (zah m.ex.length (cE m.ex j))∧OwnMd W n S m∧W.heap[w.heap.size]? =some (.cells #[.slice S.rq.a m.rq.length S.rq.cap,.slice S.im.a m.im.length S.im.cap,.slice S.ep.a m.ep.length S.ep.cap,.slice S.st.a m.st.length S.st.cap,.slice S.ex.a m.ex.length S.ex.cap] 36 (0,0))∧Below w.heap.size w W) ⟨by have:=heap_alloc_new wr (.cells #[.int .i64 x.kind,.int .i64 x.num,.string x.name,.string x.field,.int .i64 x.l,.int .i64 x.r] 109);rw[aa,Z] at this;rw[aa,Z];exact this,zew HN.out Y.out,HO.out.later Y.out,(Y.out.block _ ak).trans HX.out,U.out.trans (Y.out.mono U.out.size)⟩ ?_
    have bn:=zc aa
    have bf:=zc Z
    clear aa Z ac af aE aH a1 a2 a3 a4
    rintro W ⟨xb,z,M,N,I⟩
    have bk:=zc xb
    have bm:=zc z
    have bg:=zc M
    have bo:=zc N
    have bs:=zc I
    obtain⟨s0,s1,s2,s3,s4,s5,sf⟩:=zu xb
    obtain⟨va,ai⟩: ∃v,(cE m.ex j) q=v:=⟨_,rfl⟩
    have ea:=zdM z (k:=q) (by omega)
    have ef:=z.frozenAt
    rw[ai] at ea
    have a9:va≤17179869184:=by rw[←ai];have:=aF (q:Int);unfold cE;omega
    obtain⟨ua,aw⟩: ∃u,u=va+1:=⟨_,rfl⟩
    have bq:(va:Int)+1=(ua:Int):=by omega
    have a8:IntKind.i64.wrap (ua:Int)=(ua:Int):=IntWalk.i64_in _ ⟨by omega,by omega⟩
    have aQ:Hid ((W.setCell ⟨w.heap.size+1,q,none⟩ (.int .i64 (ua:Int))).ownsRow (w.heap.size+1) 3 1 (.slice (some ⟨w.heap.size+1,0,none⟩) m.ex.length m.ex.length) m.ex.length (zah m.ex.length (za7 (cE m.ex j) q))):=zfh z q ua (by rw[aw,ai])
    have aX:Hid (OwnMd (W.setCell ⟨w.heap.size+1,q,none⟩ (.int .i64 (ua:Int))) n S m):=zfi M (zfk z)
    have aP:Hid ((W.setCell ⟨w.heap.size+1,q,none⟩ (.int .i64 (ua:Int))).heap[w.heap.size]? =some (.cells #[.slice S.rq.a m.rq.length S.rq.cap,.slice S.im.a m.im.length S.im.cap,.slice S.ep.a m.ep.length S.ep.cap,.slice S.st.a m.st.length S.st.cap,.slice S.ex.a m.ex.length S.ex.cap] 36 (0,0))):=(zt (by omega)).trans N
    have aV:Hid (Below w.heap.size w (W.setCell ⟨w.heap.size+1,q,none⟩ (.int .i64 (ua:Int)))):=I.setCell (Nat.le_succ _) _
    have aY:Hid ((W.setCell ⟨w.heap.size+1,q,none⟩ (.int .i64 (ua:Int))).heap[wr.heap.size]? =some (.cells #[.int .i64 x.kind,.int .i64 x.num,.string x.name,.string x.field,.int .i64 (q:Int),.int .i64 (D:Int)] 109 (0,0))):=(zt (by omega)).trans xb
    clear xb z M N I ai aw
    go_region
    clear s0 s1 s2 s3 s4 s5 sf ef ea
    go_wp2_with fail
    refine zac (R:=fun W=>W.heap[wr.heap.size]? =some (.cells #[.int .i64 x.kind,.int .i64 x.num,.string x.name,.string x.field,.int .i64 (q:Int),.int .i64 (D:Int)] 109 (0,0))∧W.ownsRow (w.heap.size+1) 3 1 (.slice (some ⟨w.heap.size+1,0,none⟩) m.ex.length m.ex.length) m.ex.length (zah m.ex.length (za7 (cE m.ex j) q))∧OwnMd W n S m∧W.heap[w.heap.size]? =some (.cells #[.slice S.rq.a m.rq.length S.rq.cap,.slice S.im.a m.im.length S.im.cap,.slice S.ep.a m.ep.length S.ep.cap,.slice S.st.a m.st.length S.st.cap,.slice S.ex.a m.ex.length S.ex.cap] 36 (0,0))∧Below w.heap.size w W) ⟨aY.out,aQ.out,aX.out.drewI,aP.out,aV.out.drew⟩ ?_
    rintro V ⟨xb,z,M,N,I⟩
    have bv:=zc xb
    have bp:=zc z
    have bc:=zc M
    have bu:=zc N
    have bh:=zc I
    obtain⟨s0,s1,s2,s3,s4,s5,sf⟩:=zu xb
    obtain⟨vb,ae⟩: ∃v,(za7 (cE m.ex j) q) D=v:=⟨_,rfl⟩
    have eb:=zdM z (k:=D) (by omega)
    have ef:=z.frozenAt
    rw[ae] at eb
    have a5:vb≤17179869184:=by rw[←ae];have:=aF (D:Int);unfold za7 cE;split<;>omega
    obtain⟨ub,an⟩: ∃u,u=vb+1:=⟨_,rfl⟩
    have bi:(vb:Int)+1=(ub:Int):=by omega
    have a7:IntKind.i64.wrap (ub:Int)=(ub:Int):=IntWalk.i64_in _ ⟨by omega,by omega⟩
    have aK:Hid ((V.setCell ⟨w.heap.size+1,D,none⟩ (.int .i64 (ub:Int))).ownsRow (w.heap.size+1) 3 1 (.slice (some ⟨w.heap.size+1,0,none⟩) m.ex.length m.ex.length) m.ex.length (zah m.ex.length (za7 (za7 (cE m.ex j) q) D))):=zfh z D ub (by rw[an,ae])
    have aS:Hid (OwnMd (V.setCell ⟨w.heap.size+1,D,none⟩ (.int .i64 (ub:Int))) n S m):=zfi M (zfk z)
    have aJ:Hid ((V.setCell ⟨w.heap.size+1,D,none⟩ (.int .i64 (ub:Int))).heap[w.heap.size]? =some (.cells #[.slice S.rq.a m.rq.length S.rq.cap,.slice S.im.a m.im.length S.im.cap,.slice S.ep.a m.ep.length S.ep.cap,.slice S.st.a m.st.length S.st.cap,.slice S.ex.a m.ex.length S.ex.cap] 36 (0,0))):=(zt (by omega)).trans N
    have aU:Hid (Below w.heap.size w (V.setCell ⟨w.heap.size+1,D,none⟩ (.int .i64 (ub:Int)))):=I.setCell (Nat.le_succ _) _
    have br:Hid ((V.setCell ⟨w.heap.size+1,D,none⟩ (.int .i64 (ub:Int))).heap[wr.heap.size]? =some (.cells #[.int .i64 x.kind,.int .i64 x.num,.string x.name,.string x.field,.int .i64 (q:Int),.int .i64 (D:Int)] 109 (0,0))):=(zt (by omega)).trans xb
    clear xb z M N I ae an
    go_region
    clear s0 s1 s2 s3 s4 s5 sf ef eb
    go_wp2
    go_roundg (gk-1)
    case rel=>exact⟨J,rfl,by have:=O.out;omega,by rw[O.out];exact aN.out,by rw[O.out,←zdo fun k _=>HU.out k];exact aK.out,aS.out.drewI,aJ.out,aU.out.drew⟩
    case measure=>omega
  ·have aB: ¬(j:Int)<(m.ex.length:Int):=by omega
   obtain rfl:j=m.ex.length:=by omega
   have HA:=zc AH.out.all
   have HC:Hid (wr.ownsRow (w.heap.size+1) 3 1 (.slice (some ⟨w.heap.size+1,0,none⟩) m.ex.length m.ex.length) m.ex.length (zah m.ex.length (cS m 0))):=by show World.ownsRow _ _ _ _ _ _ _;rw[show zah m.ex.length (cS m 0)=zah m.ex.length (cE m.ex m.ex.length) from zdo fun k _=>by simp[cE,cS,za9]];exact HN.out
   go_wp2
   go_loopg [6] m.st.length (fun k i wr=>∃j:Nat,i= .int .i64 j∧j+k=m.st.length∧(∀s∈m.st.take j,0≤s.expr∧s.expr<(m.ex.length:Int))∧wr.ownsRow (w.heap.size+1) 3 1 (.slice (some ⟨w.heap.size+1,0,none⟩) m.ex.length m.ex.length) m.ex.length (zah m.ex.length (cS m j))∧OwnMd wr n S m∧wr.heap[w.heap.size]? =some (.cells #[.slice S.rq.a m.rq.length S.rq.cap,.slice S.im.a m.im.length S.im.cap,.slice S.ep.a m.ep.length S.ep.cap,.slice S.st.a m.st.length S.st.cap,.slice S.ex.a m.ex.length S.ex.cap] 36 (0,0))∧Below w.heap.size w wr)
   case atStart=>exact⟨0,rfl,by omega,(fun s hs=>by simp at hs),HC.out,HO.out,HX.out,U.out⟩
   case round=>
    obtain⟨j,rfl,bx,ah,z,M,N,I⟩:=hrel
    have AS:=zc ah
    have ab:=zc z
    have ay:=zc M
    have aG:=zc N
    have ag:=zc I
    clear ah z M N I c0 c1 c2 c3 c4 cf
    obtain⟨c0,c1,c2,c3,c4,cf⟩:=zi aG.out
    by_cases H:j<m.st.length
    ·have ap:(j:Int)<(m.st.length:Int):=by omega
     obtain⟨s,av⟩: ∃s,m.st[j]? =some s:=⟨_,List.getElem?_eq_getElem H⟩
     obtain⟨g,hg,aI⟩:=OwnR.elem (f:=smL) (m:=3) (fun _=>rfl) ay.out.st av
     have k2:=aI 2 (by omega)
     simp only[smL,List.getElem?_cons_zero,List.getElem?_cons_succ] at k2
     rw[hg] at c3
     obtain⟨_,aj⟩:=List.getElem?_eq_some_iff.1 av
     have HS:Hid (m.st[j]=s):=aj
     clear hg aI av aj
     obtain⟨J,E⟩: ∃J,J=j+1:=⟨_,rfl⟩
     have ej:(j:Int)+1=(J:Int):=by omega
     have O:=zc E
     clear E
     by_cases a1:s.expr<0
     ·have ac:decide (s.expr<0)=true:=decide_eq_true a1
      go_wp2
      go_ret
      exact⟨zcn (fun (t:Tree m)=>by have:=t.stm _ (List.getElem_mem H);rw[HS.out] at this;omega),ag.out⟩
     have ac:decide (s.expr<0)=false:=decide_eq_false a1
     by_cases a2:(m.ex.length:Int)≤s.expr
     ·have af:decide ((m.ex.length:Int)≤s.expr)=true:=decide_eq_true a2
      go_wp2
      go_ret
      exact⟨zcn (fun (t:Tree m)=>by have:=t.stm _ (List.getElem_mem H);rw[HS.out] at this;omega),ag.out⟩
     have af:decide ((m.ex.length:Int)≤s.expr)=false:=decide_eq_false a2
     obtain⟨L,ar⟩: ∃L:Nat,s.expr=(L:Int):=⟨s.expr.toNat,by omega⟩
     have aR:L<m.ex.length:=by omega
     have ba:(L:Int)<(m.ex.length:Int):=by omega
     have au:Hid (∀s∈m.st.take (j+1),0≤s.expr∧s.expr<(m.ex.length:Int)):=by
      intro y hy
      rw[List.take_succ_eq_append_getElem H,List.mem_append] at hy
      rcases hy with hy|hy
      ·exact AS.out y hy
      ·simp only[List.mem_singleton] at hy
       rw[hy,HS.out]
       omega
     have HU:Hid (∀k:Nat,za7 (cS m j) L k=cS m (j+1) k):=fun k=>by have:=zhN (ex:=m.ex) H (by rw[HS.out];omega) k;rw[HS.out,ar] at this;exact this
     rw[ar] at k2 a1 a2 ac af
     obtain⟨v,hv⟩: ∃v,cS m j L=v:=⟨_,rfl⟩
     have ea:=zdM ab.out aR
     have ef:=ab.out.frozenAt
     rw[hv] at ea
     have ae:v≤17179869184:=by rw[←hv];unfold cS;have:=zfe m.ex (L:Int);have:=zhK (m.st.take j) (L:Int);rw[List.length_take] at this;omega
     obtain⟨u,hu⟩: ∃u,u=v+1:=⟨_,rfl⟩
     have ev:(v:Int)+1=(u:Int):=by omega
     have an:u≤17179869185:=by omega
     have NN:Hid ((wr.setCell ⟨w.heap.size+1,L,none⟩ (.int .i64 (u:Int))).ownsRow (w.heap.size+1) 3 1 (.slice (some ⟨w.heap.size+1,0,none⟩) m.ex.length m.ex.length) m.ex.length (zah m.ex.length (za7 (cS m j) L))):=zfh ab.out L u (by rw[hu,hv])
     have NO:Hid (OwnMd (wr.setCell ⟨w.heap.size+1,L,none⟩ (.int .i64 (u:Int))) n S m):=zfi ay.out (zfk ab.out)
     have NX:Hid ((wr.setCell ⟨w.heap.size+1,L,none⟩ (.int .i64 (u:Int))).heap[w.heap.size]? =some (.cells #[.slice S.rq.a m.rq.length S.rq.cap,.slice S.im.a m.im.length S.im.cap,.slice S.ep.a m.ep.length S.ep.cap,.slice S.st.a m.st.length S.st.cap,.slice S.ex.a m.ex.length S.ex.cap] 36 (0,0))):=(zt (by omega)).trans aG.out
     have NB:Hid (Below w.heap.size w (wr.setCell ⟨w.heap.size+1,L,none⟩ (.int .i64 (u:Int)))):=ag.out.setCell (Nat.le_succ _) _
     clear ar hv hu
     go_wp2
     go_roundg (gk-1)
     case rel=>exact⟨J,rfl,by have:=O.out;omega,by rw[O.out];exact au.out,by rw[O.out,←zdo fun k _=>HU.out k];exact NN.out,NO.out,NX.out,NB.out⟩
     case measure=>omega
    ·have ap: ¬(j:Int)<(m.st.length:Int):=by omega
     obtain rfl:j=m.st.length:=by omega
     have au:Hid (∀s∈m.st,0≤s.expr∧s.expr<(m.ex.length:Int)):=by have:=AS.out;rw[List.take_length] at this;exact this
     go_wp2
     go_loopg [8] m.ex.length (fun k i wr=>∃j:Nat,i= .int .i64 j∧j+k=m.ex.length∧(∀k,k<j→cS m m.st.length k=1)∧wr.ownsRow (w.heap.size+1) 3 1 (.slice (some ⟨w.heap.size+1,0,none⟩) m.ex.length m.ex.length) m.ex.length (zah m.ex.length (cS m m.st.length))∧Below w.heap.size w wr)
     case atStart=>exact⟨0,rfl,by omega,fun k hk=>absurd hk (Nat.not_lt_zero k),ab.out,ag.out⟩
     case round=>
      obtain⟨j,rfl,bw,ah,z,I⟩:=hrel
      have AC:=zc ah
      have az:=zc z
      have ao:=zc I
      clear ah z I c0 c1 c2 c3 c4 cf
      by_cases al:j<m.ex.length
      ·have aq:(j:Int)<(m.ex.length:Int):=by omega
       obtain⟨v,hv⟩: ∃v,cS m m.st.length j=v:=⟨_,rfl⟩
       have ea:=zdM az.out al
       rw[hv] at ea
       have HV:=zc hv
       clear hv
       obtain⟨J,E⟩: ∃J,J=j+1:=⟨_,rfl⟩
       have ej:(j:Int)+1=(J:Int):=by omega
       have O:=zc E
       clear E
       by_cases ax:v=1
       ·subst ax
        go_wp2
        go_roundg (gk-1)
        case rel=>exact⟨J,rfl,by have:=O.out;omega,(fun k hk=>(Nat.lt_or_eq_of_le (show k≤j by have:=O.out;omega)).elim (AC.out k) (fun e=>by rw[e];exact HV.out)),az.out,ao.out⟩
        case measure=>omega
       ·have dv:((v:Int) !=1)=true:=by rw[bne_iff_ne];omega
        go_wp2
        go_ret
        exact⟨zcn (fun (t:Tree m)=>absurd (by have:=t.once j al;have h2:=HV.out;unfold cS at h2;rw[List.take_length] at h2;omega) ax),ao.out⟩
      ·have aq: ¬(j:Int)<(m.ex.length:Int):=by omega
       go_wp2
       go_ret
       exact⟨zhS ⟨HA.out,au.out,fun k hk=>by have:=AC.out k (by omega);unfold cS at this;rw[List.take_length] at this;exact this⟩,ao.out⟩
theorem zex (k:Int) (w:World):Calls Tryz.prog 197 #[.int .i64 k] w fun e h=>e= .returned (.bool (k==6||k==7))∧h=w:=by
 cases n:(k==6) with
 |true=>
  go_enter Tryz.func197,Tryz.ntmps197
  go_wp2
  go_ret
  exact⟨rfl,rfl⟩
 |false=>
  cases j:(k==7) with
  |true=>
   go_enter Tryz.func197,Tryz.ntmps197
   go_wp2
   go_ret
   exact⟨rfl,rfl⟩
  |false=>
   go_enter Tryz.func197,Tryz.ntmps197
   go_wp2
   go_ret
   exact⟨rfl,rfl⟩
theorem zhT (k:Int) (w:World):Calls Tryz.prog 167 #[.int .i64 k] w fun e z=>e= .returned (.bool (zR k))∧z=w:=by
 cases h:(k==6||k==7) with
 |true=>
  have j:Hid (zR k=true):=by show _=_;rw[zR,h];rfl
  go_enter Tryz.func167,Tryz.ntmps167
  go_wp2_with fail
  refine (zex k _).mono ?_
  rintro e q ⟨rfl,rfl⟩
  rw[h]
  go_wp2
  go_ret
  exact⟨zl j.out.symm,rfl⟩
 |false=>
  cases n:(k==8) with
  |true=>
   have j:Hid (zR k=true):=by show _=_;rw[zR,h,n];rfl
   go_enter Tryz.func167,Tryz.ntmps167
   go_wp2_with fail
   refine (zex k _).mono ?_
   rintro e q ⟨rfl,rfl⟩
   rw[h]
   go_wp2
   go_ret
   exact⟨zl j.out.symm,rfl⟩
  |false=>
   have j:Hid (zR k=false):=by show _=_;rw[zR,h,n];rfl
   go_enter Tryz.func167,Tryz.ntmps167
   go_wp2_with fail
   refine (zex k _).mono ?_
   rintro e q ⟨rfl,rfl⟩
   rw[h]
   go_wp2
   go_ret
   exact⟨zl j.out.symm,rfl⟩
theorem zml (k:Int) (w:World):Calls Tryz.prog 169 #[.int .i64 k] w fun e h=>e= .returned (.bool (k !=1))∧h=w:=by
 go_enter Tryz.func169,Tryz.ntmps169
 go_wp2
 go_ret
 exact⟨rfl,rfl⟩
theorem zhU {w:World} {b:Nat} {t:TypeId} {v0:Value} (h:w.heap[b]? =some (.cells #[v0] t (0,0))):w.cell? ⟨b,0,none⟩=some v0∧∀i,w.frozen? ⟨b,i,none⟩=false:=by
 refine⟨?_,fun i=>?_⟩<;>simp[World.cell?,World.frozen?,h]
theorem zga (i n:Int) (u:Value) (w:World) (h: ¬(0≤i∧i<n)):
  Calls Tryz.prog 166 #[.int .i64 i,.int .i64 n,u] w fun e j=>e= .returned (.bool false)∧j=w:=by
 by_cases q:i<0
 ·go_enter Tryz.func166,Tryz.ntmps166
  go_wp2
  go_ret
  exact⟨rfl,rfl⟩
 ·have z:n≤i:=by omega
  clear h
  go_enter Tryz.func166,Tryz.ntmps166
  go_wp2
  go_ret
  exact⟨rfl,rfl⟩
theorem zmm (i j z g J:Nat) (n:Int) (f:Nat→Nat) (w:World) (I:w.heap[J]? =some (.cells #[.slice (some ⟨g,0,none⟩) j j] 152 (0,0))) (h:w.ownsRow z 3 1 (.slice (some ⟨g,0,none⟩) j j) j (zah j f)) (M:f i≤17179869184) (hi:i<j) (hn:(i:Int)<n):
  Calls Tryz.prog 166 #[.int .i64 (i:Int),.int .i64 n,.pointer (some ⟨J,0,none⟩)] w fun e K=>e= .returned (.bool true)∧K=w.setCell ⟨g,i,none⟩ (.int .i64 (f i+1:Nat)):=by
 have V: ¬(i:Int)<0:=by omega
 have X: ¬n≤(i:Int):=by omega
 have N:(i:Int)<(j:Int):=by omega
 obtain⟨Y,Z⟩:=zhU I
 obtain⟨H,q⟩: ∃v,f i=v:=⟨_,rfl⟩
 have O:=zdM h (k:=i) (by omega)
 have U:=h.frozenAt
 rw[q] at O M
 rw[q]
 obtain⟨D,A⟩: ∃u,u=H+1:=⟨_,rfl⟩
 have L:(H:Int)+1=(D:Int):=by omega
 have E:IntKind.i64.wrap (D:Int)=(D:Int):=IntWalk.i64_in _ ⟨by omega,by omega⟩
 rw[←A]
 clear I h q A
 go_enter Tryz.func166,Tryz.ntmps166
 go_wp2
 go_ret
 exact⟨rfl,rfl⟩
def odd (n:Nat) (f:Nat→Nat) (j:Nat):Bool:=(List.range n).any fun k=>decide (j≤k)&&((f k:Int) !=1)
theorem zmn {n:Nat} {f:Nat→Nat} {j:Nat} (z:j<n):odd n f j=(((f j:Int) !=1)||odd n f (j+1)):=by
 rw[Bool.eq_iff_iff,Bool.or_eq_true]
 simp only[odd,List.any_eq_true,List.mem_range,Bool.and_eq_true,decide_eq_true_eq]
 constructor
 ·rintro⟨k,w,q,h⟩
  by_cases e:k=j
  ·exact .inl (e▸h)
  ·exact .inr ⟨k,w,by omega,h⟩
 ·rintro (h|⟨k,w,q,h⟩)
  ·exact⟨j,z,Nat.le_refl _,h⟩
  ·exact⟨k,w,by omega,h⟩
theorem zmo {n:Nat} (f:Nat→Nat) {j:Nat} (w:n≤j):odd n f j=false:=by
 rw[Bool.eq_false_iff]
 intro h
 simp only[odd,List.any_eq_true,List.mem_range,Bool.and_eq_true,decide_eq_true_eq] at h
 obtain⟨k,z,q,_⟩:=h
 omega
theorem zmp (A g n:Nat) (f:Nat→Nat) (w:World) (h:w.ownsRow A 3 1 (.slice (some ⟨g,0,none⟩) n n) n (zah n f)) (hl:n≤4294967296):
  Calls Tryz.prog 198 #[.slice (some ⟨g,0,none⟩) n n,.func (.func 169) #[] #[]] w fun e Y=>(∃v:Int,e= .returned (.int .i64 v)∧decide (0≤v)=odd n f 0)∧Below w.heap.size w Y:=by
 have HO:=zc h
 clear h
 go_enter Tryz.func198,Tryz.ntmps198
 go_wp2
 go_loopg [8] (n+1) (fun k i wr=>∃j:Nat,i= .int .i64 j∧j+k=n+1∧odd n f j=odd n f 0∧Below w.heap.size w wr)
 case atStart=>exact⟨0,rfl,by omega,rfl,Below.refl _ _⟩
 case round=>
  obtain⟨j,rfl,hj,U,M⟩:=hrel
  have J:=zc U
  have H:=zc M
  clear U M
  by_cases q:j<n
  ·have D:(j:Int)<(n:Int):=by omega
   have Z:=zdM (zew HO.out H.out) q
   have O:=zc (zmn (f:=f) q)
   obtain⟨v,I⟩: ∃v,f j=v:=⟨_,rfl⟩
   rw[I] at Z
   have V:=zc I
   clear I
   obtain⟨E,z⟩: ∃E,E=j+1:=⟨_,rfl⟩
   have ej:(j:Int)+1=(E:Int):=by omega
   have L:=zc z
   clear z
   go_wp2_with fail
   refine (zml (v:Int) _).mono ?_
   rintro e X ⟨rfl,N⟩
   rw[N]
   clear N X
   cases K:((v:Int) !=1) with
   |true=>
    go_wp2
    go_ret
    refine⟨⟨_,rfl,?_⟩,H.out⟩
    rw[←J.out,O.out,V.out,K]
    simp
   |false=>
    go_wp2
    go_roundg (gk-1)
    case rel=>
     refine⟨E,rfl,by have:=L.out;omega,?_,H.out⟩
     rw[←J.out,O.out,V.out,K,L.out]
     simp
    case measure=>omega
  ·have D: ¬(j:Int)<(n:Int):=by omega
   go_wp2
   go_ret
   refine⟨⟨_,rfl,?_⟩,H.out⟩
   rw[←J.out,zmo f (by omega)]
   rfl
theorem zmq (n g j:Nat) (f:Nat→Nat) (w:World) (h:w.ownsRow n 3 1 (.slice (some ⟨g,0,none⟩) j j) j (zah j f)) (E:j≤4294967296):
  Calls Tryz.prog 168 #[.slice (some ⟨g,0,none⟩) j j,.func (.func 169) #[] #[]] w fun e D=>e= .returned (.bool (odd j f 0))∧Below w.heap.size w D:=by
 have A:=zc h
 clear h
 go_enter Tryz.func168,Tryz.ntmps168
 go_wp2_with fail
 refine (zmp n g j f _ A.out E).mono ?_
 rintro e J ⟨⟨v,rfl,q⟩,z⟩
 have I:=zc q
 have H:=zc z
 clear q z
 go_wp2
 go_ret
 exact⟨zl I.out,H.out⟩
end Go.Proofs.YtjdddblpfbmpaaaGreat
