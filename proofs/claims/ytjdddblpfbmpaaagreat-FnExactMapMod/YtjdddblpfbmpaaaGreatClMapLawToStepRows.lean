/-
  What laws.FnExactMapMod holds on its way. No program is spoken of but for the numbers of its types.
  'append' of a row onto a row of the call's own,as one step of a region that draws its order; a program handed back. No program is spoken of but for the numbers of its types.
-/
import Derived.Test.YtjdddblpfbmpaaaGreatClLawBaseToMdAside
import Derived.Test.YtjdddblpfbmpaaaGreatClSrcMod
namespace Go.Proofs.YtjdddblpfbmpaaaGreat
open Go.RowKit Go.PlainAid Go.Sort
def zh0 (A:MA) (m:Md):Obj:=.cells #[.slice A.a0 m.rq.length A.c0,.slice A.a1 m.im.length A.c1,.slice A.a2 m.ep.length A.c2,.slice A.a3 m.st.length A.c3,.slice A.a4 m.ex.length A.c4] 28
def zcE (S:Sv) (m:Md):Obj:=.cells #[.slice S.rq.a m.rq.length S.rq.cap,.slice S.im.a m.im.length S.im.cap,.slice S.ep.a m.ep.length S.ep.cap,.slice S.st.a m.st.length S.st.cap,.slice S.ex.a m.ex.length S.ex.cap] 36
def zcF:Obj:=.cells #[.slice none 0 0,.slice none 0 0,.slice none 0 0,.slice none 0 0,.slice none 0 0] 36
theorem zbd {w w':World} {k:Nat} {o:Obj} (h:w.heap[k]? =some o) (j:Below w.heap.size w w'):w'.heap[k]? =some o:=(j.block k (Array.getElem?_eq_some_iff.1 h).1).trans h
def zuF (w:World) (g:Nat) (v0 v1 v2 v3 v4:Value):Prop:=w.cell? ⟨g,0,none⟩=some v0∧w.cell? ⟨g,1,none⟩=some v1∧w.cell? ⟨g,2,none⟩=some v2∧w.cell? ⟨g,3,none⟩=some v3∧w.cell? ⟨g,4,none⟩=some v4
structure Res (F:ByteArray→ByteArray) (m:Md) (w:World) (g:Nat) (S:Sv) (N:Md) (t:Bool) (W:World):Prop where
 eq:N=if t=true then zaM F m else md0
 iff:t=true↔MOk m∧MOk (zaM F m)
 box:W.heap[g]? =some (zcE S N)
 own:OwnMd W w.heap.size S N
 bel:Below w.heap.size w W
 at':w.heap.size≤g
theorem Res.one {F:ByteArray→ByteArray} {m:Md} {w w':World} {g H:Nat} {S S':Sv} {N A:Md} {t j:Bool} {W I:World} (h:Res F m w g S N t W) (z:Res F m w' H S' A j I):j=t∧A=N:=by
 have e:j=t:=by
  have k:=z.iff.trans h.iff.symm
  cases t<;>cases j<;>simp_all
 exact⟨e,by rw[z.eq,h.eq,e]⟩
theorem MOk.tight {m:Md} (h:MOk m):m.rq.length≤40∧m.im.length≤40∧m.ep.length≤40∧m.st.length≤80∧m.ex.length≤300:=by
 obtain⟨t,_,q,w,rfl⟩:=h
 have j:=zjn w
 refine⟨j.rq,j.im,?_,j.st,j.ex⟩
 have:=j.ep
 show (q.ep++q.la).length≤_
 rw[List.length_append]
 omega
theorem zpe {F:ByteArray→ByteArray} {m N:Md} {t:Bool} (h:N=if t=true then zaM F m else md0) (j:t=true↔MOk m∧MOk (zaM F m)):N.rq.length≤40∧N.im.length≤40∧N.ep.length≤40∧N.st.length≤80∧N.ex.length≤300:=by
 cases t with
 |false=>
  rw[if_neg (by decide)] at h
  subst h
  exact⟨by decide,by decide,by decide,by decide,by decide⟩
 |true=>
  rw[if_pos rfl] at h
  subst h
  exact (j.1 rfl).2.tight
theorem zpf {N:Md} (h:N.rq.length≤40∧N.im.length≤40∧N.ep.length≤40∧N.st.length≤80∧N.ex.length≤300):KM N 1∧(N.rq.length≤4000∧N.im.length≤4000∧N.ep.length≤4000∧N.st.length≤4000∧N.ex.length≤4000∧kM N 1 5≤50000)∧zdB N:=by
 refine⟨⟨by omega,by omega,by omega,by omega,by omega,by omega,by simp only[kM];omega⟩,⟨by omega,by omega,by omega,by omega,by omega,by simp only[kM];omega⟩,⟨by omega,by omega,by omega,by omega,by omega⟩⟩
theorem zj9 {m:Md} {len:Nat} (h:zbb m+len≤1048576):KM m (1+len*2):=by
 have e:zbb m=(m.rq.length+zq za2 m.rq)+(m.im.length+zq zbi m.im)+(m.ep.length+zq zbj m.ep)+(m.st.length+zq zbZ m.st)+(m.ex.length+zq zcl m.ex):=rfl
 exact⟨by omega,by omega,by omega,by omega,by omega,by omega,by simp only[kM];omega⟩
theorem zh1 {P:Program} {ops:Array Oper} {o:Oper} {a:Act} {W:World} {K:Act→World→Prop} {Q:Exit→Act→World→Prop} {E:Prop} (Z:o.guard=none) (s x:Operand) (t:TypeId)
  (ho:o.op= .call {callee:=.builtin .append,args:=#[s,x],argTypes:=#[t,t]})
  (H:Nat) (e:TypeId) (i:TypeInfo) (z:Value) (size w:Nat) (ht:P.underlying t=some (.slice e)) (hi:P.info? e=some i) (hz:i.zero=some z) (J:i.size=size) (ac:i.bytes=w) (ad:z.cells.size=size) (ab:0<size) (U:w≤100)
  (r:Rw) (n:Nat) (xs:List Value) (hs:a.eval s= .slice r.a n r.cap) (N:OwnR W H e size r n xs)
  (V m c M:Nat) (A:List Value) (hx:a.eval x= .slice (some ⟨V,0,none⟩) m c) (hg:OwnR W M e size ⟨some ⟨V,0,none⟩,c⟩ m A) (h1: ∀u∈A,u.oneCell'=true) (hn:n+m≤1000000) (L:H≤W.heap.size)
  (h: ∀O w',OwnR w' H e size O (n+m) (xs++A)→W.grownBy w' r.blk→(O.blk=r.blk∨O.blk=some W.heap.size)→K (a.put o.dst (.slice O.a (n+m:Nat) O.cap)) w'):
  if Region.wanted o (yielded ops a.tmps)=true then Oper.wp P o a W K Q else E:=by
 have hw:Region.wanted o (yielded ops a.tmps)=true:=by simp[Region.wanted,Z]
 rw[if_pos hw]
 obtain⟨v',w',hr,Y,h3,_,h5⟩:=run_append_own_at (P:=P) W H t o.type e i z size w ht hi hz J ac ad ab _ n xs N ⟨V,0,none⟩ m c A hg.1 (by
  intro j u hj
  have e1:(⟨V,0,none⟩:Addr).add j=⟨V,j,none⟩:=by simp[Addr.add];exact fun h=>h.symm
  have aa:j<A.length:=(List.getElem?_eq_some_iff.1 hj).1
  rw[e1,World.ownsRow.cellAt hg j (by rw[←hg.1];exact aa)]
  exact hj) h1 (by unfold maxLen;omega) (by have:(n+m)*w≤1000000*100:=Nat.mul_le_mul hn U;omega) L
 unfold Oper.wp execOp
 simp only[ho,resolve,invoke,builtin,Sem.run_bind,Sem.run_pure,Result.andThen_ok,List.map_toArray,List.map_cons,List.map_nil,hs,hx,hr]
 rcases Y.2 with ⟨hv,X⟩|⟨g',I,af,rfl,ae⟩
 ·subst hv
  have:=h ⟨none,0⟩ w' (by rw[X] at Y ⊢;exact Y) (by rw[←zb3 r n];exact h3) (by rw[←zb3 r n];exact h5)
  rw[X] at this
  exact this
 ·refine h ⟨some ⟨g',0,none⟩,I⟩ w' Y ?_ ?_
  ·rw[←zb3 r n];exact h3
  ·rw[←zb3 r n,←zb3 ⟨some ⟨g',0,none⟩,I⟩ (n+m)];exact h5
theorem zh2 {P:Program} {ops:Array Oper} {o:Oper} {a:Act} {W:World} {K:Act→World→Prop} {Q:Exit→Act→World→Prop} {E:Prop} (z:o.guard=none) (s x:Operand) (t:TypeId)
  (M:o.op= .call {callee:=.builtin .append,args:=#[s,x],argTypes:=#[t,t]})
  (e:TypeId) (i:TypeInfo) (H:P.underlying t=some (.slice e)) (I:P.info? e=some i) (w size n:Nat)
  (r:Rw) (xs:List Value) (U:a.eval s= .slice r.a n r.cap) (j:OwnR W w e size r n xs) (V:a.eval x= .slice none 0 0)
  (h:K (a.put o.dst (.slice r.a n r.cap)) W):if Region.wanted o (yielded ops a.tmps)=true then Oper.wp P o a W K Q else E:=by
 have L:Region.wanted o (yielded ops a.tmps)=true:=by simp[Region.wanted,z]
 rw[if_pos L]
 have N:(Builtin.append_ #[t,t] o.type #[.slice r.a n r.cap,.slice none 0 0]).run P W= .ok (.slice r.a n r.cap) W:=by
  rcases j.2 with ⟨A,_⟩|⟨g,O,J,A,_,_,X,_⟩
  ·rw[A]
   simp[Builtin.append_,run_underlying H,sizeOf,typeInfo,I,Builtin.lenOf,Builtin.firstCells]
  ·rw[A]
   simp[Builtin.append_,run_underlying H,sizeOf,typeInfo,I,Builtin.lenOf,Builtin.firstCells,loadCells,X,storeCells]
 unfold Oper.wp execOp
 simp only[M,resolve,invoke,builtin,Sem.run_bind,Sem.run_pure,Result.andThen_ok,List.map_toArray,List.map_cons,List.map_nil,U,V,N]
 exact h
theorem Mem.wholeI {C:Cx} {gt M j b:Nat} {S:Sv} {q:PS} {W w' O:World} {I:Rw} (A:Mem C gt M j S q W) (X:W.grownBy w' S.ep.blk) (Z:OwnR w' j 86 4 I (q.ep.length+q.la.length) (q.ep.flatMap epL++q.la.flatMap epL)) (L:I.blk=S.ep.blk∨I.blk=some W.heap.size) (hb:b<W.heap.size) (w: ¬S.has b)
  (V: ∀k,k≠b→O.heap[k]? =w'.heap[k]?):OwnMod O j {S with ep:=I} q:=by
 have H:(q.ep++q.la).length=q.ep.length+q.la.length:=by simp
 have J: ∀(r:Rw) (e:TypeId) (z n:Nat) (U:List Value),OwnR W j e z r n U→e≠86→(∀k,r.blk=some k→S.has k)→OwnR O j e z r n U:=fun r e z n U h he hs=>
  h.keep fun k g=>(V k (fun N=>w (by rw[←N];exact hs k g))).trans (X.block k (h.typed g).2.1 fun Y=>(h.ne A.own.ep he g) Y.symm)
 refine⟨J _ _ _ _ _ A.own.rq (by decide) fun k g=>.inl g,J _ _ _ _ _ A.own.im (by decide) fun k g=>.inr (.inl g),?_,J _ _ _ _ _ A.own.st (by decide) fun k g=>.inr (.inr (.inr (.inl g))),J _ _ _ _ _ A.own.ex (by decide) fun k g=>.inr (.inr (.inr (.inr (.inl g)))),A.inv.rq,A.inv.im,A.inv.ep,A.inv.st,A.inv.ex⟩
 rw[H,List.flatMap_append]
 refine Z.keep fun k g=>V k ?_
 rcases L with e|e
 ·intro N
  exact w (by rw[←N];exact .inr (.inr (.inl (by rw[←e];exact g))))
 ·have:W.heap.size=k:=Option.some.inj (e.symm.trans g)
  omega
theorem Mem.wholeI0 {C:Cx} {U I j b:Nat} {S:Sv} {q:PS} {W L:World} (z:Mem C U I j S q W) (M:q.la=[]) (A: ¬S.has b)
  (V: ∀k,k≠b→L.heap[k]? =W.heap[k]?):OwnMod L j S q:=by
 have H: ∀(r:Rw) (e:TypeId) (w n:Nat) (J:List Value),OwnR W j e w r n J→(∀k,r.blk=some k→S.has k)→OwnR L j e w r n J:=fun r e w n J h O=>
  h.keep fun k g=>V k (fun N=>A (by rw[←N];exact O k g))
 refine⟨H _ _ _ _ _ z.own.rq fun k g=>.inl g,H _ _ _ _ _ z.own.im fun k g=>.inr (.inl g),?_,H _ _ _ _ _ z.own.st fun k g=>.inr (.inr (.inr (.inl g))),H _ _ _ _ _ z.own.ex fun k g=>.inr (.inr (.inr (.inr (.inl g)))),z.inv.rq,z.inv.im,z.inv.ep,z.inv.st,z.inv.ex⟩
 rw[M,List.append_nil]
 exact H _ _ _ _ _ z.own.ep fun k g=>.inr (.inr (.inl g))
end Go.Proofs.YtjdddblpfbmpaaaGreat
