/-
 'append' of a row onto a row of the call's own,as one step of a region that draws its order; a program handed back. No program is spoken of but for the numbers of its types.
-/
import Derived.Test.YtjdddblpfbmpaaaGreatCmImplParseEToImplParseG
namespace Go.Proofs.YtjdddblpfbmpaaaGreat
open Go.RowKit Go.PlainAid
theorem zic {P:Program} {ops:Array Oper} {o:Oper} {a:Act} {W:World} {K:Act→World→Prop} {Q:Exit→Act→World→Prop} {E:Prop} (Z:o.guard=none) (s x:Operand) (t:TypeId)
  (ho:o.op= .call {callee:=.builtin .append,args:=#[s,x],argTypes:=#[t,t]})
  (H:Nat) (e:TypeId) (i:TypeInfo) (z:Value) (size q:Nat) (ht:P.underlying t=some (.slice e)) (hi:P.info? e=some i) (hz:i.zero=some z) (J:i.size=size) (ac:i.bytes=q) (ad:z.cells.size=size) (ab:0<size) (U:q≤100)
  (r:Rw) (n:Nat) (xs:List Value) (hs:a.eval s= .slice r.a n r.cap) (N:OwnR W H e size r n xs)
  (V m c M:Nat) (A:List Value) (hx:a.eval x= .slice (some ⟨V,0,none⟩) m c) (hg:OwnR W M e size ⟨some ⟨V,0,none⟩,c⟩ m A) (h1: ∀u∈A,u.oneCell'=true) (hn:n+m≤4000000) (L:H≤W.heap.size)
  (h: ∀O w',OwnR w' H e size O (n+m) (xs++A)→W.grownBy w' r.blk→(O.blk=r.blk∨O.blk=some W.heap.size)→K (a.put o.dst (.slice O.a (n+m:Nat) O.cap)) w'):
  if Region.wanted o (yielded ops a.tmps)=true then Oper.wp P o a W K Q else E:=by
 have hw:Region.wanted o (yielded ops a.tmps)=true:=by simp[Region.wanted,Z]
 rw[if_pos hw]
 obtain⟨v',w',hr,Y,h3,_,h5⟩:=run_append_own_at (P:=P) W H t o.type e i z size q ht hi hz J ac ad ab _ n xs N ⟨V,0,none⟩ m c A hg.1 (by
  intro j u hj
  have e1:(⟨V,0,none⟩:Addr).add j=⟨V,j,none⟩:=by simp[Addr.add];exact fun h=>h.symm
  have aa:j<A.length:=(List.getElem?_eq_some_iff.1 hj).1
  rw[e1,World.ownsRow.cellAt hg j (by rw[←hg.1];exact aa)]
  exact hj) h1 (by unfold maxLen;omega) (by have:(n+m)*q≤4000000*100:=Nat.mul_le_mul hn U;omega) L
 unfold Oper.wp execOp
 simp only[ho,resolve,invoke,builtin,Sem.run_bind,Sem.run_pure,Result.andThen_ok,List.map_toArray,List.map_cons,List.map_nil,hs,hx,hr]
 rcases Y.2 with ⟨hv,X⟩|⟨g',I,af,rfl,ae⟩
 ·subst hv
  have:=h ⟨none,0⟩ w' (by rw[X] at Y ⊢;exact Y) (by rw[←zb4 r n];exact h3) (by rw[←zb4 r n];exact h5)
  rw[X] at this
  exact this
 ·refine h ⟨some ⟨g',0,none⟩,I⟩ w' Y ?_ ?_
  ·rw[←zb4 r n];exact h3
  ·rw[←zb4 r n,←zb4 ⟨some ⟨g',0,none⟩,I⟩ (n+m)];exact h5
theorem zid {P:Program} {ops:Array Oper} {o:Oper} {a:Act} {W:World} {K:Act→World→Prop} {Q:Exit→Act→World→Prop} {E:Prop} (z:o.guard=none) (s x:Operand) (t:TypeId)
  (M:o.op= .call {callee:=.builtin .append,args:=#[s,x],argTypes:=#[t,t]})
  (e:TypeId) (i:TypeInfo) (H:P.underlying t=some (.slice e)) (I:P.info? e=some i) (q size n:Nat)
  (r:Rw) (xs:List Value) (U:a.eval s= .slice r.a n r.cap) (j:OwnR W q e size r n xs) (V:a.eval x= .slice none 0 0)
  (h:K (a.put o.dst (.slice r.a n r.cap)) W):if Region.wanted o (yielded ops a.tmps)=true then Oper.wp P o a W K Q else E:=by
 have L:Region.wanted o (yielded ops a.tmps)=true:=by simp[Region.wanted,z]
 rw[if_pos L]
 have N:(Builtin.append_ #[t,t] o.type #[.slice r.a n r.cap,.slice none 0 0]).run P W= .ok (.slice r.a n r.cap) W:=by
  rcases j.2 with ⟨A,_⟩|⟨g,O,J,A,_,_,X,_⟩
  ·rw[A]
   simp[Builtin.append_,run_underlying H,sizeOf,typeInfo,I,Builtin.lenOf,Builtin.firstCells]
  ·rw[A]
   simp[Builtin.append_,run_underlying H,sizeOf,typeInfo,I,Builtin.lenOf,Builtin.firstCells,loadCells,X,storeCells]
 unfold Oper.wp execOp
 simp only[M,resolve,invoke,builtin,Sem.run_bind,Sem.run_pure,Result.andThen_ok,List.map_toArray,List.map_cons,List.map_nil,U,V,N]
 exact h
theorem Mem.wholeI {C:Cx} {gt N j b:Nat} {S:Sv} {q:PS} {W w' U:World} {J:Rw} (H:Mem C gt N j S q W) (Y:W.grownBy w' S.ep.blk) (hr:OwnR w' j 86 4 J (q.ep.length+q.la.length) (q.ep.flatMap epL++q.la.flatMap epL)) (M:J.blk=S.ep.blk∨J.blk=some W.heap.size) (hb:b<W.heap.size) (z: ¬S.has b)
  (X: ∀k,k≠b→U.heap[k]? =w'.heap[k]?):OwnMod U j {S with ep:=J} q:=by
 have I:(q.ep++q.la).length=q.ep.length+q.la.length:=by simp
 have L: ∀(r:Rw) (e:TypeId) (A n:Nat) (V:List Value),OwnR W j e A r n V→e≠86→(∀k,r.blk=some k→S.has k)→OwnR U j e A r n V:=fun r e A n V h he hs=>
  h.keep fun k g=>(X k (fun O=>z (by rw[←O];exact hs k g))).trans (Y.block k (h.typed g).2.1 fun Z=>(h.ne H.own.ep he g) Z.symm)
 refine⟨L _ _ _ _ _ H.own.rq (by decide) fun k g=>.inl g,L _ _ _ _ _ H.own.im (by decide) fun k g=>.inr (.inl g),?_,L _ _ _ _ _ H.own.st (by decide) fun k g=>.inr (.inr (.inr (.inl g))),L _ _ _ _ _ H.own.ex (by decide) fun k g=>.inr (.inr (.inr (.inr (.inl g)))),H.inv.rq,H.inv.im,H.inv.ep,H.inv.st,H.inv.ex⟩
 rw[I,List.flatMap_append]
 refine hr.keep fun k g=>X k ?_
 rcases M with e|e
 ·intro O
  exact z (by rw[←O];exact .inr (.inr (.inl (by rw[←e];exact g))))
 ·have:W.heap.size=k:=Option.some.inj (e.symm.trans g)
  omega
theorem Mem.wholeI0 {C:Cx} {V J j b:Nat} {S:Sv} {q:PS} {W M:World} (A:Mem C V J j S q W) (N:q.la=[]) (H: ¬S.has b)
  (X: ∀k,k≠b→M.heap[k]? =W.heap[k]?):OwnMod M j S q:=by
 have I: ∀(r:Rw) (e:TypeId) (z n:Nat) (L:List Value),OwnR W j e z r n L→(∀k,r.blk=some k→S.has k)→OwnR M j e z r n L:=fun r e z n L h U=>
  h.keep fun k g=>X k (fun O=>H (by rw[←O];exact U k g))
 refine⟨I _ _ _ _ _ A.own.rq fun k g=>.inl g,I _ _ _ _ _ A.own.im fun k g=>.inr (.inl g),?_,I _ _ _ _ _ A.own.st fun k g=>.inr (.inr (.inr (.inl g))),I _ _ _ _ _ A.own.ex fun k g=>.inr (.inr (.inr (.inr (.inl g)))),A.inv.rq,A.inv.im,A.inv.ep,A.inv.st,A.inv.ex⟩
 rw[N,List.append_nil]
 exact I _ _ _ _ _ A.own.ep fun k g=>.inr (.inr (.inl g))
end Go.Proofs.YtjdddblpfbmpaaaGreat