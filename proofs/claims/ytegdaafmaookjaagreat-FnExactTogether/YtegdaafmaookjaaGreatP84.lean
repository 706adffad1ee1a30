/- Facts. -/
import Derived.Test.YtegdaafmaookjaaGreatP19
namespace Go.Proofs.YtegdaafmaookjaaGreat
open Go.RowKit Go.PlainAid
def RchF (ls:List Lk) (m j:Nat):Prop:=∀S:Nat->Prop,S m->(∀l∈ls,S l.frm.toNat->S l.to.toNat)->S j
theorem RchF.self (ls:List Lk) (m:Nat):RchF ls m m:=fun _ h _=>h
variable {w:List Lk} {g b:Nat} {W:List Bool}
theorem RchF.link {l:Lk} (C:l∈w) (h:RchF w g l.frm.toNat):RchF w g l.to.toNat:=fun S A q=>q l C (h S A q)
def zas (n m:Nat):List Bool:=(List.replicate n false).set m true
theorem zib (n m:Nat):(zas n m).length=n:=by rw[zas,List.length_set,List.length_replicate]
theorem zjU {j:Nat} (h:(zas g b)[j]? =some true):j=b:=by
 unfold zas at h;rw[List.getElem?_set] at h
 split at h
 ·next e=>exact e.symm
 ·rw[List.getElem?_replicate] at h
  split at h<;>cases h
theorem zic (h:b<g):(zas g b)[b]? =some true:=by
 unfold zas;rw[List.getElem?_set,if_pos rfl,if_pos (by rw[List.length_replicate];exact h)]
theorem zy6 (h:b<g):1<=zF (zas g b):=by
 unfold zF;exact List.count_pos_iff.2 (mG (zic h))
def zdu (ls:List Lk) (n:Nat):Prop:=∀l∈ls,l.frm.toNat<n/\l.to.toNat<n
theorem zid (I:b<g) (C:zdu w g) (j:Nat):(zai w g (zas g b))[j]? =some true↔RchF w b j:=by
 have A:=zib g b;constructor
 ·intro h S M L;exact ziO (S:=S) L g (zas g b) (fun k K=>by rw[zjU K];exact M) j h
 ·intro h;have q:=zgs w g (zas g b);rw[A] at q;have H:zhs w (zai w g (zas g b)):=by
   rcases zly w g (zas g b) with k|k
   ·exact k
   ·have:=zdG (zai w g (zas g b));have:=zy6 I;omega
  exact h (fun j=>(zai w g (zas g b))[j]? =some true) ((ziN w g (zas g b)).2 b (zic I)) fun l J N=>H l J N (by rw[q];exact (C l J).2)
theorem zy7 {c:List Bool} (w:W.length=c.length) (h: ∀j:Nat,W[j]? =some true↔c[j]? =some true):W=c:=zlx ⟨w,fun j q=>(h j).1 q⟩ ⟨w.symm,fun j q=>(h j).2 q⟩
def zdN (a:Nat) (s:List Bool×List Nat) (l:Lk):List Bool×List Nat:=if l.frm=(a:Int)/\s.1.getD l.to.toNat true=false then (s.1.set l.to.toNat true,s.2++[l.to.toNat]) else s
def z0l (ls:List Lk) (a:Nat) (s:List Bool×List Nat):List Bool×List Nat:=ls.foldl (zdN a) s
structure WkP (ls:List Lk) (n m a:Nat) (s:List Bool×List Nat):Prop where
 len:s.1.length=n
 self:s.1[m]? =some true
 at':s.1[a]? =some true
 low: ∀k∈s.2,s.1[k]? =some true
 sound: ∀j:Nat,s.1[j]? =some true->RchF ls m j
 shut: ∀j:Nat,s.1[j]? =some true->j=a∨j∈s.2∨∀l∈ls,l.frm.toNat=j->s.1[l.to.toNat]? =some true
 cnt:s.2.length<=zF s.1
theorem WkP.start (q:b<g):WkP w g b b (zas g b,[]):=
 ⟨zib g b,zic q,zic q,fun k C=>(by cases C),fun j h=>by rw[zjU h];exact .self w b,fun j h=>.inl (zjU h),Nat.zero_le _⟩
structure WkK (ls:List Lk) (n m a:Nat) (s0:List Bool×List Nat) (k:Nat) (s:List Bool×List Nat):Prop where
 wk:WkP ls n m a s
 le:LeB s0.1 s.1
 done: ∀l∈ls.take k,l.frm.toNat=a->s.1[l.to.toNat]? =some true
 meas:s.2.length+zF s0.1=s0.2.length+zF s.1
theorem zov (h:g<W.length):W.getD g true=false↔W[g]? =some false:=by
 rw[List.getD,gE h];simp
theorem WkK.next {ls:List Lk} {n m a k:Nat} {s0 s:List Bool×List Nat} {l:Lk} (U:zdu ls n) (hz: ∀l∈ls,0<=l.frm) (Y:ls[k]? =some l) (h:WkK ls n m a s0 k s):WkK ls n m a s0 (k+1) (zdN a s l):=by
 have V:=mG Y;have aa:=(U l V).2;have K:=h.wk.len;obtain⟨N,O⟩:=gS Y;have Z: ∀x∈ls.take (k+1),x∈ls.take k∨x=l:=fun x w=>by
  rw[tG N] at w;rcases List.mem_append.1 w with w|w
  ·exact .inl w
  ·exact .inr (by rw[<-O];exact List.mem_singleton.1 w)
 by_cases L:l.frm=(a:Int)/\s.1.getD l.to.toNat true=false
 ·have hf:=(zov (by omega)).1 L.2;have X:zdN a s l=(s.1.set l.to.toNat true,s.2++[l.to.toNat]):=if_pos L;have J:=LeB.set s.1 l.to.toNat;have A:(s.1.set l.to.toNat true)[l.to.toNat]? =some true:=by rw[List.getElem?_set,if_pos rfl,if_pos (by omega)]
  have H:l.frm.toNat=a:=by rw[L.1,Int.toNat_natCast]
  rw[X];refine⟨⟨by rw[List.length_set];exact K,J.2 _ h.wk.self,J.2 _ h.wk.at',fun j q=>?_,fun j q=>?_,fun j q=>?_,?_⟩,h.le.trans J,fun x w e=>?_,?_⟩
  ·rcases List.mem_append.1 q with q|q
   ·exact J.2 _ (h.wk.low j q)
   ·rw[List.mem_singleton.1 q];exact A
  ·have q:(s.1.set l.to.toNat true)[j]? =some true:=q;rw[List.getElem?_set] at q
   split at q
   ·next e=>rw[<-e];exact .link V (by rw[H];exact h.wk.sound a h.wk.at')
   ·exact h.wk.sound j q
  ·have q:(s.1.set l.to.toNat true)[j]? =some true:=q;rw[List.getElem?_set] at q
   split at q
   ·next e=>exact .inr (.inl (List.mem_append_right _ (List.mem_singleton.2 e.symm)))
   ·rcases h.wk.shut j q with e|e|e
    ·exact .inl e
    ·exact .inr (.inl (List.mem_append_left _ e))
    ·exact .inr (.inr fun x w M=>J.2 _ (e x w M))
  ·have:=h.wk.cnt;have e:=zgt hf;show (s.2++[l.to.toNat]).length<=zF (s.1.set l.to.toNat true);rw[e,List.length_append,List.length_singleton];omega
  ·rcases Z x w with w|rfl
   ·exact J.2 _ (h.done x w e)
   ·exact A
  ·have:=h.meas;have e:=zgt hf;show (s.2++[l.to.toNat]).length+_=_+zF (s.1.set l.to.toNat true);rw[e,List.length_append,List.length_singleton];omega
 ·have X:zdN a s l=s:=if_neg L;rw[X];refine⟨h.wk,h.le,fun x w e=>?_,h.meas⟩;rcases Z x w with w|rfl
  ·exact h.done x w e
  ·have H:x.frm=(a:Int):=by have:=hz x V;omega
   have I: ¬s.1.getD x.to.toNat true=false:=fun k=>L ⟨H,k⟩;rw[zov (by omega),gE (by omega)] at I;rw[gE (by omega)];cases hb:s.1[x.to.toNat] with
   |true=>rfl
   |false=>rw[hb] at I;exact absurd rfl I
theorem WkK.first {a:Nat} {s:List Bool×List Nat} (h:WkP w g b a s):WkK w g b a s 0 s:=⟨h,.refl _,fun x q=>(by cases q),rfl⟩
theorem WkK.over {a:Nat} {J s:List Bool×List Nat} (A:b<g) (q:zdu w g) (h:WkK w g b a J w.length s) (H:s.2=[]):s.1=zai w g (zas g b):=by
 refine zy7 (by rw[zgs,zib];exact h.wk.len) fun j=>?_;rw[zid A q];refine⟨h.wk.sound j,fun I=>I (fun j=>s.1[j]? =some true) h.wk.self fun l C K=>?_⟩;rcases h.wk.shut _ K with e|e|e
 ·exact h.done l (by rw[List.take_length];exact C) e
 ·rw[H] at e;cases e
 ·exact e l C rfl
theorem WkK.pop {a S:Nat} {K s:List Bool×List Nat} {A:List Nat} (h:WkK w g b a K w.length s) (q:s.2=A++[S]):WkP w g b S (s.1,A):=by
 have L:S∈s.2:=by rw[q];exact List.mem_append_right _ (List.mem_singleton.2 rfl)
 refine⟨h.wk.len,h.wk.self,h.wk.low S L,fun k H=>h.wk.low k (by rw[q];exact List.mem_append_left _ H),h.wk.sound,fun j J=>?_,by have:=h.wk.cnt;rw[q,List.length_append] at this;show A.length<=zF s.1;omega⟩;rcases h.wk.shut j J with e|e|e
 ·exact .inr (.inr fun l I C=>h.done l (by rw[List.take_length];exact I) (C.trans e))
 ·rw[q] at e;rcases List.mem_append.1 e with e|e
  ·exact .inr (.inl e)
  ·exact .inl (List.mem_singleton.1 e)
 ·exact .inr (.inr e)
