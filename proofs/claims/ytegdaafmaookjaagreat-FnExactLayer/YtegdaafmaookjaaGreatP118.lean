/- Facts. -/
import Derived.Test.YtegdaafmaookjaaGreatP84
namespace Go.Proofs.YtegdaafmaookjaaGreat
open Nat (le_refl le_trans)
open List (length_cons replicate)
open Go.RowKit Go.PlainAid
def vAt (v:List Nat) (a:Nat):Nat:=v.getD a 0
def rlx (wt:Lk->Nat) (v:List Nat) (l:Lk):List Nat:=v.set l.frm.toNat (max (vAt v l.frm.toNat) (vAt v l.to.toNat+wt l))
def rnd (wt:Lk->Nat) (ls:List Lk) (v:List Nat):List Nat:=ls.foldl (rlx wt) v
def zbg (wt:Lk->Nat) (ls:List Lk):Nat->List Nat->List Nat
 |0,v=>v
 |k+1,v=>rnd wt ls (zbg wt ls k v)
variable (w:Lk->Nat) (W:List Nat) {C:List Nat} {g b:Nat} {S:Lk->Nat} {q:List Lk}
theorem zig (l:Lk):(rlx w W l).length=W.length:=List.length_set ..
theorem zoS (wt:Lk->Nat): ∀(ls:List Lk) (v:List Nat),(rnd wt ls v).length=v.length
 |[],_=>rfl
 |l::ls,v=>(zoS wt ls (rlx wt v l)).trans (zig wt v l)
theorem zfQ (ls:List Lk) (k:Nat) (v:List Nat):(zbg w ls k v).length=v.length:=by
 induction k with
 |zero=>rfl
 |succ k h=>rw[zbg,zoS,h]
theorem zka (h:g<C.length):vAt (C.set g b) g=b:=by
 rw[vAt,List.getD,List.getElem?_set_self h];rfl
theorem zoT {x:Nat} (h:g≠b):vAt (C.set g x) b=vAt C b:=by rw[vAt,vAt,List.getD,List.getD,List.getElem?_set_ne h]
theorem zoU (l:Lk) (b:Nat):vAt W b<=vAt (rlx w W l) b:=by
 by_cases e:l.frm.toNat=b
 ·subst e;by_cases h:l.frm.toNat<W.length
  ·rw[rlx,zka h];exact Nat.le_max_left _ _
  ·rw[rlx,List.set_eq_of_length_le (by omega)];exact le_refl _
 ·rw[rlx,zoT e];exact le_refl _
theorem zkb (wt:Lk->Nat): ∀(ls:List Lk) (v:List Nat) (b:Nat),vAt v b<=vAt (rnd wt ls v) b
 |[],_,_=>le_refl _
 |l::ls,v,b=>le_trans (zoU wt v l b) (zkb wt ls (rlx wt v l) b)
theorem zz7 (ls:List Lk) (v:List Nat) (z:Nat) (h:g<=b):vAt (zbg w ls g v) z<=vAt (zbg w ls b v) z:=by
 induction b with
 |zero=>
  obtain rfl:g=0:=by omega
  exact le_refl _
 |succ b q=>
  by_cases e:g=b+1
  ·rw[e];exact le_refl _
  ·exact le_trans (q (by omega)) (zkb w ls _ z)
theorem zoV (wt:Lk->Nat): ∀(ls:List Lk) (v:List Nat) (l:Lk),l∈ls->l.frm.toNat<v.length->vAt v l.to.toNat+wt l<=vAt (rnd wt ls v) l.frm.toNat
 |[],_,_,h,_=>absurd h (by simp)
 |x::ls,v,l,h,hl=>by
  rcases List.mem_cons.1 h with rfl|h
  ·refine le_trans ?_ (zkb wt ls (rlx wt v l) l.frm.toNat);rw[rlx,zka hl];exact Nat.le_max_right _ _
  ·refine le_trans ?_ (zoV wt ls (rlx wt v x) l h (by rw[zig];exact hl));exact Nat.add_le_add_right (zoU wt v x _) _
def Wy (wt:Lk->Nat) (ls:List Lk):List Nat->Nat->Prop
 |[],_=>False
 |[_],m=>m=0
 |a::b::p,m=>∃l∈ls,l.frm.toNat=a/\l.to.toNat=b/\∃k,m=wt l+k/\Wy wt ls (b::p) k
theorem zoW {wt:Lk->Nat} {ls:List Lk} {n:Nat} {v:List Nat} (w:v.length=n) (q:zdu ls n): ∀(p:List Nat) (a m k:Nat),Wy wt ls (a::p) m->p.length<=k->m<=vAt (zbg wt ls k v) a
 |[],_,m,_,h,_=>by
  have:m=0:=h;omega
 |b::p,a,m,k,h,hk=>by
  obtain⟨l,A,rfl,rfl,j,rfl,H⟩:=h;obtain⟨k,rfl⟩: ∃i,k=i+1:=⟨k-1,by rw[length_cons] at hk;omega⟩;have J:=zoW w q p l.to.toNat j k H (by rw[length_cons] at hk;omega);have I:=zoV wt ls (zbg wt ls k v) l A (by rw[zfQ,w];exact (q l A).1);rw[zbg];omega
def VW (wt:Lk->Nat) (ls:List Lk) (v:List Nat):Prop:=∀a,a<v.length->∃p,Wy wt ls (a::p) (vAt v a)
theorem zoX {l:Lk} (I:l∈q) (J:l.to.toNat<C.length) (h:VW S q C):VW S q (rlx S C l):=by
 intro a w;rw[zig] at w;by_cases e:l.frm.toNat=a
 ·subst e;rw[rlx,zka w];obtain⟨p,A⟩:=h _ w;obtain⟨z,H⟩:=h _ J;rcases Nat.le_total (vAt C l.to.toNat+S l) (vAt C l.frm.toNat) with k|k
  ·rw[Nat.max_eq_left k];exact⟨p,A⟩
  ·rw[Nat.max_eq_right k];exact⟨l.to.toNat::z,l,I,rfl,rfl,_,Nat.add_comm _ _,H⟩
 ·rw[rlx,zoT e];exact h a w
theorem zoY {wt:Lk->Nat} {ls:List Lk} {n:Nat} (q:zdu ls n): ∀(xs:List Lk) (v:List Nat),(∀l∈xs,l∈ls)->v.length=n->VW wt ls v->VW wt ls (rnd wt xs v)
 |[],_,_,_,h=>h
 |l::xs,v,hs,hv,h=>zoY q xs (rlx wt v l) (fun x w=>hs x (List.mem_cons_of_mem _ w)) ((zig wt v l).trans hv) (zoX (hs l (List.mem_cons_self ..)) (by rw[hv];exact (q l (hs l (List.mem_cons_self ..))).2) h)
theorem zkc (z:zdu q g) (k:Nat):VW S q (zbg S q k (replicate g 0)):=by
 induction k with
 |zero=>
  intro a _;refine⟨[],?_⟩;show vAt (replicate g 0) a=0;rw[vAt,List.getD,List.getElem?_replicate]
  split<;>rfl
 |succ k w=>exact zoY z q _ (fun _ h=>h) (by rw[zfQ,List.length_replicate]) w
theorem zkd {wt:Lk->Nat} {ls:List Lk}: ∀(p q:List Nat) (x m:Nat),Wy wt ls (p++x::q) m->∃j k,Wy wt ls (p++[x]) j/\Wy wt ls (x::q) k/\m=j+k
 |[],q,x,m,h=>⟨0,m,rfl,h,(Nat.zero_add m).symm⟩
 |[a],q,x,m,h=>by
  obtain⟨l,A,I,H,k,rfl,w⟩:=h;exact⟨wt l,k,⟨l,A,I,H,0,rfl,rfl⟩,w,rfl⟩
 |a::b::p,q,x,m,h=>by
  obtain⟨l,A,I,H,k,rfl,w⟩:=h;obtain⟨j,i,J,K,rfl⟩:=zkd (b::p) q x k w;exact⟨wt l+j,i,⟨l,A,I,H,j,rfl,J⟩,K,by omega⟩
theorem zoZ {wt:Lk->Nat} {ls:List Lk}: ∀(p q:List Nat) (x j k:Nat),Wy wt ls (p++[x]) j->Wy wt ls (x::q) k->Wy wt ls (p++x::q) (j+k)
 |[],q,x,j,k,h,h'=>by
  have:j=0:=h;subst this;rw[Nat.zero_add];exact h'
 |[a],q,x,j,k,h,h'=>by
  obtain⟨l,H,w,I,i,rfl,A⟩:=h;have:i=0:=A;subst this;exact⟨l,H,w,I,k,by omega,h'⟩
 |a::b::p,q,x,j,k,h,h'=>by
  obtain⟨l,H,w,I,i,rfl,A⟩:=h;exact⟨l,H,w,I,i+k,by omega,zoZ (b::p) q x i k A h'⟩
theorem RchF.comp {c:Nat} (h:RchF q g b) (k:RchF q b c):RchF q g c:=fun S w z=>k S (h S w z) z
theorem zpa {wt:Lk->Nat} {ls:List Lk}: ∀(p:List Nat) (a z m:Nat),Wy wt ls (a::(p++[z])) m->RchF ls a z
 |[],a,z,m,h=>by
  obtain⟨l,q,rfl,rfl,_⟩:=h;exact RchF.link q (RchF.self ls _)
 |b::p,a,z,m,h=>by
  obtain⟨l,q,rfl,rfl,k,_,w⟩:=h;exact (RchF.link q (RchF.self ls _)).comp (zpa p _ z k w)
theorem zpb {wt:Lk->Nat} {ls:List Lk} (A: ∀l∈ls,RchF ls l.to.toNat l.frm.toNat->wt l=0): ∀(p:List Nat) (a z m:Nat),Wy wt ls (a::(p++[z])) m->RchF ls z a->m=0
 |[],a,z,m,h,hr=>by
  obtain⟨l,w,rfl,rfl,k,rfl,q⟩:=h;have H:k=0:=q;rw[A l w hr,H]
 |b::p,a,z,m,h,hr=>by
  obtain⟨l,w,rfl,rfl,k,rfl,q⟩:=h;have J:=A l w ((zpa p _ z k q).comp hr);have I:=zpb A p _ z k q (hr.comp (RchF.link w (RchF.self ls _)));omega
theorem zz8 (h: ¬C.Nodup): ∃p x q r,C=p++x::(q++x::r):=by
 induction C with
 |nil=>exact absurd List.nodup_nil h
 |cons a C A=>
  by_cases w:a∈C
  ·obtain⟨q,r,rfl⟩:=List.append_of_mem w;exact⟨[],a,q,r,rfl⟩
  ·obtain⟨p,x,q,r,rfl⟩:=A fun k=>h (List.nodup_cons.2 ⟨w,k⟩);exact⟨a::p,x,q,r,rfl⟩
theorem zpc {wt:Lk->Nat} {ls:List Lk} {n:Nat} (w:zdu ls n): ∀(p:List Nat) (a m:Nat),a<n->Wy wt ls (a::p) m->∀x∈a::p,x<n
 |[],a,m,ha,_,x,q=>by rw[List.mem_singleton.1 q];exact ha
 |b::p,a,m,ha,h,x,q=>by
  obtain⟨l,H,rfl,rfl,k,_,A⟩:=h;rcases List.mem_cons.1 q with rfl|q
  ·exact ha
  ·exact zpc w p _ k (w l H).2 A x q
theorem zih {wt:Lk->Nat} {ls:List Lk} {n:Nat} (w:zdu ls n) (L: ∀l∈ls,RchF ls l.to.toNat l.frm.toNat->wt l=0): ∀(d:Nat) (p:List Nat) (a m:Nat),p.length<=d->a<n->Wy wt ls (a::p) m->∃q,q.length<n/\Wy wt ls (a::q) m
 |0,p,a,m,hd,ha,h=>⟨p,by omega,h⟩
 |d+1,p,a,m,hd,ha,h=>by
  by_cases M:(a::p).Nodup
  ·refine⟨p,?_,h⟩;have I:=M.length_le_of_subset (l₂:=List.range n) fun x Z=>List.mem_range.2 (zpc w p a m ha h x Z);rw[List.length_range,length_cons] at I;omega
  ·obtain⟨H,x,q,r,A⟩:=zz8 M;rw[A] at h;obtain⟨j,N,V,K,rfl⟩:=zkd H (q++x::r) x m h;obtain⟨i,k,Y,U,X⟩:=zkd (x::q) r x N K;subst X;have h0:i=0:=zpb L q x x i Y (RchF.self ls x);have I:=zoZ H r x j k V U;have O:j+(i+k)=j+k:=by omega
   rw[O];have J:=congrArg List.length A;simp only[length_cons,List.length_append] at J;cases H with
   |nil=>
    have e:a=x:=by rw[List.nil_append,List.cons.injEq] at A;exact A.1
    subst e;exact zih w L d r a (j+k) (by simp only[List.length_nil] at J;omega) ha I
   |cons b H=>
    have e:a=b:=by rw[List.cons_append,List.cons.injEq] at A;exact A.1
    subst e;exact zih w L d (H++x::r) a (j+k) (by rw[List.length_append,length_cons];simp only[length_cons] at J;omega) ha I
theorem zz9 (w:zdu q g) (N: ∀l∈q,RchF q l.to.toNat l.frm.toNat->S l=0) (K:g<=b):zbg S q b (replicate g 0)=zbg S q g (replicate g 0):=by
 have H:=List.length_replicate (n:=g) (a:=0);refine List.ext_getElem (by rw[zfQ,zfQ]) fun a A L=>?_;have M:a<g:=by rw[zfQ,H] at A;exact A
 have e: ∀(v:List Nat) (h:a<v.length),v[a]=vAt v a:=fun v h=>by rw[vAt,List.getD,gE h];rfl
 rw[e _ A,e _ L];refine Nat.le_antisymm ?_ (zz7 S q _ a K);obtain⟨p,J⟩:=zkc w b a A;obtain⟨z,O,I⟩:=zih w N p.length p a _ (le_refl _) M J;exact zoW H w z a _ g I (by omega)
