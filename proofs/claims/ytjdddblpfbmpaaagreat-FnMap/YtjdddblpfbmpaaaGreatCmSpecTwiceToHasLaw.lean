/-
  What spec's l6In and l6Twice answer: the walks.
  What laws.has answers of a row of texts: the walk.
-/
import Derived.Test.YtjdddblpfbmpaaaGreatCmDrawModToTwiceMath
import Derived.Test.YtjdddblpfbmpaaaGreatCmRowBase
namespace Go.Proofs.YtjdddblpfbmpaaaGreat
set_option maxHeartbeats 1600000
open Go.RowKit Go.PlainAid Go.Sort
abbrev zib (w:World) (a:Option Addr) (l:List ByteArray):Prop:=RowAt w a (fun x=>[Value.string x]) 1 l
theorem RowAt.take {α:Type} {f:α→List Value} {m:Nat} {w:World} {a:Option Addr} {l:List α} (h:RowAt w a f m l) (k:Nat):RowAt w a f m (l.take k):=by
 rcases h with rfl|⟨b,A,H,z,I⟩
 ·exact .inl (List.take_nil)
 ·refine .inr ⟨b,A,H,z,fun j x q=>?_⟩
  rw[List.getElem?_take] at q
  split at q
  ·exact I j x q
  ·cases q
theorem zrk (a:Option Addr) (I n:Nat) (l:List ByteArray) (s:ByteArray) (w:World) (V:n=l.length) (O:zib w a l) (hl:n≤1048576):
  Calls Tryz.prog 48 #[.slice a n I,.string s] w fun e w'=>e= .returned (.bool (inL l s))∧w'=w:=by
 have Z:=zc O
 have U:=zc V
 clear O V
 go_enter Tryz.func48,Tryz.ntmps48
 go_wp2
 go_loop [5] (fun i=>∃k:Nat,k≤n∧i= .int .i64 k∧(∀j,j<k→((l.getD j sNone).toList==s.toList)=false)) (fun i=>(n-intOf i).toNat)
 case atStart=>exact⟨0,by omega,rfl,fun j L=>absurd L (Nat.not_lt_zero j)⟩
 case round=>
  obtain⟨k,hk,rfl,A⟩:=hrel
  have H:=zc A
  clear A
  by_cases Y:k<n
  ·have z:k<l.length:=by have:=U.out;omega
   obtain⟨x,J⟩: ∃x,l[k]? =some x:=⟨_,List.getElem?_eq_getElem z⟩
   obtain⟨b,aa,rfl,X⟩:=Z.out.get J
   have q:l.getD k sNone=x:=by simp[List.getD,J]
   have c0:=X 0 _ rfl
   simp only[Nat.add_zero,Nat.mul_one] at c0
   clear X J
   cases N:(x.toList==s.toList) with
   |true=>
    have M:Hid (inL l s=true):=zkE (k:=k) z (by rw[q];exact N)
    clear q z
    go_wp2
    go_ret
    exact⟨zh M.out.symm,rfl⟩
   |false=>
    have HX:Hid (∀j,j<k+1→((l.getD j sNone).toList==s.toList)=false):=fun j L=>by
     by_cases e:j=k
     ·rw[e,q];exact N
     ·exact H.out j (by omega)
    clear q z
    go_wp2
    go_round
    case rel=>exact⟨k+1,by omega,by go_num,HX.out⟩
    case measure=>simp[intOf];omega
  ·have M:Hid (inL l s=false):=zkF fun j L=>H.out j (by have:=U.out;omega)
   go_wp2
   go_ret
   exact⟨zh M.out.symm,rfl⟩
theorem zrl (a:Option Addr) (I n:Nat) (l:List ByteArray) (s:ByteArray) (w:World) (V:n=l.length) (O:zib w a l) (hl:n≤1048576):
  Calls Tryz.prog 26 #[.slice a n I,.string s] w fun e w'=>e= .returned (.bool (inL l s))∧w'=w:=by
 have Z:=zc O
 have U:=zc V
 clear O V
 go_enter Tryz.func26,Tryz.ntmps26
 go_wp2
 go_loop [5] (fun i=>∃k:Nat,k≤n∧i= .int .i64 k∧(∀j,j<k→((l.getD j sNone).toList==s.toList)=false)) (fun i=>(n-intOf i).toNat)
 case atStart=>exact⟨0,by omega,rfl,fun j L=>absurd L (Nat.not_lt_zero j)⟩
 case round=>
  obtain⟨k,hk,rfl,A⟩:=hrel
  have H:=zc A
  clear A
  by_cases Y:k<n
  ·have z:k<l.length:=by have:=U.out;omega
   obtain⟨x,J⟩: ∃x,l[k]? =some x:=⟨_,List.getElem?_eq_getElem z⟩
   obtain⟨b,aa,rfl,X⟩:=Z.out.get J
   have q:l.getD k sNone=x:=by simp[List.getD,J]
   have c0:=X 0 _ rfl
   simp only[Nat.add_zero,Nat.mul_one] at c0
   clear X J
   cases N:(x.toList==s.toList) with
   |true=>
    have M:Hid (inL l s=true):=zkE (k:=k) z (by rw[q];exact N)
    clear q z
    go_wp2
    go_ret
    exact⟨zh M.out.symm,rfl⟩
   |false=>
    have HX:Hid (∀j,j<k+1→((l.getD j sNone).toList==s.toList)=false):=fun j L=>by
     by_cases e:j=k
     ·rw[e,q];exact N
     ·exact H.out j (by omega)
    clear q z
    go_wp2
    go_round
    case rel=>exact⟨k+1,by omega,by go_num,HX.out⟩
    case measure=>simp[intOf];omega
  ·have M:Hid (inL l s=false):=zkF fun j L=>H.out j (by have:=U.out;omega)
   go_wp2
   go_ret
   exact⟨zh M.out.symm,rfl⟩
end Go.Proofs.YtjdddblpfbmpaaaGreat
