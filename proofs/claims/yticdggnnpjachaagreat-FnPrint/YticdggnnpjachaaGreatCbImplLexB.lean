/-
 What impl.isOneOf,impl.nameEnd,impl.commentEnd,impl.numberToken and impl.quotedToken answer: the walks.
-/
import Derived.Test.YticdggnnpjachaaGreatCbImplLexMath
import Derived.Test.YticdggnnpjachaaGreatCbReadDecImpl
import Derived.Test.YticdggnnpjachaaGreatCbShelf
import Derived.Test.YticdggnnpjachaaGreatCbSpecLex
namespace Go.Proofs.YticdggnnpjachaaGreat
set_option maxHeartbeats 3200000
open Go.RowKit Go.PlainAid
theorem zdK (c:Int) (w:World) (o:0≤c) (n:c≤255):
  Calls Tryz.prog 79 #[.string {data:=#[9,10,13,32]},.int .u8 c] w fun e j=>e= .returned (.bool (zfg c))∧j=w:=by
 have q:Hid (decide (0≤Lib.indexByte [9,10,13,32] c.toNat.toUInt8)=zfg c):=zqG c o n
 go_enter Tryz.func79,Tryz.ntmps79
 go_wp2_with fail
 refine (Tryz.strings_IndexByte _ _ _).mono ?_
 rintro e j ⟨rfl,rfl⟩
 go_wp2
 go_ret
 exact⟨zm q.out,rfl⟩
theorem zke (c:Int) (w:World) (o:0≤c) (n:c≤255):
  Calls Tryz.prog 79 #[.string {data:=#[123,125,40,41,44,59,61,46,42,43,45]},.int .u8 c] w fun e j=>e= .returned (.bool (zfh c))∧j=w:=by
 have q:Hid (decide (0≤Lib.indexByte [123,125,40,41,44,59,61,46,42,43,45] c.toNat.toUInt8)=zfh c):=zqH c o n
 go_enter Tryz.func79,Tryz.ntmps79
 go_wp2_with fail
 refine (Tryz.strings_IndexByte _ _ _).mono ?_
 rintro e j ⟨rfl,rfl⟩
 go_wp2
 go_ret
 exact⟨zm q.out,rfl⟩
theorem zhp (s:ByteArray) (w:World) (h:s.size≤281474976710656):
  Calls Tryz.prog 85 #[.string s] w fun e j=>e= .returned (.string s)∧Below w.heap.size w j:=by
 go_enter Tryz.func85,Tryz.ntmps85
 go_wp2_with fail
 refine (Tryz.stringslite_Clone _ _ h).mono ?_
 rintro e j ⟨rfl,n⟩
 go_wp2
 go_ret
 exact⟨rfl,n⟩
theorem zkf (s:ByteArray) (a:Nat) (o:Bool) (w:World) (N:a≤s.size) (U:s.size≤4294967296):
  Calls Tryz.prog 84 #[.string s,.int .i64 a,.bool o] w fun e K=>∃n:Nat,e= .returned (.int .i64 n)∧zaw (zG o) s a n∧K=w:=by
 have Q:=get_bt s
 go_enter Tryz.func84,Tryz.ntmps84
 go_wp2
 go_loop [1] (fun i=>∃k:Nat,a≤k∧k≤s.size∧i= .int .i64 k∧∀j,a≤j→j<k→zG o (bt s j)=true) (fun i=>(s.size-intOf i).toNat)
 case atStart=>exact⟨a,Nat.le_refl _,N,rfl,fun j V O=>by omega⟩
 case round=>
  obtain⟨k,H,A,rfl,D⟩:=hrel
  have q:Hid (∀j,a≤j→j<k→zG o (bt s j)=true):=D
  clear D
  by_cases I:k<s.size
  ·have z:=bt_nonneg s k
   have E:=bt_le s k
   cases L:zG o (bt s k) with
   |true=>
    have M:Hid (∀j,a≤j→j<k+1→zG o (bt s j)=true):=zeA q.out L
    go_wp2_with (first|(go_at_call 83;refine (zet _ _ _ z E).mono ?_;rintro e K ⟨rfl,rfl⟩))
    go_round
    case rel=>exact⟨k+1,by omega,by omega,by go_num,M.out⟩
    case measure=>simp[intOf];omega
   |false=>
    have J:Hid (zaw (zG o) s a k):=⟨H,A,q.out,fun _=>L⟩
    go_wp2_with (first|(go_at_call 83;refine (zet _ _ _ z E).mono ?_;rintro e K ⟨rfl,rfl⟩))
    go_ret
    exact⟨k,rfl,J.out,rfl⟩
  ·have J:Hid (zaw (zG o) s a k):=⟨H,A,q.out,fun h=>absurd h I⟩
   go_wp2
   go_ret
   exact⟨k,rfl,J.out,rfl⟩
theorem zrd (s:ByteArray) (a:Nat) (w:World) (J:a≤s.size) (M:s.size≤4294967296):
  Calls Tryz.prog 81 #[.string s,.int .i64 a] w fun e z=>∃n:Nat,e= .returned (.int .i64 n)∧zaw zbk s a n∧z=w:=by
 obtain⟨o,j⟩: ∃o,Lib.indexByte (s.extract a s.size).data.toList (10:Int).toNat.toUInt8=o:=⟨_,rfl⟩
 have A:=Lib.indexByte_ge (s.extract a s.size).data.toList (10:Int).toNat.toUInt8
 rw[j] at A
 by_cases H:0≤o
 ·obtain⟨n,E,D,L⟩:=zqI H j
  have I:Hid ((a:Int)+o=n):=E
  have q:Hid (zaw zbk s a n):=D
  have K:(a:Int)+o≤4294967296:=by omega
  clear E D
  go_enter Tryz.func81,Tryz.ntmps81
  go_wp2_with fail
  refine (Tryz.strings_IndexByte _ _ _).mono ?_
  rintro e z ⟨rfl,rfl⟩
  rw[j]
  go_wp2
  go_ret
  exact⟨n,zdM I.out,q.out,rfl⟩
 ·have q:Hid (zaw zbk s a s.size):=zqJ J (by rw[j];exact H)
  go_enter Tryz.func81,Tryz.ntmps81
  go_wp2_with fail
  refine (Tryz.strings_IndexByte _ _ _).mono ?_
  rintro e z ⟨rfl,rfl⟩
  rw[j]
  go_wp2
  go_ret
  exact⟨s.size,rfl,q.out,rfl⟩
def zkg (s:ByteArray) (scr:Bool) (a:Nat) (v:Value) (z:Int):Prop:=
 (∃(t:Tk) (n:Nat),v=tkV t∧z=n∧Tok s scr a t n)∨(z=a∧(∃k x y u,v= .agg #[.int .i64 k,.string x,.int .i64 y,.int .i64 u])∧∀t n,¬Tok s scr a t n)
theorem zre (s:ByteArray) (a:Nat) (j:Bool) (w:World) (I:a<s.size) (Q:zF (bt s a)=true) (O:s.size≤4294967296):
  Calls Tryz.prog 86 #[.string s,.int .i64 a,.bool j] w fun e K=>∃v z,e= .returned (.tuple #[v,.int .i64 z])∧zkg s j a v z∧Below w.heap.size w K:=by
 have q:Hid (zF (bt s a)=true):=Q
 go_enter Tryz.func86,Tryz.ntmps86
 go_wp2_with fail
 refine (zkf _ _ _ _ (by omega) O).mono ?_
 rintro e K ⟨n,rfl,D,rfl⟩
 have H:Hid (zaw (zG j) s a n):=D
 have N:a≤n:=D.1
 have L:n≤s.size:=D.2.1
 clear D
 go_wp2_with fail
 refine (zrc _ _ (by rw[zew _ _ _ L];omega)).mono ?_
 rintro e K ⟨rfl,rfl⟩
 by_cases E:RdP (s.extract a n)
 ·rw[zfe E]
  by_cases J:rdV (s.extract a n)≤1000000
  ·have o:Hid (zaP s a j (rdV (s.extract a n)) n):=zqN I q.out H.out E J
   obtain⟨x,A⟩: ∃x,rdV (s.extract a n)=x:=⟨_,rfl⟩
   rw[A] at J o ⊢
   have M:decide (1000000<x)=false:=decide_eq_false (by omega)
   go_wp2
   refine bodyPost_ret (zaA rfl _ _ w.heap.size 111 _ (0,0) _ rfl (heap_alloc_new w _) Tryz.underlying111 rfl (by kernel_rfl)) rfl ?_
   exact⟨_,_,rfl,.inl ⟨⟨2,{data:=#[]},x,a⟩,n,rfl,rfl,.num q.out o.out⟩,(Below.refl _ _).alloc (Nat.le_refl _) _⟩
  ·have o:Hid (∀t e,¬Tok s j a t e):=zgv q.out (zjZ I q.out H.out (.inr (by omega)))
   obtain⟨x,A⟩: ∃x,rdV (s.extract a n)=x:=⟨_,rfl⟩
   rw[A] at J ⊢
   have M:decide (1000000<x)=true:=decide_eq_true (by omega)
   go_wp2
   refine bodyPost_ret (zaA rfl _ _ w.heap.size 111 _ (0,0) _ rfl (heap_alloc_new w _) Tryz.underlying111 rfl (by kernel_rfl)) rfl ?_
   exact⟨_,_,rfl,.inr ⟨rfl,⟨_,_,_,_,rfl⟩,o.out⟩,(Below.refl _ _).alloc (Nat.le_refl _) _⟩
 ·have o:Hid (∀t e,¬Tok s j a t e):=zgv q.out (zjZ I q.out H.out (.inl E))
  rw[zdi E]
  obtain⟨x,A⟩: ∃x,rdV (s.extract a n)=x:=⟨_,rfl⟩
  rw[A]
  go_wp2
  refine bodyPost_ret (zaA rfl _ _ w.heap.size 111 _ (0,0) _ rfl (heap_alloc_new w _) Tryz.underlying111 rfl (by kernel_rfl)) rfl ?_
  exact⟨_,_,rfl,.inr ⟨rfl,⟨_,_,_,_,rfl⟩,o.out⟩,(Below.refl _ _).alloc (Nat.le_refl _) _⟩
theorem zkh (w:World) (o:Obj):(w.alloc o).heap.size=w.heap.size+1:=by show (w.heap.push _).size=_;simp
theorem zrf {w n:World} {z o q A:Value} {e:TypeId} (h:Below (w.alloc (.cells #[z,o,q,A] e)).heap.size (w.alloc (.cells #[z,o,q,A] e)) n):
  n.cell? ⟨w.heap.size,0,none⟩=some z∧n.cell? ⟨w.heap.size,1,none⟩=some o∧n.cell? ⟨w.heap.size,2,none⟩=some q∧n.cell? ⟨w.heap.size,3,none⟩=some A
  ∧n.frozen? ⟨w.heap.size,0,none⟩=false∧n.frozen? ⟨w.heap.size,1,none⟩=false∧n.frozen? ⟨w.heap.size,2,none⟩=false∧n.frozen? ⟨w.heap.size,3,none⟩=false:=by
 have j:w.heap.size<(w.alloc (.cells #[z,o,q,A] e)).heap.size:=by show _<(w.heap.push _).size;simp
 rw[h.cell j,h.cell j,h.cell j,h.cell j,h.frozen j,h.frozen j,h.frozen j,h.frozen j]
 simp
theorem zfO {w:World} {b i:Nat} {j:Array Value} {u:Value} {t:TypeId} (h:w.heap[b]? =some (.cells j t (0,0))):(w.setCell ⟨b,i,none⟩ u).heap[b]? =some (.cells (j.setIfInBounds i u) t (0,0)):=by
 simp only[World.setCell,Array.getElem?_modify]
 rw[if_pos trivial,h]
 rfl
theorem zki {w:World} {b:Nat} {D z A E o n j q:Value} {t:TypeId} (h:w.heap[b]? =some (.cells #[D,z,A,E] t (0,0))):
  ((((w.setCell ⟨b,0,none⟩ o).setCell ⟨b,1,none⟩ n).setCell ⟨b,2,none⟩ j).setCell ⟨b,3,none⟩ q).heap[b]? =some (.cells #[o,n,j,q] t (0,0)):=
 zfO (zfO (zfO (zfO h)))
theorem zrg (s:ByteArray) (a:Nat) (D:Bool) (w:World) (ha:a<s.size) (Z:bt s a=34) (hs:s.size≤4294967296):
  Calls Tryz.prog 87 #[.string s,.int .i64 a] w fun e N=>∃v z,e= .returned (.tuple #[v,.int .i64 z])∧zkg s D a v z∧Below w.heap.size w N:=by
 have Q:Hid (bt s a=34):=Z
 have hb:=get_bt s
 obtain⟨E,J⟩: ∃E,E=a+1:=⟨_,rfl⟩
 have ea:(a:Int)+1=(E:Int):=by omega
 have X:Hid (E=a+1):=J
 have ag:E≤s.size:=by omega
 clear Z J
 go_enter Tryz.func87,Tryz.ntmps87
 go_wp2
 go_loop [7] (fun i=>∃k:Nat,a<k∧k≤s.size∧i= .int .i64 k∧∀j,a<j→j<k→zbu (bt s j)) (fun i=>(s.size-intOf i).toNat)
 case atStart=>exact⟨E,by omega,by omega,rfl,fun j O h2=>by omega⟩
 case round=>
  obtain⟨k,Y,V,rfl,L⟩:=hrel
  have af:E≤k:=by omega
  have o:Hid (∀j,a<j→j<k→zbu (bt s j)):=L
  clear L
  by_cases ak:k<s.size
  ·have A:=bt_nonneg s k
   have H:=bt_le s k
   cases M:zdH (bt s k) with
   |true=>
    have HX:Hid (∀j,a<j→j<k+1→zbu (bt s j)):=fun j O h2=>by
     by_cases e:j=k
     ·rw[e];exact of_decide_eq_true M
     ·exact o.out j O (by omega)
    go_wp2_with (first|(go_at_call 143;refine (zfM _ _ A H).mono ?_;rintro e N ⟨rfl,rfl⟩))
    go_round
    case rel=>exact⟨k+1,by omega,by omega,by go_num,HX.out⟩
    case measure=>simp[intOf];omega
   |false=>
    have U:Hid (¬zbu (bt s k)):=of_decide_eq_false M
    have q0:((k:Int)==(s.size:Int))=false:=beq_eq_false_iff_ne.2 (by omega)
    by_cases n:bt s k=34
    ·by_cases hl:k≤a+41
     ·have HE:Hid (zbl s a (k+1)):=⟨by omega,by omega,by omega,by rw[Nat.add_sub_cancel];exact n,fun j O h2=>o.out j O (by omega)⟩
      have q1:(bt s k !=34)=false:=by rw[n];rfl
      have q2:decide ((40:Int)<(k:Int)-(E:Int))=false:=decide_eq_false (by omega)
      clear n
      go_wp2_with (first|(go_at_call 85;refine (zhp _ _ (by rw[zew _ _ _ V];omega)).mono ?_;rintro e w1 ⟨rfl,q⟩;have I:=zrf q;obtain⟨aj,ae,ac,ah,ab,aa,ad,ai⟩:=I)|(go_at_call 143;refine (zfM _ _ A H).mono ?_;rintro e N ⟨rfl,rfl⟩))
      refine bodyPost_ret (zaA rfl _ _ w.heap.size 111 _ (0,0) _ rfl (zki ((q.block _ (by rw[zkh];omega)).trans (heap_alloc_new w _))) Tryz.underlying111 rfl (by kernel_rfl)) rfl ?_
      exact⟨_,_,rfl,.inl ⟨⟨3,s.extract (a+1) (k+1-1),0,a⟩,k+1,by rw[X.out];rfl,by omega,.str Q.out HE.out⟩,(((((Below.refl _ _).alloc (Nat.le_refl _) _).trans (q.mono (by rw[zkh];omega))).setCell (Nat.le_refl _) _).setCell (Nat.le_refl _) _).setCell (Nat.le_refl _) _|>.setCell (Nat.le_refl _) _⟩
     ·have K:Hid (∀t e,¬Tok s D a t e):=zfy Q.out (zfw o.out (.inr (by omega)))
      have q1:(bt s k !=34)=false:=by rw[n];rfl
      have q2:decide ((40:Int)<(k:Int)-(E:Int))=true:=decide_eq_true (by omega)
      clear n
      go_wp2_with (first|(go_at_call 143;refine (zfM _ _ A H).mono ?_;rintro e N ⟨rfl,rfl⟩))
      refine bodyPost_ret (zaA rfl _ _ w.heap.size 111 _ (0,0) _ rfl (heap_alloc_new w _) Tryz.underlying111 rfl (by kernel_rfl)) rfl ?_
      exact⟨_,_,rfl,.inr ⟨rfl,⟨_,_,_,_,rfl⟩,K.out⟩,(Below.refl _ _).alloc (Nat.le_refl _) _⟩
    ·have K:Hid (∀t e,¬Tok s D a t e):=zfy Q.out (zfx Y o.out n U.out)
     have q1:(bt s k !=34)=true:=bne_iff_ne.2 n
     clear n
     go_wp2_with (first|(go_at_call 143;refine (zfM _ _ A H).mono ?_;rintro e N ⟨rfl,rfl⟩))
     refine bodyPost_ret (zaA rfl _ _ w.heap.size 111 _ (0,0) _ rfl (heap_alloc_new w _) Tryz.underlying111 rfl (by kernel_rfl)) rfl ?_
     exact⟨_,_,rfl,.inr ⟨rfl,⟨_,_,_,_,rfl⟩,K.out⟩,(Below.refl _ _).alloc (Nat.le_refl _) _⟩
  ·have K:Hid (∀t e,¬Tok s D a t e):=zfy Q.out (zfw o.out (.inl (by omega)))
   have q0:((k:Int)==(s.size:Int))=true:=beq_iff_eq.2 (by omega)
   go_wp2
   refine bodyPost_ret (zaA rfl _ _ w.heap.size 111 _ (0,0) _ rfl (heap_alloc_new w _) Tryz.underlying111 rfl (by kernel_rfl)) rfl ?_
   exact⟨_,_,rfl,.inr ⟨rfl,⟨_,_,_,_,rfl⟩,K.out⟩,(Below.refl _ _).alloc (Nat.le_refl _) _⟩
end Go.Proofs.YticdggnnpjachaaGreat