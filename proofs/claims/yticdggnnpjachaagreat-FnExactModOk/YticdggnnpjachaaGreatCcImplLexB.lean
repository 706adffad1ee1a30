/-
 What impl.isOneOf,impl.nameEnd,impl.commentEnd,impl.numberToken and impl.quotedToken answer: the walks.
-/
import Derived.Test.YticdggnnpjachaaGreatCcImplLexMath
import Derived.Test.YticdggnnpjachaaGreatCcReadDecImpl
import Derived.Test.YticdggnnpjachaaGreatCcShelf
import Derived.Test.YticdggnnpjachaaGreatCcSpecLex
namespace Go.Proofs.YticdggnnpjachaaGreat
set_option maxHeartbeats 3200000
open Go.RowKit Go.PlainAid
theorem zdw (c:Int) (w:World) (j:0≤c) (o:c≤255):
  Calls Tryz.prog 79 #[.string {data:=#[9,10,13,32]},.int .u8 c] w fun e h=>e= .returned (.bool (ze4 c))∧h=w:=by
 have n:Hid (decide (0≤Lib.indexByte [9,10,13,32] c.toNat.toUInt8)=ze4 c):=znN c j o
 go_enter Tryz.func79,Tryz.ntmps79
 go_wp2_with fail
 refine (Tryz.strings_IndexByte _ _ _).mono ?_
 rintro e h ⟨rfl,rfl⟩
 go_wp2
 go_ret
 exact⟨zl n.out,rfl⟩
theorem ziN (c:Int) (w:World) (j:0≤c) (o:c≤255):
  Calls Tryz.prog 79 #[.string {data:=#[123,125,40,41,44,59,61,46,42,43,45]},.int .u8 c] w fun e h=>e= .returned (.bool (ze5 c))∧h=w:=by
 have n:Hid (decide (0≤Lib.indexByte [123,125,40,41,44,59,61,46,42,43,45] c.toNat.toUInt8)=ze5 c):=znO c j o
 go_enter Tryz.func79,Tryz.ntmps79
 go_wp2_with fail
 refine (Tryz.strings_IndexByte _ _ _).mono ?_
 rintro e h ⟨rfl,rfl⟩
 go_wp2
 go_ret
 exact⟨zl n.out,rfl⟩
theorem zgr (s:ByteArray) (w:World) (h:s.size≤281474976710656):
  Calls Tryz.prog 85 #[.string s] w fun e j=>e= .returned (.string s)∧Below w.heap.size w j:=by
 go_enter Tryz.func85,Tryz.ntmps85
 go_wp2_with fail
 refine (Tryz.stringslite_Clone _ _ h).mono ?_
 rintro e j ⟨rfl,n⟩
 go_wp2
 go_ret
 exact⟨rfl,n⟩
theorem ziO (s:ByteArray) (a:Nat) (o:Bool) (w:World) (M:a≤s.size) (V:s.size≤4294967296):
  Calls Tryz.prog 84 #[.string s,.int .i64 a,.bool o] w fun e I=>∃n:Nat,e= .returned (.int .i64 n)∧zau (zE o) s a n∧I=w:=by
 have O:=get_bt s
 go_enter Tryz.func84,Tryz.ntmps84
 go_wp2
 go_loop [1] (fun i=>∃k:Nat,a≤k∧k≤s.size∧i= .int .i64 k∧∀j,a≤j→j<k→zE o (bt s j)=true) (fun i=>(s.size-intOf i).toNat)
 case atStart=>exact⟨a,Nat.le_refl _,M,rfl,fun j U X=>by omega⟩
 case round=>
  obtain⟨k,A,D,rfl,E⟩:=hrel
  have q:Hid (∀j,a≤j→j<k→zE o (bt s j)=true):=E
  clear E
  by_cases K:k<s.size
  ·have z:=bt_nonneg s k
   have H:=bt_le s k
   cases L:zE o (bt s k) with
   |true=>
    have N:Hid (∀j,a≤j→j<k+1→zE o (bt s j)=true):=zem q.out L
    go_wp2_with (first|(go_at_call 83;refine (zdU _ _ _ z H).mono ?_;rintro e I ⟨rfl,rfl⟩))
    go_round
    case rel=>exact⟨k+1,by omega,by omega,by go_num,N.out⟩
    case measure=>simp[intOf];omega
   |false=>
    have J:Hid (zau (zE o) s a k):=⟨A,D,q.out,fun _=>L⟩
    go_wp2_with (first|(go_at_call 83;refine (zdU _ _ _ z H).mono ?_;rintro e I ⟨rfl,rfl⟩))
    go_ret
    exact⟨k,rfl,J.out,rfl⟩
  ·have J:Hid (zau (zE o) s a k):=⟨A,D,q.out,fun h=>absurd h K⟩
   go_wp2
   go_ret
   exact⟨k,rfl,J.out,rfl⟩
theorem zok (s:ByteArray) (a:Nat) (w:World) (I:a≤s.size) (L:s.size≤4294967296):
  Calls Tryz.prog 81 #[.string s,.int .i64 a] w fun e q=>∃n:Nat,e= .returned (.int .i64 n)∧zau zbb s a n∧q=w:=by
 obtain⟨o,h⟩: ∃o,Lib.indexByte (s.extract a s.size).data.toList (10:Int).toNat.toUInt8=o:=⟨_,rfl⟩
 have j:=Lib.indexByte_ge (s.extract a s.size).data.toList (10:Int).toNat.toUInt8
 rw[h] at j
 by_cases A:0≤o
 ·obtain⟨n,D,E,K⟩:=znP A h
  have H:Hid ((a:Int)+o=n):=D
  have z:Hid (zau zbb s a n):=E
  have J:(a:Int)+o≤4294967296:=by omega
  clear D E
  go_enter Tryz.func81,Tryz.ntmps81
  go_wp2_with fail
  refine (Tryz.strings_IndexByte _ _ _).mono ?_
  rintro e q ⟨rfl,rfl⟩
  rw[h]
  go_wp2
  go_ret
  exact⟨n,zeG H.out,z.out,rfl⟩
 ·have z:Hid (zau zbb s a s.size):=znQ I (by rw[h];exact A)
  go_enter Tryz.func81,Tryz.ntmps81
  go_wp2_with fail
  refine (Tryz.strings_IndexByte _ _ _).mono ?_
  rintro e q ⟨rfl,rfl⟩
  rw[h]
  go_wp2
  go_ret
  exact⟨s.size,rfl,z.out,rfl⟩
def ziP (s:ByteArray) (scr:Bool) (a:Nat) (v:Value) (z:Int):Prop:=
 (∃(t:Tk) (n:Nat),v=tkV t∧z=n∧Tok s scr a t n)∨(z=a∧(∃k x y u,v= .agg #[.int .i64 k,.string x,.int .i64 y,.int .i64 u])∧∀t n,¬Tok s scr a t n)
theorem zol (s:ByteArray) (a:Nat) (h:Bool) (w:World) (I:a<s.size) (L:zD (bt s a)=true) (N:s.size≤4294967296):
  Calls Tryz.prog 86 #[.string s,.int .i64 a,.bool h] w fun e E=>∃v z,e= .returned (.tuple #[v,.int .i64 z])∧ziP s h a v z∧Below w.heap.size w E:=by
 have j:Hid (zD (bt s a)=true):=L
 go_enter Tryz.func86,Tryz.ntmps86
 go_wp2_with fail
 refine (ziO _ _ _ _ (by omega) N).mono ?_
 rintro e E ⟨n,rfl,A,rfl⟩
 have H:Hid (zau (zE h) s a n):=A
 have O:a≤n:=A.1
 have K:n≤s.size:=A.2.1
 clear A
 go_wp2_with fail
 refine (zoj _ _ (by rw[zdX _ _ _ K];omega)).mono ?_
 rintro e E ⟨rfl,rfl⟩
 by_cases D:RdP (s.extract a n)
 ·rw[ze2 D]
  by_cases J:rdV (s.extract a n)≤1000000
  ·have o:Hid (zaJ s a h (rdV (s.extract a n)) n):=znU I j.out H.out D J
   obtain⟨x,q⟩: ∃x,rdV (s.extract a n)=x:=⟨_,rfl⟩
   rw[q] at J o ⊢
   have M:decide (1000000<x)=false:=decide_eq_false (by omega)
   go_wp2
   refine bodyPost_ret (za8 rfl _ _ w.heap.size 111 _ (0,0) _ rfl (heap_alloc_new w _) Tryz.underlying111 rfl (by kernel_rfl)) rfl ?_
   exact⟨_,_,rfl,.inl ⟨⟨2,{data:=#[]},x,a⟩,n,rfl,rfl,.num j.out o.out⟩,(Below.refl _ _).alloc (Nat.le_refl _) _⟩
  ·have o:Hid (∀t e,¬Tok s h a t e):=zfM j.out (ziI I j.out H.out (.inr (by omega)))
   obtain⟨x,q⟩: ∃x,rdV (s.extract a n)=x:=⟨_,rfl⟩
   rw[q] at J ⊢
   have M:decide (1000000<x)=true:=decide_eq_true (by omega)
   go_wp2
   refine bodyPost_ret (za8 rfl _ _ w.heap.size 111 _ (0,0) _ rfl (heap_alloc_new w _) Tryz.underlying111 rfl (by kernel_rfl)) rfl ?_
   exact⟨_,_,rfl,.inr ⟨rfl,⟨_,_,_,_,rfl⟩,o.out⟩,(Below.refl _ _).alloc (Nat.le_refl _) _⟩
 ·have o:Hid (∀t e,¬Tok s h a t e):=zfM j.out (ziI I j.out H.out (.inl D))
  rw[zcP D]
  obtain⟨x,q⟩: ∃x,rdV (s.extract a n)=x:=⟨_,rfl⟩
  rw[q]
  go_wp2
  refine bodyPost_ret (za8 rfl _ _ w.heap.size 111 _ (0,0) _ rfl (heap_alloc_new w _) Tryz.underlying111 rfl (by kernel_rfl)) rfl ?_
  exact⟨_,_,rfl,.inr ⟨rfl,⟨_,_,_,_,rfl⟩,o.out⟩,(Below.refl _ _).alloc (Nat.le_refl _) _⟩
theorem ziQ (w:World) (o:Obj):(w.alloc o).heap.size=w.heap.size+1:=by show (w.heap.push _).size=_;simp
theorem zom {w n:World} {z A o q:Value} {e:TypeId} (h:Below (w.alloc (.cells #[z,A,o,q] e)).heap.size (w.alloc (.cells #[z,A,o,q] e)) n):
  n.cell? ⟨w.heap.size,0,none⟩=some z∧n.cell? ⟨w.heap.size,1,none⟩=some A∧n.cell? ⟨w.heap.size,2,none⟩=some o∧n.cell? ⟨w.heap.size,3,none⟩=some q
  ∧n.frozen? ⟨w.heap.size,0,none⟩=false∧n.frozen? ⟨w.heap.size,1,none⟩=false∧n.frozen? ⟨w.heap.size,2,none⟩=false∧n.frozen? ⟨w.heap.size,3,none⟩=false:=by
 have j:w.heap.size<(w.alloc (.cells #[z,A,o,q] e)).heap.size:=by show _<(w.heap.push _).size;simp
 rw[h.cell j,h.cell j,h.cell j,h.cell j,h.frozen j,h.frozen j,h.frozen j,h.frozen j]
 simp
theorem zfu {w:World} {b i:Nat} {j:Array Value} {u:Value} {t:TypeId} (h:w.heap[b]? =some (.cells j t (0,0))):(w.setCell ⟨b,i,none⟩ u).heap[b]? =some (.cells (j.setIfInBounds i u) t (0,0)):=by
 simp only[World.setCell,Array.getElem?_modify]
 rw[if_pos trivial,h]
 rfl
theorem ziR {w:World} {b:Nat} {D E z A q n j o:Value} {t:TypeId} (h:w.heap[b]? =some (.cells #[D,E,z,A] t (0,0))):
  ((((w.setCell ⟨b,0,none⟩ q).setCell ⟨b,1,none⟩ n).setCell ⟨b,2,none⟩ j).setCell ⟨b,3,none⟩ o).heap[b]? =some (.cells #[q,n,j,o] t (0,0)):=
 zfu (zfu (zfu (zfu h)))
theorem zon (s:ByteArray) (a:Nat) (E:Bool) (w:World) (ha:a<s.size) (Z:bt s a=34) (hs:s.size≤4294967296):
  Calls Tryz.prog 87 #[.string s,.int .i64 a] w fun e K=>∃v z,e= .returned (.tuple #[v,.int .i64 z])∧ziP s E a v z∧Below w.heap.size w K:=by
 have N:Hid (bt s a=34):=Z
 have hb:=get_bt s
 obtain⟨A,L⟩: ∃A,A=a+1:=⟨_,rfl⟩
 have ea:(a:Int)+1=(A:Int):=by omega
 have X:Hid (A=a+1):=L
 have ah:A≤s.size:=by omega
 clear Z L
 go_enter Tryz.func87,Tryz.ntmps87
 go_wp2
 go_loop [7] (fun i=>∃k:Nat,a<k∧k≤s.size∧i= .int .i64 k∧∀j,a<j→j<k→zbn (bt s j)) (fun i=>(s.size-intOf i).toNat)
 case atStart=>exact⟨A,by omega,by omega,rfl,fun j O h2=>by omega⟩
 case round=>
  obtain⟨k,U,Y,rfl,M⟩:=hrel
  have ak:A≤k:=by omega
  have n:Hid (∀j,a<j→j<k→zbn (bt s j)):=M
  clear M
  by_cases aj:k<s.size
  ·have q:=bt_nonneg s k
   have D:=bt_le s k
   cases I:zdt (bt s k) with
   |true=>
    have HX:Hid (∀j,a<j→j<k+1→zbn (bt s j)):=fun j O h2=>by
     by_cases e:j=k
     ·rw[e];exact of_decide_eq_true I
     ·exact n.out j O (by omega)
    go_wp2_with (first|(go_at_call 143;refine (zfs _ _ q D).mono ?_;rintro e K ⟨rfl,rfl⟩))
    go_round
    case rel=>exact⟨k+1,by omega,by omega,by go_num,HX.out⟩
    case measure=>simp[intOf];omega
   |false=>
    have V:Hid (¬zbn (bt s k)):=of_decide_eq_false I
    have q0:((k:Int)==(s.size:Int))=false:=beq_eq_false_iff_ne.2 (by omega)
    by_cases h:bt s k=34
    ·by_cases hl:k≤a+41
     ·have HE:Hid (zbc s a (k+1)):=⟨by omega,by omega,by omega,by rw[Nat.add_sub_cancel];exact h,fun j O h2=>n.out j O (by omega)⟩
      have q1:(bt s k !=34)=false:=by rw[h];rfl
      have q2:decide ((40:Int)<(k:Int)-(A:Int))=false:=decide_eq_false (by omega)
      clear h
      go_wp2_with (first|(go_at_call 85;refine (zgr _ _ (by rw[zdX _ _ _ Y];omega)).mono ?_;rintro e w1 ⟨rfl,o⟩;have H:=zom o;obtain⟨aa,ab,ai,ae,af,ac,ag,ad⟩:=H)|(go_at_call 143;refine (zfs _ _ q D).mono ?_;rintro e K ⟨rfl,rfl⟩))
      refine bodyPost_ret (za8 rfl _ _ w.heap.size 111 _ (0,0) _ rfl (ziR ((o.block _ (by rw[ziQ];omega)).trans (heap_alloc_new w _))) Tryz.underlying111 rfl (by kernel_rfl)) rfl ?_
      exact⟨_,_,rfl,.inl ⟨⟨3,s.extract (a+1) (k+1-1),0,a⟩,k+1,by rw[X.out];rfl,by omega,.str N.out HE.out⟩,(((((Below.refl _ _).alloc (Nat.le_refl _) _).trans (o.mono (by rw[ziQ];omega))).setCell (Nat.le_refl _) _).setCell (Nat.le_refl _) _).setCell (Nat.le_refl _) _|>.setCell (Nat.le_refl _) _⟩
     ·have J:Hid (∀t e,¬Tok s E a t e):=zeU N.out (zeS n.out (.inr (by omega)))
      have q1:(bt s k !=34)=false:=by rw[h];rfl
      have q2:decide ((40:Int)<(k:Int)-(A:Int))=true:=decide_eq_true (by omega)
      clear h
      go_wp2_with (first|(go_at_call 143;refine (zfs _ _ q D).mono ?_;rintro e K ⟨rfl,rfl⟩))
      refine bodyPost_ret (za8 rfl _ _ w.heap.size 111 _ (0,0) _ rfl (heap_alloc_new w _) Tryz.underlying111 rfl (by kernel_rfl)) rfl ?_
      exact⟨_,_,rfl,.inr ⟨rfl,⟨_,_,_,_,rfl⟩,J.out⟩,(Below.refl _ _).alloc (Nat.le_refl _) _⟩
    ·have J:Hid (∀t e,¬Tok s E a t e):=zeU N.out (zeT U n.out h V.out)
     have q1:(bt s k !=34)=true:=bne_iff_ne.2 h
     clear h
     go_wp2_with (first|(go_at_call 143;refine (zfs _ _ q D).mono ?_;rintro e K ⟨rfl,rfl⟩))
     refine bodyPost_ret (za8 rfl _ _ w.heap.size 111 _ (0,0) _ rfl (heap_alloc_new w _) Tryz.underlying111 rfl (by kernel_rfl)) rfl ?_
     exact⟨_,_,rfl,.inr ⟨rfl,⟨_,_,_,_,rfl⟩,J.out⟩,(Below.refl _ _).alloc (Nat.le_refl _) _⟩
  ·have J:Hid (∀t e,¬Tok s E a t e):=zeU N.out (zeS n.out (.inl (by omega)))
   have q0:((k:Int)==(s.size:Int))=true:=beq_iff_eq.2 (by omega)
   go_wp2
   refine bodyPost_ret (za8 rfl _ _ w.heap.size 111 _ (0,0) _ rfl (heap_alloc_new w _) Tryz.underlying111 rfl (by kernel_rfl)) rfl ?_
   exact⟨_,_,rfl,.inr ⟨rfl,⟨_,_,_,_,rfl⟩,J.out⟩,(Below.refl _ _).alloc (Nat.le_refl _) _⟩
end Go.Proofs.YticdggnnpjachaaGreat