/-
 What impl.isOneOf,impl.nameEnd,impl.commentEnd,impl.numberToken and impl.quotedToken answer: the walks.
-/
import Derived.Test.YtjdddblpfbmpaaaGreatCoImplLexMathToReadDecImpl
import Derived.Test.YtjdddblpfbmpaaaGreatCoShelf
import Derived.Test.YtjdddblpfbmpaaaGreatCoSpecLex
namespace Go.Proofs.YtjdddblpfbmpaaaGreat
set_option maxHeartbeats 3200000
open Go.RowKit Go.PlainAid
theorem zdu (c:Int) (w:World) (q:0≤c) (j:c≤255):
  Calls Tryz.prog 156 #[.string {data:=#[9,10,13,32]},.int .u8 c] w fun e h=>e= .returned (.bool (ze1 c))∧h=w:=by
 have n:Hid (decide (0≤Lib.indexByte [9,10,13,32] c.toNat.toUInt8)=ze1 c):=znX c q j
 go_enter Tryz.func156,Tryz.ntmps156
 go_wp2_with fail
 refine (Tryz.strings_IndexByte _ _ _).mono ?_
 rintro e h ⟨rfl,rfl⟩
 go_wp2
 go_ret
 exact⟨zl n.out,rfl⟩
theorem ziQ (c:Int) (w:World) (q:0≤c) (j:c≤255):
  Calls Tryz.prog 156 #[.string {data:=#[123,125,40,41,44,59,61,46,42,43,45]},.int .u8 c] w fun e h=>e= .returned (.bool (ze2 c))∧h=w:=by
 have n:Hid (decide (0≤Lib.indexByte [123,125,40,41,44,59,61,46,42,43,45] c.toNat.toUInt8)=ze2 c):=znY c q j
 go_enter Tryz.func156,Tryz.ntmps156
 go_wp2_with fail
 refine (Tryz.strings_IndexByte _ _ _).mono ?_
 rintro e h ⟨rfl,rfl⟩
 go_wp2
 go_ret
 exact⟨zl n.out,rfl⟩
theorem zgo (s:ByteArray) (w:World) (h:s.size≤281474976710656):
  Calls Tryz.prog 68 #[.string s] w fun e j=>e= .returned (.string s)∧Below w.heap.size w j:=by
 go_enter Tryz.func68,Tryz.ntmps68
 go_wp2_with fail
 refine (Tryz.stringslite_Clone _ _ h).mono ?_
 rintro e j ⟨rfl,n⟩
 go_wp2
 go_ret
 exact⟨rfl,n⟩
theorem ziR (s:ByteArray) (a:Nat) (q:Bool) (w:World) (N:a≤s.size) (Y:s.size≤4294967296):
  Calls Tryz.prog 160 #[.string s,.int .i64 a,.bool q] w fun e K=>∃n:Nat,e= .returned (.int .i64 n)∧zas (zE q) s a n∧K=w:=by
 have X:=get_bt s
 go_enter Tryz.func160,Tryz.ntmps160
 go_wp2
 go_loop [1] (fun i=>∃k:Nat,a≤k∧k≤s.size∧i= .int .i64 k∧∀j,a≤j→j<k→zE q (bt s j)=true) (fun i=>(s.size-intOf i).toNat)
 case atStart=>exact⟨a,Nat.le_refl _,N,rfl,fun j V U=>by omega⟩
 case round=>
  obtain⟨k,H,E,rfl,A⟩:=hrel
  have z:Hid (∀j,a≤j→j<k→zE q (bt s j)=true):=A
  clear A
  by_cases J:k<s.size
  ·have D:=bt_nonneg s k
   have I:=bt_le s k
   cases M:zE q (bt s k) with
   |true=>
    have O:Hid (∀j,a≤j→j<k+1→zE q (bt s j)=true):=zej z.out M
    go_wp2_with (first|(go_at_call 159;refine (zdR _ _ _ D I).mono ?_;rintro e K ⟨rfl,rfl⟩))
    go_round
    case rel=>exact⟨k+1,by omega,by omega,by go_num,O.out⟩
    case measure=>simp[intOf];omega
   |false=>
    have L:Hid (zas (zE q) s a k):=⟨H,E,z.out,fun _=>M⟩
    go_wp2_with (first|(go_at_call 159;refine (zdR _ _ _ D I).mono ?_;rintro e K ⟨rfl,rfl⟩))
    go_ret
    exact⟨k,rfl,L.out,rfl⟩
  ·have L:Hid (zas (zE q) s a k):=⟨H,E,z.out,fun h=>absurd h J⟩
   go_wp2
   go_ret
   exact⟨k,rfl,L.out,rfl⟩
theorem zou (s:ByteArray) (a:Nat) (w:World) (I:a≤s.size) (L:s.size≤4294967296):
  Calls Tryz.prog 157 #[.string s,.int .i64 a] w fun e q=>∃n:Nat,e= .returned (.int .i64 n)∧zas zaZ s a n∧q=w:=by
 obtain⟨o,h⟩: ∃o,Lib.indexByte (s.extract a s.size).data.toList (10:Int).toNat.toUInt8=o:=⟨_,rfl⟩
 have j:=Lib.indexByte_ge (s.extract a s.size).data.toList (10:Int).toNat.toUInt8
 rw[h] at j
 by_cases D:0≤o
 ·obtain⟨n,E,A,H⟩:=znZ D h
  have J:Hid ((a:Int)+o=n):=E
  have z:Hid (zas zaZ s a n):=A
  have K:(a:Int)+o≤4294967296:=by omega
  clear E A
  go_enter Tryz.func157,Tryz.ntmps157
  go_wp2_with fail
  refine (Tryz.strings_IndexByte _ _ _).mono ?_
  rintro e q ⟨rfl,rfl⟩
  rw[h]
  go_wp2
  go_ret
  exact⟨n,zeD J.out,z.out,rfl⟩
 ·have z:Hid (zas zaZ s a s.size):=zoa I (by rw[h];exact D)
  go_enter Tryz.func157,Tryz.ntmps157
  go_wp2_with fail
  refine (Tryz.strings_IndexByte _ _ _).mono ?_
  rintro e q ⟨rfl,rfl⟩
  rw[h]
  go_wp2
  go_ret
  exact⟨s.size,rfl,z.out,rfl⟩
def ziS (s:ByteArray) (scr:Bool) (a:Nat) (v:Value) (z:Int):Prop:=
 (∃(t:Tk) (n:Nat),v=tkV t∧z=n∧Tok s scr a t n)∨(z=a∧(∃k x y u,v= .agg #[.int .i64 k,.string x,.int .i64 y,.int .i64 u])∧∀t n,¬Tok s scr a t n)
theorem zov (s:ByteArray) (a:Nat) (h:Bool) (w:World) (J:a<s.size) (M:zD (bt s a)=true) (O:s.size≤4294967296):
  Calls Tryz.prog 161 #[.string s,.int .i64 a,.bool h] w fun e H=>∃v z,e= .returned (.tuple #[v,.int .i64 z])∧ziS s h a v z∧Below w.heap.size w H:=by
 have q:Hid (zD (bt s a)=true):=M
 go_enter Tryz.func161,Tryz.ntmps161
 go_wp2_with fail
 refine (ziR _ _ _ _ (by omega) O).mono ?_
 rintro e H ⟨n,rfl,E,rfl⟩
 have K:Hid (zas (zE h) s a n):=E
 have U:a≤n:=E.1
 have L:n≤s.size:=E.2.1
 clear E
 go_wp2_with fail
 refine (zot _ _ (by rw[zdU _ _ _ L];omega)).mono ?_
 rintro e H ⟨rfl,rfl⟩
 by_cases D:RdP (s.extract a n)
 ·rw[zez D]
  by_cases I:rdV (s.extract a n)≤1000000
  ·have j:Hid (zaG s a h (rdV (s.extract a n)) n):=zoe J q.out K.out D I
   obtain⟨x,A⟩: ∃x,rdV (s.extract a n)=x:=⟨_,rfl⟩
   rw[A] at I j ⊢
   have N:decide (1000000<x)=false:=decide_eq_false (by omega)
   go_wp2
   refine bodyPost_ret (zay rfl _ _ w.heap.size 143 _ (0,0) _ rfl (heap_alloc_new w _) Tryz.underlying143 rfl (by kernel_rfl)) rfl ?_
   exact⟨_,_,rfl,.inl ⟨⟨2,{data:=#[]},x,a⟩,n,rfl,rfl,.num q.out j.out⟩,(Below.refl _ _).alloc (Nat.le_refl _) _⟩
  ·have j:Hid (∀t e,¬Tok s h a t e):=zfJ q.out (ziL J q.out K.out (.inr (by omega)))
   obtain⟨x,A⟩: ∃x,rdV (s.extract a n)=x:=⟨_,rfl⟩
   rw[A] at I ⊢
   have N:decide (1000000<x)=true:=decide_eq_true (by omega)
   go_wp2
   refine bodyPost_ret (zay rfl _ _ w.heap.size 143 _ (0,0) _ rfl (heap_alloc_new w _) Tryz.underlying143 rfl (by kernel_rfl)) rfl ?_
   exact⟨_,_,rfl,.inr ⟨rfl,⟨_,_,_,_,rfl⟩,j.out⟩,(Below.refl _ _).alloc (Nat.le_refl _) _⟩
 ·have j:Hid (∀t e,¬Tok s h a t e):=zfJ q.out (ziL J q.out K.out (.inl D))
  rw[zcO D]
  obtain⟨x,A⟩: ∃x,rdV (s.extract a n)=x:=⟨_,rfl⟩
  rw[A]
  go_wp2
  refine bodyPost_ret (zay rfl _ _ w.heap.size 143 _ (0,0) _ rfl (heap_alloc_new w _) Tryz.underlying143 rfl (by kernel_rfl)) rfl ?_
  exact⟨_,_,rfl,.inr ⟨rfl,⟨_,_,_,_,rfl⟩,j.out⟩,(Below.refl _ _).alloc (Nat.le_refl _) _⟩
theorem ziT (w:World) (o:Obj):(w.alloc o).heap.size=w.heap.size+1:=by show (w.heap.push _).size=_;simp
theorem zow {w n:World} {v0 v1 v2 v3:Value} {e:TypeId} (h:Below (w.alloc (.cells #[v0,v1,v2,v3] e)).heap.size (w.alloc (.cells #[v0,v1,v2,v3] e)) n):
  n.cell? ⟨w.heap.size,0,none⟩=some v0∧n.cell? ⟨w.heap.size,1,none⟩=some v1∧n.cell? ⟨w.heap.size,2,none⟩=some v2∧n.cell? ⟨w.heap.size,3,none⟩=some v3
  ∧n.frozen? ⟨w.heap.size,0,none⟩=false∧n.frozen? ⟨w.heap.size,1,none⟩=false∧n.frozen? ⟨w.heap.size,2,none⟩=false∧n.frozen? ⟨w.heap.size,3,none⟩=false:=by
 have j:w.heap.size<(w.alloc (.cells #[v0,v1,v2,v3] e)).heap.size:=by show _<(w.heap.push _).size;simp
 rw[h.cell j,h.cell j,h.cell j,h.cell j,h.frozen j,h.frozen j,h.frozen j,h.frozen j]
 simp
theorem zfr {w:World} {b i:Nat} {j:Array Value} {u:Value} {t:TypeId} (h:w.heap[b]? =some (.cells j t (0,0))):(w.setCell ⟨b,i,none⟩ u).heap[b]? =some (.cells (j.setIfInBounds i u) t (0,0)):=by
 simp only[World.setCell,Array.getElem?_modify]
 rw[if_pos trivial,h]
 rfl
theorem ziU {w:World} {b:Nat} {v0 v1 v2 v3 j q n z:Value} {t:TypeId} (h:w.heap[b]? =some (.cells #[v0,v1,v2,v3] t (0,0))):
  ((((w.setCell ⟨b,0,none⟩ j).setCell ⟨b,1,none⟩ q).setCell ⟨b,2,none⟩ n).setCell ⟨b,3,none⟩ z).heap[b]? =some (.cells #[j,q,n,z] t (0,0)):=
 zfr (zfr (zfr (zfr h)))
theorem zox (s:ByteArray) (a:Nat) (A:Bool) (w:World) (ha:a<s.size) (hd:bt s a=34) (hs:s.size≤4294967296):
  Calls Tryz.prog 162 #[.string s,.int .i64 a] w fun e K=>∃v z,e= .returned (.tuple #[v,.int .i64 z])∧ziS s A a v z∧Below w.heap.size w K:=by
 have U:Hid (bt s a=34):=hd
 have hb:=get_bt s
 obtain⟨E,J⟩: ∃E,E=a+1:=⟨_,rfl⟩
 have ea:(a:Int)+1=(E:Int):=by omega
 have Y:Hid (E=a+1):=J
 have af:E≤s.size:=by omega
 clear hd J
 go_enter Tryz.func162,Tryz.ntmps162
 go_wp2
 go_loop [7] (fun i=>∃k:Nat,a<k∧k≤s.size∧i= .int .i64 k∧∀j,a<j→j<k→zbj (bt s j)) (fun i=>(s.size-intOf i).toNat)
 case atStart=>exact⟨E,by omega,by omega,rfl,fun j O h2=>by omega⟩
 case round=>
  obtain⟨k,X,V,rfl,N⟩:=hrel
  have ab:E≤k:=by omega
  have n:Hid (∀j,a<j→j<k→zbj (bt s j)):=N
  clear N
  by_cases aa:k<s.size
  ·have D:=bt_nonneg s k
   have H:=bt_le s k
   cases L:zdr (bt s k) with
   |true=>
    have HX:Hid (∀j,a<j→j<k+1→zbj (bt s j)):=fun j O h2=>by
     by_cases e:j=k
     ·rw[e];exact of_decide_eq_true L
     ·exact n.out j O (by omega)
    go_wp2_with (first|(go_at_call 185;refine (zfp _ _ D H).mono ?_;rintro e K ⟨rfl,rfl⟩))
    go_round
    case rel=>exact⟨k+1,by omega,by omega,by go_num,HX.out⟩
    case measure=>simp[intOf];omega
   |false=>
    have Z:Hid (¬zbj (bt s k)):=of_decide_eq_false L
    have q0:((k:Int)==(s.size:Int))=false:=beq_eq_false_iff_ne.2 (by omega)
    by_cases h:bt s k=34
    ·by_cases hl:k≤a+41
     ·have HE:Hid (zba s a (k+1)):=⟨by omega,by omega,by omega,by rw[Nat.add_sub_cancel];exact h,fun j O h2=>n.out j O (by omega)⟩
      have q1:(bt s k !=34)=false:=by rw[h];rfl
      have q2:decide ((40:Int)<(k:Int)-(E:Int))=false:=decide_eq_false (by omega)
      clear h
      go_wp2_with (first|(go_at_call 68;refine (zgo _ _ (by rw[zdU _ _ _ V];omega)).mono ?_;rintro e w1 ⟨rfl,q⟩;have I:=zow q;obtain⟨ac,ag,ah,ak,ae,aj,ai,ad⟩:=I)|(go_at_call 185;refine (zfp _ _ D H).mono ?_;rintro e K ⟨rfl,rfl⟩))
      refine bodyPost_ret (zay rfl _ _ w.heap.size 143 _ (0,0) _ rfl (ziU ((q.block _ (by rw[ziT];omega)).trans (heap_alloc_new w _))) Tryz.underlying143 rfl (by kernel_rfl)) rfl ?_
      exact⟨_,_,rfl,.inl ⟨⟨3,s.extract (a+1) (k+1-1),0,a⟩,k+1,by rw[Y.out];rfl,by omega,.str U.out HE.out⟩,(((((Below.refl _ _).alloc (Nat.le_refl _) _).trans (q.mono (by rw[ziT];omega))).setCell (Nat.le_refl _) _).setCell (Nat.le_refl _) _).setCell (Nat.le_refl _) _|>.setCell (Nat.le_refl _) _⟩
     ·have M:Hid (∀t e,¬Tok s A a t e):=zeR U.out (zeP n.out (.inr (by omega)))
      have q1:(bt s k !=34)=false:=by rw[h];rfl
      have q2:decide ((40:Int)<(k:Int)-(E:Int))=true:=decide_eq_true (by omega)
      clear h
      go_wp2_with (first|(go_at_call 185;refine (zfp _ _ D H).mono ?_;rintro e K ⟨rfl,rfl⟩))
      refine bodyPost_ret (zay rfl _ _ w.heap.size 143 _ (0,0) _ rfl (heap_alloc_new w _) Tryz.underlying143 rfl (by kernel_rfl)) rfl ?_
      exact⟨_,_,rfl,.inr ⟨rfl,⟨_,_,_,_,rfl⟩,M.out⟩,(Below.refl _ _).alloc (Nat.le_refl _) _⟩
    ·have M:Hid (∀t e,¬Tok s A a t e):=zeR U.out (zeQ X n.out h Z.out)
     have q1:(bt s k !=34)=true:=bne_iff_ne.2 h
     clear h
     go_wp2_with (first|(go_at_call 185;refine (zfp _ _ D H).mono ?_;rintro e K ⟨rfl,rfl⟩))
     refine bodyPost_ret (zay rfl _ _ w.heap.size 143 _ (0,0) _ rfl (heap_alloc_new w _) Tryz.underlying143 rfl (by kernel_rfl)) rfl ?_
     exact⟨_,_,rfl,.inr ⟨rfl,⟨_,_,_,_,rfl⟩,M.out⟩,(Below.refl _ _).alloc (Nat.le_refl _) _⟩
  ·have M:Hid (∀t e,¬Tok s A a t e):=zeR U.out (zeP n.out (.inl (by omega)))
   have q0:((k:Int)==(s.size:Int))=true:=beq_iff_eq.2 (by omega)
   go_wp2
   refine bodyPost_ret (zay rfl _ _ w.heap.size 143 _ (0,0) _ rfl (heap_alloc_new w _) Tryz.underlying143 rfl (by kernel_rfl)) rfl ?_
   exact⟨_,_,rfl,.inr ⟨rfl,⟨_,_,_,_,rfl⟩,M.out⟩,(Below.refl _ _).alloc (Nat.le_refl _) _⟩
end Go.Proofs.YtjdddblpfbmpaaaGreat