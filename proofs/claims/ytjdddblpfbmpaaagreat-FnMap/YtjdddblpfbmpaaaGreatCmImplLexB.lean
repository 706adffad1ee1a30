/-
 What impl.isOneOf,impl.nameEnd,impl.commentEnd,impl.numberToken and impl.quotedToken answer: the walks.
-/
import Derived.Test.YtjdddblpfbmpaaaGreatCmImplLexMathToReadDecImpl
import Derived.Test.YtjdddblpfbmpaaaGreatCmShelf
import Derived.Test.YtjdddblpfbmpaaaGreatCmSpecLex
namespace Go.Proofs.YtjdddblpfbmpaaaGreat
set_option maxHeartbeats 3200000
open Go.RowKit Go.PlainAid
theorem zet (c:Int) (w:World) (z:0≤c) (j:c≤255):
  Calls Tryz.prog 156 #[.string {data:=#[9,10,13,32]},.int .u8 c] w fun e w'=>e= .returned (.bool (zfS c))∧w'=w:=by
 have q:Hid (decide (0≤Lib.indexByte [9,10,13,32] c.toNat.toUInt8)=zfS c):=ztO c z j
 go_enter Tryz.func156,Tryz.ntmps156
 go_wp2_with fail
 refine (Tryz.strings_IndexByte _ _ _).mono ?_
 rintro e w' ⟨rfl,rfl⟩
 go_wp2
 go_ret
 exact⟨zh q.out,rfl⟩
theorem zlZ (c:Int) (w:World) (z:0≤c) (j:c≤255):
  Calls Tryz.prog 156 #[.string {data:=#[123,125,40,41,44,59,61,46,42,43,45]},.int .u8 c] w fun e w'=>e= .returned (.bool (zfT c))∧w'=w:=by
 have q:Hid (decide (0≤Lib.indexByte [123,125,40,41,44,59,61,46,42,43,45] c.toNat.toUInt8)=zfT c):=ztP c z j
 go_enter Tryz.func156,Tryz.ntmps156
 go_wp2_with fail
 refine (Tryz.strings_IndexByte _ _ _).mono ?_
 rintro e w' ⟨rfl,rfl⟩
 go_wp2
 go_ret
 exact⟨zh q.out,rfl⟩
theorem zi5 (s:ByteArray) (w:World) (h:s.size≤281474976710656):
  Calls Tryz.prog 68 #[.string s] w fun e w'=>e= .returned (.string s)∧Below w.heap.size w w':=by
 go_enter Tryz.func68,Tryz.ntmps68
 go_wp2_with fail
 refine (Tryz.stringslite_Clone _ _ h).mono ?_
 rintro e w' ⟨rfl,j⟩
 go_wp2
 go_ret
 exact⟨rfl,j⟩
theorem zma (s:ByteArray) (a:Nat) (q:Bool) (w:World) (U:a≤s.size) (hs:s.size≤4294967296):
  Calls Tryz.prog 160 #[.string s,.int .i64 a,.bool q] w fun e w'=>∃n:Nat,e= .returned (.int .i64 n)∧za4 (zL q) s a n∧w'=w:=by
 have Z:=get_bt s
 go_enter Tryz.func160,Tryz.ntmps160
 go_wp2
 go_loop [1] (fun i=>∃k:Nat,a≤k∧k≤s.size∧i= .int .i64 k∧∀j,a≤j→j<k→zL q (bt s j)=true) (fun i=>(s.size-intOf i).toNat)
 case atStart=>exact⟨a,Nat.le_refl _,U,rfl,fun j Y X=>by omega⟩
 case round=>
  obtain⟨k,J,I,rfl,A⟩:=hrel
  have z:Hid (∀j,a≤j→j<k→zL q (bt s j)=true):=A
  clear A
  by_cases M:k<s.size
  ·have H:=bt_nonneg s k
   have L:=bt_le s k
   cases O:zL q (bt s k) with
   |true=>
    have V:Hid (∀j,a≤j→j<k+1→zL q (bt s j)=true):=zfj z.out O
    go_wp2_with (first|(go_at_call 159;refine (zeT _ _ _ H L).mono ?_;rintro e w' ⟨rfl,rfl⟩))
    go_round
    case rel=>exact⟨k+1,by omega,by omega,by go_num,V.out⟩
    case measure=>simp[intOf];omega
   |false=>
    have N:Hid (za4 (zL q) s a k):=⟨J,I,z.out,fun _=>O⟩
    go_wp2_with (first|(go_at_call 159;refine (zeT _ _ _ H L).mono ?_;rintro e w' ⟨rfl,rfl⟩))
    go_ret
    exact⟨k,rfl,N.out,rfl⟩
  ·have N:Hid (za4 (zL q) s a k):=⟨J,I,z.out,fun h=>absurd h M⟩
   go_wp2
   go_ret
   exact⟨k,rfl,N.out,rfl⟩
theorem zul (s:ByteArray) (a:Nat) (w:World) (L:a≤s.size) (O:s.size≤4294967296):
  Calls Tryz.prog 157 #[.string s,.int .i64 a] w fun e w'=>∃n:Nat,e= .returned (.int .i64 n)∧za4 zb0 s a n∧w'=w:=by
 obtain⟨o,j⟩: ∃o,Lib.indexByte (s.extract a s.size).data.toList (10:Int).toNat.toUInt8=o:=⟨_,rfl⟩
 have q:=Lib.indexByte_ge (s.extract a s.size).data.toList (10:Int).toNat.toUInt8
 rw[j] at q
 by_cases H:0≤o
 ·obtain⟨n,I,A,J⟩:=ztQ H j
  have M:Hid ((a:Int)+o=n):=I
  have z:Hid (za4 zb0 s a n):=A
  have N:(a:Int)+o≤4294967296:=by omega
  clear I A
  go_enter Tryz.func157,Tryz.ntmps157
  go_wp2_with fail
  refine (Tryz.strings_IndexByte _ _ _).mono ?_
  rintro e w' ⟨rfl,rfl⟩
  rw[j]
  go_wp2
  go_ret
  exact⟨n,zeu M.out,z.out,rfl⟩
 ·have z:Hid (za4 zb0 s a s.size):=ztR L (by rw[j];exact H)
  go_enter Tryz.func157,Tryz.ntmps157
  go_wp2_with fail
  refine (Tryz.strings_IndexByte _ _ _).mono ?_
  rintro e w' ⟨rfl,rfl⟩
  rw[j]
  go_wp2
  go_ret
  exact⟨s.size,rfl,z.out,rfl⟩
def zmb (s:ByteArray) (scr:Bool) (a:Nat) (v:Value) (z:Int):Prop:=
 (∃(t:Tk) (n:Nat),v=tkV t∧z=n∧Tok s scr a t n)∨(z=a∧(∃k x y u,v= .agg #[.int .i64 k,.string x,.int .i64 y,.int .i64 u])∧∀t n,¬Tok s scr a t n)
theorem zum (s:ByteArray) (a:Nat) (j:Bool) (w:World) (M:a<s.size) (U:zK (bt s a)=true) (X:s.size≤4294967296):
  Calls Tryz.prog 161 #[.string s,.int .i64 a,.bool j] w fun e w'=>∃v z,e= .returned (.tuple #[v,.int .i64 z])∧zmb s j a v z∧Below w.heap.size w w':=by
 have A:Hid (zK (bt s a)=true):=U
 go_enter Tryz.func161,Tryz.ntmps161
 go_wp2_with fail
 refine (zma _ _ _ _ (by omega) X).mono ?_
 rintro e w' ⟨n,rfl,J,rfl⟩
 have N:Hid (za4 (zL j) s a n):=J
 have Y:a≤n:=J.1
 have O:n≤s.size:=J.2.1
 clear J
 go_wp2_with fail
 refine (zuk _ _ (by rw[zeW _ _ _ O];omega)).mono ?_
 rintro e w' ⟨rfl,rfl⟩
 by_cases I:RdP (s.extract a n)
 ·rw[zfQ I]
  by_cases L:rdV (s.extract a n)≤1000000
  ·have q:Hid (zaV s a j (rdV (s.extract a n)) n):=ztV M A.out N.out I L
   obtain⟨x,H⟩: ∃x,rdV (s.extract a n)=x:=⟨_,rfl⟩
   rw[H] at L q ⊢
   have V:decide (1000000<x)=false:=decide_eq_false (by omega)
   go_wp2
   refine bodyPost_ret (zas rfl _ _ w.heap.size 143 _ (0,0) _ rfl (heap_alloc_new w _) Tryz.underlying143 rfl (by kernel_rfl)) rfl ?_
   exact⟨_,_,rfl,.inl ⟨⟨2,{data:=#[]},x,a⟩,n,rfl,rfl,.num A.out q.out⟩,(Below.refl _ _).alloc (Nat.le_refl _) _⟩
  ·have q:Hid (∀t e,¬Tok s j a t e):=zhx A.out (zlU M A.out N.out (.inr (by omega)))
   obtain⟨x,H⟩: ∃x,rdV (s.extract a n)=x:=⟨_,rfl⟩
   rw[H] at L ⊢
   have V:decide (1000000<x)=true:=decide_eq_true (by omega)
   go_wp2
   refine bodyPost_ret (zas rfl _ _ w.heap.size 143 _ (0,0) _ rfl (heap_alloc_new w _) Tryz.underlying143 rfl (by kernel_rfl)) rfl ?_
   exact⟨_,_,rfl,.inr ⟨rfl,⟨_,_,_,_,rfl⟩,q.out⟩,(Below.refl _ _).alloc (Nat.le_refl _) _⟩
 ·have q:Hid (∀t e,¬Tok s j a t e):=zhx A.out (zlU M A.out N.out (.inl I))
  rw[zdD I]
  obtain⟨x,H⟩: ∃x,rdV (s.extract a n)=x:=⟨_,rfl⟩
  rw[H]
  go_wp2
  refine bodyPost_ret (zas rfl _ _ w.heap.size 143 _ (0,0) _ rfl (heap_alloc_new w _) Tryz.underlying143 rfl (by kernel_rfl)) rfl ?_
  exact⟨_,_,rfl,.inr ⟨rfl,⟨_,_,_,_,rfl⟩,q.out⟩,(Below.refl _ _).alloc (Nat.le_refl _) _⟩
theorem zmc (w:World) (o:Obj):(w.alloc o).heap.size=w.heap.size+1:=by show (w.heap.push _).size=_;simp
theorem zun {w q:World} {v0 v1 v2 v3:Value} {e:TypeId} (h:Below (w.alloc (.cells #[v0,v1,v2,v3] e)).heap.size (w.alloc (.cells #[v0,v1,v2,v3] e)) q):
  q.cell? ⟨w.heap.size,0,none⟩=some v0∧q.cell? ⟨w.heap.size,1,none⟩=some v1∧q.cell? ⟨w.heap.size,2,none⟩=some v2∧q.cell? ⟨w.heap.size,3,none⟩=some v3
  ∧q.frozen? ⟨w.heap.size,0,none⟩=false∧q.frozen? ⟨w.heap.size,1,none⟩=false∧q.frozen? ⟨w.heap.size,2,none⟩=false∧q.frozen? ⟨w.heap.size,3,none⟩=false:=by
 have j:w.heap.size<(w.alloc (.cells #[v0,v1,v2,v3] e)).heap.size:=by show _<(w.heap.push _).size;simp
 rw[h.cell j,h.cell j,h.cell j,h.cell j,h.frozen j,h.frozen j,h.frozen j,h.frozen j]
 simp
theorem zgX {w:World} {b i:Nat} {j:Array Value} {u:Value} {t:TypeId} (h:w.heap[b]? =some (.cells j t (0,0))):(w.setCell ⟨b,i,none⟩ u).heap[b]? =some (.cells (j.setIfInBounds i u) t (0,0)):=by
 simp only[World.setCell,Array.getElem?_modify]
 rw[if_pos trivial,h]
 rfl
theorem zmd {w:World} {b:Nat} {v0 v1 v2 v3 x0 x1 x2 x3:Value} {t:TypeId} (h:w.heap[b]? =some (.cells #[v0,v1,v2,v3] t (0,0))):
  ((((w.setCell ⟨b,0,none⟩ x0).setCell ⟨b,1,none⟩ x1).setCell ⟨b,2,none⟩ x2).setCell ⟨b,3,none⟩ x3).heap[b]? =some (.cells #[x0,x1,x2,x3] t (0,0)):=
 zgX (zgX (zgX (zgX h)))
theorem zuo (s:ByteArray) (a:Nat) (I:Bool) (w:World) (ha:a<s.size) (hd:bt s a=34) (hs:s.size≤4294967296):
  Calls Tryz.prog 162 #[.string s,.int .i64 a] w fun e w'=>∃v z,e= .returned (.tuple #[v,.int .i64 z])∧zmb s I a v z∧Below w.heap.size w w':=by
 have Z:Hid (bt s a=34):=hd
 have hb:=get_bt s
 obtain⟨L,O⟩: ∃L,L=a+1:=⟨_,rfl⟩
 have ea:(a:Int)+1=(L:Int):=by omega
 have ac:Hid (L=a+1):=O
 have aj:L≤s.size:=by omega
 clear hd O
 go_enter Tryz.func162,Tryz.ntmps162
 go_wp2
 go_loop [7] (fun i=>∃k:Nat,a<k∧k≤s.size∧i= .int .i64 k∧∀j,a<j→j<k→zbD (bt s j)) (fun i=>(s.size-intOf i).toNat)
 case atStart=>exact⟨L,by omega,by omega,rfl,fun j Y h2=>by omega⟩
 case round=>
  obtain⟨k,ab,aa,rfl,X⟩:=hrel
  have af:L≤k:=by omega
  have A:Hid (∀j,a<j→j<k→zbD (bt s j)):=X
  clear X
  by_cases ae:k<s.size
  ·have J:=bt_nonneg s k
   have M:=bt_le s k
   cases U:zeq (bt s k) with
   |true=>
    have HX:Hid (∀j,a<j→j<k+1→zbD (bt s j)):=fun j Y h2=>by
     by_cases e:j=k
     ·rw[e];exact of_decide_eq_true U
     ·exact A.out j Y (by omega)
    go_wp2_with (first|(go_at_call 185;refine (zgV _ _ J M).mono ?_;rintro e w' ⟨rfl,rfl⟩))
    go_round
    case rel=>exact⟨k+1,by omega,by omega,by go_num,HX.out⟩
    case measure=>simp[intOf];omega
   |false=>
    have ad:Hid (¬zbD (bt s k)):=of_decide_eq_false U
    have q0:((k:Int)==(s.size:Int))=false:=beq_eq_false_iff_ne.2 (by omega)
    by_cases q:bt s k=34
    ·by_cases hl:k≤a+41
     ·have HE:Hid (zb1 s a (k+1)):=⟨by omega,by omega,by omega,by rw[Nat.add_sub_cancel];exact q,fun j Y h2=>A.out j Y (by omega)⟩
      have q1:(bt s k !=34)=false:=by rw[q];rfl
      have q2:decide ((40:Int)<(k:Int)-(L:Int))=false:=decide_eq_false (by omega)
      clear q
      go_wp2_with (first|(go_at_call 68;refine (zi5 _ _ (by rw[zeW _ _ _ aa];omega)).mono ?_;rintro e w1 ⟨rfl,H⟩;have N:=zun H;obtain⟨ag,ak,al,ao,ai,an,am,ah⟩:=N)|(go_at_call 185;refine (zgV _ _ J M).mono ?_;rintro e w' ⟨rfl,rfl⟩))
      refine bodyPost_ret (zas rfl _ _ w.heap.size 143 _ (0,0) _ rfl (zmd ((H.block _ (by rw[zmc];omega)).trans (heap_alloc_new w _))) Tryz.underlying143 rfl (by kernel_rfl)) rfl ?_
      exact⟨_,_,rfl,.inl ⟨⟨3,s.extract (a+1) (k+1-1),0,a⟩,k+1,by rw[ac.out];rfl,by omega,.str Z.out HE.out⟩,(((((Below.refl _ _).alloc (Nat.le_refl _) _).trans (H.mono (by rw[zmc];omega))).setCell (Nat.le_refl _) _).setCell (Nat.le_refl _) _).setCell (Nat.le_refl _) _|>.setCell (Nat.le_refl _) _⟩
     ·have V:Hid (∀t e,¬Tok s I a t e):=zgk Z.out (zgi A.out (.inr (by omega)))
      have q1:(bt s k !=34)=false:=by rw[q];rfl
      have q2:decide ((40:Int)<(k:Int)-(L:Int))=true:=decide_eq_true (by omega)
      clear q
      go_wp2_with (first|(go_at_call 185;refine (zgV _ _ J M).mono ?_;rintro e w' ⟨rfl,rfl⟩))
      refine bodyPost_ret (zas rfl _ _ w.heap.size 143 _ (0,0) _ rfl (heap_alloc_new w _) Tryz.underlying143 rfl (by kernel_rfl)) rfl ?_
      exact⟨_,_,rfl,.inr ⟨rfl,⟨_,_,_,_,rfl⟩,V.out⟩,(Below.refl _ _).alloc (Nat.le_refl _) _⟩
    ·have V:Hid (∀t e,¬Tok s I a t e):=zgk Z.out (zgj ab A.out q ad.out)
     have q1:(bt s k !=34)=true:=bne_iff_ne.2 q
     clear q
     go_wp2_with (first|(go_at_call 185;refine (zgV _ _ J M).mono ?_;rintro e w' ⟨rfl,rfl⟩))
     refine bodyPost_ret (zas rfl _ _ w.heap.size 143 _ (0,0) _ rfl (heap_alloc_new w _) Tryz.underlying143 rfl (by kernel_rfl)) rfl ?_
     exact⟨_,_,rfl,.inr ⟨rfl,⟨_,_,_,_,rfl⟩,V.out⟩,(Below.refl _ _).alloc (Nat.le_refl _) _⟩
  ·have V:Hid (∀t e,¬Tok s I a t e):=zgk Z.out (zgi A.out (.inl (by omega)))
   have q0:((k:Int)==(s.size:Int))=true:=beq_iff_eq.2 (by omega)
   go_wp2
   refine bodyPost_ret (zas rfl _ _ w.heap.size 143 _ (0,0) _ rfl (heap_alloc_new w _) Tryz.underlying143 rfl (by kernel_rfl)) rfl ?_
   exact⟨_,_,rfl,.inr ⟨rfl,⟨_,_,_,_,rfl⟩,V.out⟩,(Below.refl _ _).alloc (Nat.le_refl _) _⟩
end Go.Proofs.YtjdddblpfbmpaaaGreat