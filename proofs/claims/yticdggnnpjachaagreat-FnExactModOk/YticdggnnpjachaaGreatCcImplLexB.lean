/-
 What impl.isOneOf,impl.nameEnd,impl.commentEnd,impl.numberToken and impl.quotedToken answer: the walks.
-/
import Derived.Test.YticdggnnpjachaaGreatCcImplLexMath
import Derived.Test.YticdggnnpjachaaGreatCcReadDecImpl
import Derived.Test.YticdggnnpjachaaGreatCcShelf
import Derived.Test.YticdggnnpjachaaGreatCcSpecLex
namespace Go.Proofs.YticdggnnpjachaaGreat
set_option maxHeartbeats 3200000
open Go.RowKit Go.PlainAid
theorem zdw (c:Int) (w:World) (j:0≤c) (n:c≤255):
  Calls Tryz.prog 79 #[.string {data:=#[9,10,13,32]},.int .u8 c] w fun e h=>e= .returned (.bool (ze4 c))∧h=w:=by
 have o:Hid (decide (0≤Lib.indexByte [9,10,13,32] c.toNat.toUInt8)=ze4 c):=znN c j n
 go_enter Tryz.func79,Tryz.ntmps79
 go_wp2_with fail
 refine (Tryz.strings_IndexByte _ _ _).mono ?_
 rintro e h ⟨rfl,rfl⟩
 go_wp2
 go_ret
 exact⟨zl o.out,rfl⟩
theorem ziN (c:Int) (w:World) (j:0≤c) (n:c≤255):
  Calls Tryz.prog 79 #[.string {data:=#[123,125,40,41,44,59,61,46,42,43,45]},.int .u8 c] w fun e h=>e= .returned (.bool (ze5 c))∧h=w:=by
 have o:Hid (decide (0≤Lib.indexByte [123,125,40,41,44,59,61,46,42,43,45] c.toNat.toUInt8)=ze5 c):=znO c j n
 go_enter Tryz.func79,Tryz.ntmps79
 go_wp2_with fail
 refine (Tryz.strings_IndexByte _ _ _).mono ?_
 rintro e h ⟨rfl,rfl⟩
 go_wp2
 go_ret
 exact⟨zl o.out,rfl⟩
theorem zgr (s:ByteArray) (w:World) (h:s.size≤281474976710656):
  Calls Tryz.prog 85 #[.string s] w fun e j=>e= .returned (.string s)∧Below w.heap.size w j:=by
 go_enter Tryz.func85,Tryz.ntmps85
 go_wp2_with fail
 refine (Tryz.stringslite_Clone _ _ h).mono ?_
 rintro e j ⟨rfl,n⟩
 go_wp2
 go_ret
 exact⟨rfl,n⟩
theorem ziO (s:ByteArray) (a:Nat) (o:Bool) (w:World) (M:a≤s.size) (X:s.size≤4294967296):
  Calls Tryz.prog 84 #[.string s,.int .i64 a,.bool o] w fun e J=>∃n:Nat,e= .returned (.int .i64 n)∧zau (zE o) s a n∧J=w:=by
 have U:=get_bt s
 go_enter Tryz.func84,Tryz.ntmps84
 go_wp2
 go_loop [1] (fun i=>∃k:Nat,a≤k∧k≤s.size∧i= .int .i64 k∧∀j,a≤j→j<k→zE o (bt s j)=true) (fun i=>(s.size-intOf i).toNat)
 case atStart=>exact⟨a,Nat.le_refl _,M,rfl,fun j O V=>by omega⟩
 case round=>
  obtain⟨k,E,D,rfl,H⟩:=hrel
  have q:Hid (∀j,a≤j→j<k→zE o (bt s j)=true):=H
  clear H
  by_cases I:k<s.size
  ·have A:=bt_nonneg s k
   have z:=bt_le s k
   cases L:zE o (bt s k) with
   |true=>
    have N:Hid (∀j,a≤j→j<k+1→zE o (bt s j)=true):=zem q.out L
    go_wp2_with (first|(go_at_call 83;refine (zdU _ _ _ A z).mono ?_;rintro e J ⟨rfl,rfl⟩))
    go_round
    case rel=>exact⟨k+1,by omega,by omega,by go_num,N.out⟩
    case measure=>simp[intOf];omega
   |false=>
    have K:Hid (zau (zE o) s a k):=⟨E,D,q.out,fun _=>L⟩
    go_wp2_with (first|(go_at_call 83;refine (zdU _ _ _ A z).mono ?_;rintro e J ⟨rfl,rfl⟩))
    go_ret
    exact⟨k,rfl,K.out,rfl⟩
  ·have K:Hid (zau (zE o) s a k):=⟨E,D,q.out,fun h=>absurd h I⟩
   go_wp2
   go_ret
   exact⟨k,rfl,K.out,rfl⟩
theorem zok (s:ByteArray) (a:Nat) (w:World) (K:a≤s.size) (L:s.size≤4294967296):
  Calls Tryz.prog 81 #[.string s,.int .i64 a] w fun e j=>∃n:Nat,e= .returned (.int .i64 n)∧zau zbb s a n∧j=w:=by
 obtain⟨o,h⟩: ∃o,Lib.indexByte (s.extract a s.size).data.toList (10:Int).toNat.toUInt8=o:=⟨_,rfl⟩
 have z:=Lib.indexByte_ge (s.extract a s.size).data.toList (10:Int).toNat.toUInt8
 rw[h] at z
 by_cases A:0≤o
 ·obtain⟨n,E,D,H⟩:=znP A h
  have J:Hid ((a:Int)+o=n):=E
  have q:Hid (zau zbb s a n):=D
  have I:(a:Int)+o≤4294967296:=by omega
  clear E D
  go_enter Tryz.func81,Tryz.ntmps81
  go_wp2_with fail
  refine (Tryz.strings_IndexByte _ _ _).mono ?_
  rintro e j ⟨rfl,rfl⟩
  rw[h]
  go_wp2
  go_ret
  exact⟨n,zeG J.out,q.out,rfl⟩
 ·have q:Hid (zau zbb s a s.size):=znQ K (by rw[h];exact A)
  go_enter Tryz.func81,Tryz.ntmps81
  go_wp2_with fail
  refine (Tryz.strings_IndexByte _ _ _).mono ?_
  rintro e j ⟨rfl,rfl⟩
  rw[h]
  go_wp2
  go_ret
  exact⟨s.size,rfl,q.out,rfl⟩
def ziP (s:ByteArray) (scr:Bool) (a:Nat) (v:Value) (z:Int):Prop:=
 (∃(t:Tk) (n:Nat),v=tkV t∧z=n∧Tok s scr a t n)∨(z=a∧(∃k x y u,v= .agg #[.int .i64 k,.string x,.int .i64 y,.int .i64 u])∧∀t n,¬Tok s scr a t n)
theorem zol (s:ByteArray) (a:Nat) (h:Bool) (w:World) (H:a<s.size) (O:zD (bt s a)=true) (N:s.size≤4294967296):
  Calls Tryz.prog 86 #[.string s,.int .i64 a,.bool h] w fun e I=>∃v z,e= .returned (.tuple #[v,.int .i64 z])∧ziP s h a v z∧Below w.heap.size w I:=by
 have j:Hid (zD (bt s a)=true):=O
 go_enter Tryz.func86,Tryz.ntmps86
 go_wp2_with fail
 refine (ziO _ _ _ _ (by omega) N).mono ?_
 rintro e I ⟨n,rfl,D,rfl⟩
 have J:Hid (zau (zE h) s a n):=D
 have M:a≤n:=D.1
 have K:n≤s.size:=D.2.1
 clear D
 go_wp2_with fail
 refine (zoj _ _ (by rw[zdX _ _ _ K];omega)).mono ?_
 rintro e I ⟨rfl,rfl⟩
 by_cases A:RdP (s.extract a n)
 ·rw[ze2 A]
  by_cases E:rdV (s.extract a n)≤1000000
  ·have o:Hid (zaJ s a h (rdV (s.extract a n)) n):=znU H j.out J.out A E
   obtain⟨x,q⟩: ∃x,rdV (s.extract a n)=x:=⟨_,rfl⟩
   rw[q] at E o ⊢
   have L:decide (1000000<x)=false:=decide_eq_false (by omega)
   go_wp2
   refine bodyPost_ret (za8 rfl _ _ w.heap.size 111 _ (0,0) _ rfl (heap_alloc_new w _) Tryz.underlying111 rfl (by kernel_rfl)) rfl ?_
   exact⟨_,_,rfl,.inl ⟨⟨2,{data:=#[]},x,a⟩,n,rfl,rfl,.num j.out o.out⟩,(Below.refl _ _).alloc (Nat.le_refl _) _⟩
  ·have o:Hid (∀t e,¬Tok s h a t e):=zfM j.out (ziI H j.out J.out (.inr (by omega)))
   obtain⟨x,q⟩: ∃x,rdV (s.extract a n)=x:=⟨_,rfl⟩
   rw[q] at E ⊢
   have L:decide (1000000<x)=true:=decide_eq_true (by omega)
   go_wp2
   refine bodyPost_ret (za8 rfl _ _ w.heap.size 111 _ (0,0) _ rfl (heap_alloc_new w _) Tryz.underlying111 rfl (by kernel_rfl)) rfl ?_
   exact⟨_,_,rfl,.inr ⟨rfl,⟨_,_,_,_,rfl⟩,o.out⟩,(Below.refl _ _).alloc (Nat.le_refl _) _⟩
 ·have o:Hid (∀t e,¬Tok s h a t e):=zfM j.out (ziI H j.out J.out (.inl A))
  rw[zcP A]
  obtain⟨x,q⟩: ∃x,rdV (s.extract a n)=x:=⟨_,rfl⟩
  rw[q]
  go_wp2
  refine bodyPost_ret (za8 rfl _ _ w.heap.size 111 _ (0,0) _ rfl (heap_alloc_new w _) Tryz.underlying111 rfl (by kernel_rfl)) rfl ?_
  exact⟨_,_,rfl,.inr ⟨rfl,⟨_,_,_,_,rfl⟩,o.out⟩,(Below.refl _ _).alloc (Nat.le_refl _) _⟩
theorem ziQ (w:World) (o:Obj):(w.alloc o).heap.size=w.heap.size+1:=by show (w.heap.push _).size=_;simp
theorem zom {w n:World} {z o A q:Value} {e:TypeId} (h:Below (w.alloc (.cells #[z,o,A,q] e)).heap.size (w.alloc (.cells #[z,o,A,q] e)) n):
  n.cell? ⟨w.heap.size,0,none⟩=some z∧n.cell? ⟨w.heap.size,1,none⟩=some o∧n.cell? ⟨w.heap.size,2,none⟩=some A∧n.cell? ⟨w.heap.size,3,none⟩=some q
  ∧n.frozen? ⟨w.heap.size,0,none⟩=false∧n.frozen? ⟨w.heap.size,1,none⟩=false∧n.frozen? ⟨w.heap.size,2,none⟩=false∧n.frozen? ⟨w.heap.size,3,none⟩=false:=by
 have j:w.heap.size<(w.alloc (.cells #[z,o,A,q] e)).heap.size:=by show _<(w.heap.push _).size;simp
 rw[h.cell j,h.cell j,h.cell j,h.cell j,h.frozen j,h.frozen j,h.frozen j,h.frozen j]
 simp
theorem zfu {w:World} {b i:Nat} {j:Array Value} {u:Value} {t:TypeId} (h:w.heap[b]? =some (.cells j t (0,0))):(w.setCell ⟨b,i,none⟩ u).heap[b]? =some (.cells (j.setIfInBounds i u) t (0,0)):=by
 simp only[World.setCell,Array.getElem?_modify]
 rw[if_pos trivial,h]
 rfl
theorem ziR {w:World} {b:Nat} {D z E A q j o n:Value} {t:TypeId} (h:w.heap[b]? =some (.cells #[D,z,E,A] t (0,0))):
  ((((w.setCell ⟨b,0,none⟩ q).setCell ⟨b,1,none⟩ j).setCell ⟨b,2,none⟩ o).setCell ⟨b,3,none⟩ n).heap[b]? =some (.cells #[q,j,o,n] t (0,0)):=
 zfu (zfu (zfu (zfu h)))
theorem zon (s:ByteArray) (a:Nat) (E:Bool) (w:World) (ha:a<s.size) (Z:bt s a=34) (hs:s.size≤4294967296):
  Calls Tryz.prog 87 #[.string s,.int .i64 a] w fun e M=>∃v z,e= .returned (.tuple #[v,.int .i64 z])∧ziP s E a v z∧Below w.heap.size w M:=by
 have O:Hid (bt s a=34):=Z
 have hb:=get_bt s
 obtain⟨A,I⟩: ∃A,A=a+1:=⟨_,rfl⟩
 have ea:(a:Int)+1=(A:Int):=by omega
 have X:Hid (A=a+1):=I
 have af:A≤s.size:=by omega
 clear Z I
 go_enter Tryz.func87,Tryz.ntmps87
 go_wp2
 go_loop [7] (fun i=>∃k:Nat,a<k∧k≤s.size∧i= .int .i64 k∧∀j,a<j→j<k→zbn (bt s j)) (fun i=>(s.size-intOf i).toNat)
 case atStart=>exact⟨A,by omega,by omega,rfl,fun j N h2=>by omega⟩
 case round=>
  obtain⟨k,Y,V,rfl,J⟩:=hrel
  have ai:A≤k:=by omega
  have n:Hid (∀j,a<j→j<k→zbn (bt s j)):=J
  clear J
  by_cases ah:k<s.size
  ·have D:=bt_nonneg s k
   have q:=bt_le s k
   cases K:zdt (bt s k) with
   |true=>
    have HX:Hid (∀j,a<j→j<k+1→zbn (bt s j)):=fun j N h2=>by
     by_cases e:j=k
     ·rw[e];exact of_decide_eq_true K
     ·exact n.out j N (by omega)
    go_wp2_with (first|(go_at_call 143;refine (zfs _ _ D q).mono ?_;rintro e M ⟨rfl,rfl⟩))
    go_round
    case rel=>exact⟨k+1,by omega,by omega,by go_num,HX.out⟩
    case measure=>simp[intOf];omega
   |false=>
    have U:Hid (¬zbn (bt s k)):=of_decide_eq_false K
    have q0:((k:Int)==(s.size:Int))=false:=beq_eq_false_iff_ne.2 (by omega)
    by_cases h:bt s k=34
    ·by_cases hl:k≤a+41
     ·have HE:Hid (zbc s a (k+1)):=⟨by omega,by omega,by omega,by rw[Nat.add_sub_cancel];exact h,fun j N h2=>n.out j N (by omega)⟩
      have q1:(bt s k !=34)=false:=by rw[h];rfl
      have q2:decide ((40:Int)<(k:Int)-(A:Int))=false:=decide_eq_false (by omega)
      clear h
      go_wp2_with (first|(go_at_call 85;refine (zgr _ _ (by rw[zdX _ _ _ V];omega)).mono ?_;rintro e w1 ⟨rfl,o⟩;have H:=zom o;obtain⟨ac,ak,ae,ag,aa,ad,ab,aj⟩:=H)|(go_at_call 143;refine (zfs _ _ D q).mono ?_;rintro e M ⟨rfl,rfl⟩))
      refine bodyPost_ret (za8 rfl _ _ w.heap.size 111 _ (0,0) _ rfl (ziR ((o.block _ (by rw[ziQ];omega)).trans (heap_alloc_new w _))) Tryz.underlying111 rfl (by kernel_rfl)) rfl ?_
      exact⟨_,_,rfl,.inl ⟨⟨3,s.extract (a+1) (k+1-1),0,a⟩,k+1,by rw[X.out];rfl,by omega,.str O.out HE.out⟩,(((((Below.refl _ _).alloc (Nat.le_refl _) _).trans (o.mono (by rw[ziQ];omega))).setCell (Nat.le_refl _) _).setCell (Nat.le_refl _) _).setCell (Nat.le_refl _) _|>.setCell (Nat.le_refl _) _⟩
     ·have L:Hid (∀t e,¬Tok s E a t e):=zeU O.out (zeS n.out (.inr (by omega)))
      have q1:(bt s k !=34)=false:=by rw[h];rfl
      have q2:decide ((40:Int)<(k:Int)-(A:Int))=true:=decide_eq_true (by omega)
      clear h
      go_wp2_with (first|(go_at_call 143;refine (zfs _ _ D q).mono ?_;rintro e M ⟨rfl,rfl⟩))
      refine bodyPost_ret (za8 rfl _ _ w.heap.size 111 _ (0,0) _ rfl (heap_alloc_new w _) Tryz.underlying111 rfl (by kernel_rfl)) rfl ?_
      exact⟨_,_,rfl,.inr ⟨rfl,⟨_,_,_,_,rfl⟩,L.out⟩,(Below.refl _ _).alloc (Nat.le_refl _) _⟩
    ·have L:Hid (∀t e,¬Tok s E a t e):=zeU O.out (zeT Y n.out h U.out)
     have q1:(bt s k !=34)=true:=bne_iff_ne.2 h
     clear h
     go_wp2_with (first|(go_at_call 143;refine (zfs _ _ D q).mono ?_;rintro e M ⟨rfl,rfl⟩))
     refine bodyPost_ret (za8 rfl _ _ w.heap.size 111 _ (0,0) _ rfl (heap_alloc_new w _) Tryz.underlying111 rfl (by kernel_rfl)) rfl ?_
     exact⟨_,_,rfl,.inr ⟨rfl,⟨_,_,_,_,rfl⟩,L.out⟩,(Below.refl _ _).alloc (Nat.le_refl _) _⟩
  ·have L:Hid (∀t e,¬Tok s E a t e):=zeU O.out (zeS n.out (.inl (by omega)))
   have q0:((k:Int)==(s.size:Int))=true:=beq_iff_eq.2 (by omega)
   go_wp2
   refine bodyPost_ret (za8 rfl _ _ w.heap.size 111 _ (0,0) _ rfl (heap_alloc_new w _) Tryz.underlying111 rfl (by kernel_rfl)) rfl ?_
   exact⟨_,_,rfl,.inr ⟨rfl,⟨_,_,_,_,rfl⟩,L.out⟩,(Below.refl _ _).alloc (Nat.le_refl _) _⟩
end Go.Proofs.YticdggnnpjachaaGreat