/-
 What impl.isOneOf,impl.nameEnd,impl.commentEnd,impl.numberToken and impl.quotedToken answer: the walks.
-/
import Derived.Test.YticdggnnpjachaaGreatCcImplLexMath
import Derived.Test.YticdggnnpjachaaGreatCcReadDecImpl
import Derived.Test.YticdggnnpjachaaGreatCcShelf
import Derived.Test.YticdggnnpjachaaGreatCcSpecLex
namespace Go.Proofs.YticdggnnpjachaaGreat
set_option maxHeartbeats 3200000
open Go.RowKit Go.PlainAid
theorem zdw (c:Int) (w:World) (n:0≤c) (j:c≤255):
  Calls Tryz.prog 79 #[.string {data:=#[9,10,13,32]},.int .u8 c] w fun e h=>e= .returned (.bool (ze4 c))∧h=w:=by
 have o:Hid (decide (0≤Lib.indexByte [9,10,13,32] c.toNat.toUInt8)=ze4 c):=znN c n j
 go_enter Tryz.func79,Tryz.ntmps79
 go_wp2_with fail
 refine (Tryz.strings_IndexByte _ _ _).mono ?_
 rintro e h ⟨rfl,rfl⟩
 go_wp2
 go_ret
 exact⟨zl o.out,rfl⟩
theorem ziN (c:Int) (w:World) (n:0≤c) (j:c≤255):
  Calls Tryz.prog 79 #[.string {data:=#[123,125,40,41,44,59,61,46,42,43,45]},.int .u8 c] w fun e h=>e= .returned (.bool (ze5 c))∧h=w:=by
 have o:Hid (decide (0≤Lib.indexByte [123,125,40,41,44,59,61,46,42,43,45] c.toNat.toUInt8)=ze5 c):=znO c n j
 go_enter Tryz.func79,Tryz.ntmps79
 go_wp2_with fail
 refine (Tryz.strings_IndexByte _ _ _).mono ?_
 rintro e h ⟨rfl,rfl⟩
 go_wp2
 go_ret
 exact⟨zl o.out,rfl⟩
theorem zgr (s:ByteArray) (w:World) (h:s.size≤281474976710656):
  Calls Tryz.prog 85 #[.string s] w fun e j=>e= .returned (.string s)∧Below w.heap.size w j:=by
 go_enter Tryz.func85,Tryz.ntmps85
 go_wp2_with fail
 refine (Tryz.stringslite_Clone _ _ h).mono ?_
 rintro e j ⟨rfl,n⟩
 go_wp2
 go_ret
 exact⟨rfl,n⟩
theorem ziO (s:ByteArray) (a:Nat) (o:Bool) (w:World) (M:a≤s.size) (O:s.size≤4294967296):
  Calls Tryz.prog 84 #[.string s,.int .i64 a,.bool o] w fun e I=>∃n:Nat,e= .returned (.int .i64 n)∧zau (zE o) s a n∧I=w:=by
 have V:=get_bt s
 go_enter Tryz.func84,Tryz.ntmps84
 go_wp2
 go_loop [1] (fun i=>∃k:Nat,a≤k∧k≤s.size∧i= .int .i64 k∧∀j,a≤j→j<k→zE o (bt s j)=true) (fun i=>(s.size-intOf i).toNat)
 case atStart=>exact⟨a,Nat.le_refl _,M,rfl,fun j U X=>by omega⟩
 case round=>
  obtain⟨k,D,A,rfl,H⟩:=hrel
  have q:Hid (∀j,a≤j→j<k→zE o (bt s j)=true):=H
  clear H
  by_cases J:k<s.size
  ·have z:=bt_nonneg s k
   have E:=bt_le s k
   cases L:zE o (bt s k) with
   |true=>
    have N:Hid (∀j,a≤j→j<k+1→zE o (bt s j)=true):=zem q.out L
    go_wp2_with (first|(go_at_call 83;refine (zdU _ _ _ z E).mono ?_;rintro e I ⟨rfl,rfl⟩))
    go_round
    case rel=>exact⟨k+1,by omega,by omega,by go_num,N.out⟩
    case measure=>simp[intOf];omega
   |false=>
    have K:Hid (zau (zE o) s a k):=⟨D,A,q.out,fun _=>L⟩
    go_wp2_with (first|(go_at_call 83;refine (zdU _ _ _ z E).mono ?_;rintro e I ⟨rfl,rfl⟩))
    go_ret
    exact⟨k,rfl,K.out,rfl⟩
  ·have K:Hid (zau (zE o) s a k):=⟨D,A,q.out,fun h=>absurd h J⟩
   go_wp2
   go_ret
   exact⟨k,rfl,K.out,rfl⟩
theorem zok (s:ByteArray) (a:Nat) (w:World) (H:a≤s.size) (L:s.size≤4294967296):
  Calls Tryz.prog 81 #[.string s,.int .i64 a] w fun e j=>∃n:Nat,e= .returned (.int .i64 n)∧zau zbb s a n∧j=w:=by
 obtain⟨o,h⟩: ∃o,Lib.indexByte (s.extract a s.size).data.toList (10:Int).toNat.toUInt8=o:=⟨_,rfl⟩
 have z:=Lib.indexByte_ge (s.extract a s.size).data.toList (10:Int).toNat.toUInt8
 rw[h] at z
 by_cases D:0≤o
 ·obtain⟨n,A,E,I⟩:=znP D h
  have J:Hid ((a:Int)+o=n):=A
  have q:Hid (zau zbb s a n):=E
  have K:(a:Int)+o≤4294967296:=by omega
  clear A E
  go_enter Tryz.func81,Tryz.ntmps81
  go_wp2_with fail
  refine (Tryz.strings_IndexByte _ _ _).mono ?_
  rintro e j ⟨rfl,rfl⟩
  rw[h]
  go_wp2
  go_ret
  exact⟨n,zeG J.out,q.out,rfl⟩
 ·have q:Hid (zau zbb s a s.size):=znQ H (by rw[h];exact D)
  go_enter Tryz.func81,Tryz.ntmps81
  go_wp2_with fail
  refine (Tryz.strings_IndexByte _ _ _).mono ?_
  rintro e j ⟨rfl,rfl⟩
  rw[h]
  go_wp2
  go_ret
  exact⟨s.size,rfl,q.out,rfl⟩
def ziP (s:ByteArray) (scr:Bool) (a:Nat) (v:Value) (z:Int):Prop:=
 (∃(t:Tk) (n:Nat),v=tkV t∧z=n∧Tok s scr a t n)∨(z=a∧(∃k x y u,v= .agg #[.int .i64 k,.string x,.int .i64 y,.int .i64 u])∧∀t n,¬Tok s scr a t n)
theorem zol (s:ByteArray) (a:Nat) (h:Bool) (w:World) (I:a<s.size) (L:zD (bt s a)=true) (M:s.size≤4294967296):
  Calls Tryz.prog 86 #[.string s,.int .i64 a,.bool h] w fun e E=>∃v z,e= .returned (.tuple #[v,.int .i64 z])∧ziP s h a v z∧Below w.heap.size w E:=by
 have j:Hid (zD (bt s a)=true):=L
 go_enter Tryz.func86,Tryz.ntmps86
 go_wp2_with fail
 refine (ziO _ _ _ _ (by omega) M).mono ?_
 rintro e E ⟨n,rfl,D,rfl⟩
 have K:Hid (zau (zE h) s a n):=D
 have N:a≤n:=D.1
 have H:n≤s.size:=D.2.1
 clear D
 go_wp2_with fail
 refine (zoj _ _ (by rw[zdX _ _ _ H];omega)).mono ?_
 rintro e E ⟨rfl,rfl⟩
 by_cases A:RdP (s.extract a n)
 ·rw[ze2 A]
  by_cases J:rdV (s.extract a n)≤1000000
  ·have o:Hid (zaJ s a h (rdV (s.extract a n)) n):=znU I j.out K.out A J
   obtain⟨x,q⟩: ∃x,rdV (s.extract a n)=x:=⟨_,rfl⟩
   rw[q] at J o ⊢
   have O:decide (1000000<x)=false:=decide_eq_false (by omega)
   go_wp2
   refine bodyPost_ret (za8 rfl _ _ w.heap.size 111 _ (0,0) _ rfl (heap_alloc_new w _) Tryz.underlying111 rfl (by kernel_rfl)) rfl ?_
   exact⟨_,_,rfl,.inl ⟨⟨2,{data:=#[]},x,a⟩,n,rfl,rfl,.num j.out o.out⟩,(Below.refl _ _).alloc (Nat.le_refl _) _⟩
  ·have o:Hid (∀t e,¬Tok s h a t e):=zfM j.out (ziI I j.out K.out (.inr (by omega)))
   obtain⟨x,q⟩: ∃x,rdV (s.extract a n)=x:=⟨_,rfl⟩
   rw[q] at J ⊢
   have O:decide (1000000<x)=true:=decide_eq_true (by omega)
   go_wp2
   refine bodyPost_ret (za8 rfl _ _ w.heap.size 111 _ (0,0) _ rfl (heap_alloc_new w _) Tryz.underlying111 rfl (by kernel_rfl)) rfl ?_
   exact⟨_,_,rfl,.inr ⟨rfl,⟨_,_,_,_,rfl⟩,o.out⟩,(Below.refl _ _).alloc (Nat.le_refl _) _⟩
 ·have o:Hid (∀t e,¬Tok s h a t e):=zfM j.out (ziI I j.out K.out (.inl A))
  rw[zcP A]
  obtain⟨x,q⟩: ∃x,rdV (s.extract a n)=x:=⟨_,rfl⟩
  rw[q]
  go_wp2
  refine bodyPost_ret (za8 rfl _ _ w.heap.size 111 _ (0,0) _ rfl (heap_alloc_new w _) Tryz.underlying111 rfl (by kernel_rfl)) rfl ?_
  exact⟨_,_,rfl,.inr ⟨rfl,⟨_,_,_,_,rfl⟩,o.out⟩,(Below.refl _ _).alloc (Nat.le_refl _) _⟩
theorem ziQ (w:World) (o:Obj):(w.alloc o).heap.size=w.heap.size+1:=by show (w.heap.push _).size=_;simp
theorem zom {w n:World} {q o z A:Value} {e:TypeId} (h:Below (w.alloc (.cells #[q,o,z,A] e)).heap.size (w.alloc (.cells #[q,o,z,A] e)) n):
  n.cell? ⟨w.heap.size,0,none⟩=some q∧n.cell? ⟨w.heap.size,1,none⟩=some o∧n.cell? ⟨w.heap.size,2,none⟩=some z∧n.cell? ⟨w.heap.size,3,none⟩=some A
  ∧n.frozen? ⟨w.heap.size,0,none⟩=false∧n.frozen? ⟨w.heap.size,1,none⟩=false∧n.frozen? ⟨w.heap.size,2,none⟩=false∧n.frozen? ⟨w.heap.size,3,none⟩=false:=by
 have j:w.heap.size<(w.alloc (.cells #[q,o,z,A] e)).heap.size:=by show _<(w.heap.push _).size;simp
 rw[h.cell j,h.cell j,h.cell j,h.cell j,h.frozen j,h.frozen j,h.frozen j,h.frozen j]
 simp
theorem zfu {w:World} {b i:Nat} {j:Array Value} {u:Value} {t:TypeId} (h:w.heap[b]? =some (.cells j t (0,0))):(w.setCell ⟨b,i,none⟩ u).heap[b]? =some (.cells (j.setIfInBounds i u) t (0,0)):=by
 simp only[World.setCell,Array.getElem?_modify]
 rw[if_pos trivial,h]
 rfl
theorem ziR {w:World} {b:Nat} {A z D E n q o j:Value} {t:TypeId} (h:w.heap[b]? =some (.cells #[A,z,D,E] t (0,0))):
  ((((w.setCell ⟨b,0,none⟩ n).setCell ⟨b,1,none⟩ q).setCell ⟨b,2,none⟩ o).setCell ⟨b,3,none⟩ j).heap[b]? =some (.cells #[n,q,o,j] t (0,0)):=
 zfu (zfu (zfu (zfu h)))
theorem zon (s:ByteArray) (a:Nat) (E:Bool) (w:World) (ha:a<s.size) (hd:bt s a=34) (hs:s.size≤4294967296):
  Calls Tryz.prog 87 #[.string s,.int .i64 a] w fun e J=>∃v z,e= .returned (.tuple #[v,.int .i64 z])∧ziP s E a v z∧Below w.heap.size w J:=by
 have O:Hid (bt s a=34):=hd
 have hb:=get_bt s
 obtain⟨D,L⟩: ∃D,D=a+1:=⟨_,rfl⟩
 have ea:(a:Int)+1=(D:Int):=by omega
 have Y:Hid (D=a+1):=L
 have ae:D≤s.size:=by omega
 clear hd L
 go_enter Tryz.func87,Tryz.ntmps87
 go_wp2
 go_loop [7] (fun i=>∃k:Nat,a<k∧k≤s.size∧i= .int .i64 k∧∀j,a<j→j<k→zbn (bt s j)) (fun i=>(s.size-intOf i).toNat)
 case atStart=>exact⟨D,by omega,by omega,rfl,fun j N h2=>by omega⟩
 case round=>
  obtain⟨k,X,U,rfl,M⟩:=hrel
  have aj:D≤k:=by omega
  have n:Hid (∀j,a<j→j<k→zbn (bt s j)):=M
  clear M
  by_cases ai:k<s.size
  ·have A:=bt_nonneg s k
   have q:=bt_le s k
   cases K:zdt (bt s k) with
   |true=>
    have HX:Hid (∀j,a<j→j<k+1→zbn (bt s j)):=fun j N h2=>by
     by_cases e:j=k
     ·rw[e];exact of_decide_eq_true K
     ·exact n.out j N (by omega)
    go_wp2_with (first|(go_at_call 143;refine (zfs _ _ A q).mono ?_;rintro e J ⟨rfl,rfl⟩))
    go_round
    case rel=>exact⟨k+1,by omega,by omega,by go_num,HX.out⟩
    case measure=>simp[intOf];omega
   |false=>
    have V:Hid (¬zbn (bt s k)):=of_decide_eq_false K
    have q0:((k:Int)==(s.size:Int))=false:=beq_eq_false_iff_ne.2 (by omega)
    by_cases h:bt s k=34
    ·by_cases hl:k≤a+41
     ·have HE:Hid (zbc s a (k+1)):=⟨by omega,by omega,by omega,by rw[Nat.add_sub_cancel];exact h,fun j N h2=>n.out j N (by omega)⟩
      have Z:(bt s k !=34)=false:=by rw[h];rfl
      have q2:decide ((40:Int)<(k:Int)-(D:Int))=false:=decide_eq_false (by omega)
      clear h
      go_wp2_with (first|(go_at_call 85;refine (zgr _ _ (by rw[zdX _ _ _ U];omega)).mono ?_;rintro e w1 ⟨rfl,o⟩;have H:=zom o;obtain⟨ad,aa,af,ag,ac,ab,ak,ah⟩:=H)|(go_at_call 143;refine (zfs _ _ A q).mono ?_;rintro e J ⟨rfl,rfl⟩))
      refine bodyPost_ret (za8 rfl _ _ w.heap.size 111 _ (0,0) _ rfl (ziR ((o.block _ (by rw[ziQ];omega)).trans (heap_alloc_new w _))) Tryz.underlying111 rfl (by kernel_rfl)) rfl ?_
      exact⟨_,_,rfl,.inl ⟨⟨3,s.extract (a+1) (k+1-1),0,a⟩,k+1,by rw[Y.out];rfl,by omega,.str O.out HE.out⟩,(((((Below.refl _ _).alloc (Nat.le_refl _) _).trans (o.mono (by rw[ziQ];omega))).setCell (Nat.le_refl _) _).setCell (Nat.le_refl _) _).setCell (Nat.le_refl _) _|>.setCell (Nat.le_refl _) _⟩
     ·have I:Hid (∀t e,¬Tok s E a t e):=zeU O.out (zeS n.out (.inr (by omega)))
      have Z:(bt s k !=34)=false:=by rw[h];rfl
      have q2:decide ((40:Int)<(k:Int)-(D:Int))=true:=decide_eq_true (by omega)
      clear h
      go_wp2_with (first|(go_at_call 143;refine (zfs _ _ A q).mono ?_;rintro e J ⟨rfl,rfl⟩))
      refine bodyPost_ret (za8 rfl _ _ w.heap.size 111 _ (0,0) _ rfl (heap_alloc_new w _) Tryz.underlying111 rfl (by kernel_rfl)) rfl ?_
      exact⟨_,_,rfl,.inr ⟨rfl,⟨_,_,_,_,rfl⟩,I.out⟩,(Below.refl _ _).alloc (Nat.le_refl _) _⟩
    ·have I:Hid (∀t e,¬Tok s E a t e):=zeU O.out (zeT X n.out h V.out)
     have Z:(bt s k !=34)=true:=bne_iff_ne.2 h
     clear h
     go_wp2_with (first|(go_at_call 143;refine (zfs _ _ A q).mono ?_;rintro e J ⟨rfl,rfl⟩))
     refine bodyPost_ret (za8 rfl _ _ w.heap.size 111 _ (0,0) _ rfl (heap_alloc_new w _) Tryz.underlying111 rfl (by kernel_rfl)) rfl ?_
     exact⟨_,_,rfl,.inr ⟨rfl,⟨_,_,_,_,rfl⟩,I.out⟩,(Below.refl _ _).alloc (Nat.le_refl _) _⟩
  ·have I:Hid (∀t e,¬Tok s E a t e):=zeU O.out (zeS n.out (.inl (by omega)))
   have q0:((k:Int)==(s.size:Int))=true:=beq_iff_eq.2 (by omega)
   go_wp2
   refine bodyPost_ret (za8 rfl _ _ w.heap.size 111 _ (0,0) _ rfl (heap_alloc_new w _) Tryz.underlying111 rfl (by kernel_rfl)) rfl ?_
   exact⟨_,_,rfl,.inr ⟨rfl,⟨_,_,_,_,rfl⟩,I.out⟩,(Below.refl _ _).alloc (Nat.le_refl _) _⟩
end Go.Proofs.YticdggnnpjachaaGreat