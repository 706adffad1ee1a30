/-
 What impl.isOneOf,impl.nameEnd,impl.commentEnd,impl.numberToken and impl.quotedToken answer: the walks.
-/
import Derived.Test.YtcidlffeeninbaaGreatClImplLexMathToReadDecImpl
import Derived.Test.YtcidlffeeninbaaGreatClShelf
import Derived.Test.YtcidlffeeninbaaGreatClSpecLex
namespace Go.Proofs.YtcidlffeeninbaaGreat
set_option maxHeartbeats 3200000
open Go.RowKit Go.PlainAid
theorem zew (c:Int) (w:World) (A:0≤c) (q:c≤255):
  Calls Tryz.prog 146 #[.string {data:=#[9,10,13,32]},.int .u8 c] w fun e h=>e= .returned (.bool (zfF c))∧h=w:=by
 have z:Hid (decide (0≤Lib.indexByte [9,10,13,32] c.toNat.toUInt8)=zfF c):=ztF c A q
 go_enter Tryz.func146,Tryz.ntmps146
 go_wp2_with fail
 refine (Tryz.strings_IndexByte _ _ _).mono ?_
 rintro e h ⟨rfl,rfl⟩
 go_wp2
 go_ret
 exact⟨zh z.out,rfl⟩
theorem zlO (c:Int) (w:World) (A:0≤c) (q:c≤255):
  Calls Tryz.prog 146 #[.string {data:=#[123,125,40,41,44,59,61,46,42,43,45]},.int .u8 c] w fun e h=>e= .returned (.bool (zfG c))∧h=w:=by
 have z:Hid (decide (0≤Lib.indexByte [123,125,40,41,44,59,61,46,42,43,45] c.toNat.toUInt8)=zfG c):=ztG c A q
 go_enter Tryz.func146,Tryz.ntmps146
 go_wp2_with fail
 refine (Tryz.strings_IndexByte _ _ _).mono ?_
 rintro e h ⟨rfl,rfl⟩
 go_wp2
 go_ret
 exact⟨zh z.out,rfl⟩
theorem zih (s:ByteArray) (w:World) (h:s.size≤281474976710656):
  Calls Tryz.prog 152 #[.string s] w fun e q=>e= .returned (.string s)∧Below w.heap.size w q:=by
 go_enter Tryz.func152,Tryz.ntmps152
 go_wp2_with fail
 refine (Tryz.stringslite_Clone _ _ h).mono ?_
 rintro e q ⟨rfl,z⟩
 go_wp2
 go_ret
 exact⟨rfl,z⟩
theorem zlP (s:ByteArray) (a:Nat) (q:Bool) (w:World) (N:a≤s.size) (Y:s.size≤4294967296):
  Calls Tryz.prog 151 #[.string s,.int .i64 a,.bool q] w fun e J=>∃n:Nat,e= .returned (.int .i64 n)∧za2 (zK q) s a n∧J=w:=by
 have X:=get_bt s
 go_enter Tryz.func151,Tryz.ntmps151
 go_wp2
 go_loop [1] (fun i=>∃k:Nat,a≤k∧k≤s.size∧i= .int .i64 k∧∀j,a≤j→j<k→zK q (bt s j)=true) (fun i=>(s.size-intOf i).toNat)
 case atStart=>exact⟨a,Nat.le_refl _,N,rfl,fun j U V=>by omega⟩
 case round=>
  obtain⟨k,A,I,rfl,H⟩:=hrel
  have z:Hid (∀j,a≤j→j<k→zK q (bt s j)=true):=H
  clear H
  by_cases K:k<s.size
  ·have E:=bt_nonneg s k
   have D:=bt_le s k
   cases M:zK q (bt s k) with
   |true=>
    have O:Hid (∀j,a≤j→j<k+1→zK q (bt s j)=true):=zfl z.out M
    go_wp2_with (first|(go_at_call 150;refine (zeS _ _ _ E D).mono ?_;rintro e J ⟨rfl,rfl⟩))
    go_round
    case rel=>exact⟨k+1,by omega,by omega,by go_num,O.out⟩
    case measure=>simp[intOf];omega
   |false=>
    have L:Hid (za2 (zK q) s a k):=⟨A,I,z.out,fun _=>M⟩
    go_wp2_with (first|(go_at_call 150;refine (zeS _ _ _ E D).mono ?_;rintro e J ⟨rfl,rfl⟩))
    go_ret
    exact⟨k,rfl,L.out,rfl⟩
  ·have L:Hid (za2 (zK q) s a k):=⟨A,I,z.out,fun h=>absurd h K⟩
   go_wp2
   go_ret
   exact⟨k,rfl,L.out,rfl⟩
theorem zuc (s:ByteArray) (a:Nat) (w:World) (J:a≤s.size) (M:s.size≤4294967296):
  Calls Tryz.prog 148 #[.string s,.int .i64 a] w fun e z=>∃n:Nat,e= .returned (.int .i64 n)∧za2 zbv s a n∧z=w:=by
 obtain⟨o,h⟩: ∃o,Lib.indexByte (s.extract a s.size).data.toList (10:Int).toNat.toUInt8=o:=⟨_,rfl⟩
 have q:=Lib.indexByte_ge (s.extract a s.size).data.toList (10:Int).toNat.toUInt8
 rw[h] at q
 by_cases E:0≤o
 ·obtain⟨n,D,H,K⟩:=ztH E h
  have I:Hid ((a:Int)+o=n):=D
  have A:Hid (za2 zbv s a n):=H
  have L:(a:Int)+o≤4294967296:=by omega
  clear D H
  go_enter Tryz.func148,Tryz.ntmps148
  go_wp2_with fail
  refine (Tryz.strings_IndexByte _ _ _).mono ?_
  rintro e z ⟨rfl,rfl⟩
  rw[h]
  go_wp2
  go_ret
  exact⟨n,zb7 I.out,A.out,rfl⟩
 ·have A:Hid (za2 zbv s a s.size):=ztI J (by rw[h];exact E)
  go_enter Tryz.func148,Tryz.ntmps148
  go_wp2_with fail
  refine (Tryz.strings_IndexByte _ _ _).mono ?_
  rintro e z ⟨rfl,rfl⟩
  rw[h]
  go_wp2
  go_ret
  exact⟨s.size,rfl,A.out,rfl⟩
def zlQ (s:ByteArray) (scr:Bool) (a:Nat) (v:Value) (z:Int):Prop:=
 (∃(t:Tk) (n:Nat),v=tkV t∧z=n∧Tok s scr a t n)∨(z=a∧(∃k x y u,v= .agg #[.int .i64 k,.string x,.int .i64 y,.int .i64 u])∧∀t n,¬Tok s scr a t n)
theorem zud (s:ByteArray) (a:Nat) (h:Bool) (w:World) (L:a<s.size) (N:zJ (bt s a)=true) (U:s.size≤4294967296):
  Calls Tryz.prog 153 #[.string s,.int .i64 a,.bool h] w fun e J=>∃v z,e= .returned (.tuple #[v,.int .i64 z])∧zlQ s h a v z∧Below w.heap.size w J:=by
 have q:Hid (zJ (bt s a)=true):=N
 go_enter Tryz.func153,Tryz.ntmps153
 go_wp2_with fail
 refine (zlP _ _ _ _ (by omega) U).mono ?_
 rintro e J ⟨n,rfl,H,rfl⟩
 have M:Hid (za2 (zK h) s a n):=H
 have V:a≤n:=H.1
 have I:n≤s.size:=H.2.1
 clear H
 go_wp2_with fail
 refine (zub _ _ (by rw[zeV _ _ _ I];omega)).mono ?_
 rintro e J ⟨rfl,rfl⟩
 by_cases E:RdP (s.extract a n)
 ·rw[zfD E]
  by_cases K:rdV (s.extract a n)≤1000000
  ·have A:Hid (zaX s a h (rdV (s.extract a n)) n):=ztM L q.out M.out E K
   obtain⟨x,D⟩: ∃x,rdV (s.extract a n)=x:=⟨_,rfl⟩
   rw[D] at K A ⊢
   have O:decide (1000000<x)=false:=decide_eq_false (by omega)
   go_wp2
   refine bodyPost_ret (zaI rfl _ _ w.heap.size 136 _ (0,0) _ rfl (heap_alloc_new w _) Tryz.underlying136 rfl (by kernel_rfl)) rfl ?_
   exact⟨_,_,rfl,.inl ⟨⟨2,{data:=#[]},x,a⟩,n,rfl,rfl,.num q.out A.out⟩,(Below.refl _ _).alloc (Nat.le_refl _) _⟩
  ·have A:Hid (∀t e,¬Tok s h a t e):=zhj q.out (zlJ L q.out M.out (.inr (by omega)))
   obtain⟨x,D⟩: ∃x,rdV (s.extract a n)=x:=⟨_,rfl⟩
   rw[D] at K ⊢
   have O:decide (1000000<x)=true:=decide_eq_true (by omega)
   go_wp2
   refine bodyPost_ret (zaI rfl _ _ w.heap.size 136 _ (0,0) _ rfl (heap_alloc_new w _) Tryz.underlying136 rfl (by kernel_rfl)) rfl ?_
   exact⟨_,_,rfl,.inr ⟨rfl,⟨_,_,_,_,rfl⟩,A.out⟩,(Below.refl _ _).alloc (Nat.le_refl _) _⟩
 ·have A:Hid (∀t e,¬Tok s h a t e):=zhj q.out (zlJ L q.out M.out (.inl E))
  rw[zd4 E]
  obtain⟨x,D⟩: ∃x,rdV (s.extract a n)=x:=⟨_,rfl⟩
  rw[D]
  go_wp2
  refine bodyPost_ret (zaI rfl _ _ w.heap.size 136 _ (0,0) _ rfl (heap_alloc_new w _) Tryz.underlying136 rfl (by kernel_rfl)) rfl ?_
  exact⟨_,_,rfl,.inr ⟨rfl,⟨_,_,_,_,rfl⟩,A.out⟩,(Below.refl _ _).alloc (Nat.le_refl _) _⟩
theorem zlR (w:World) (o:Obj):(w.alloc o).heap.size=w.heap.size+1:=by show (w.heap.push _).size=_;simp
theorem zue {w z:World} {A H D E:Value} {e:TypeId} (h:Below (w.alloc (.cells #[A,H,D,E] e)).heap.size (w.alloc (.cells #[A,H,D,E] e)) z):
  z.cell? ⟨w.heap.size,0,none⟩=some A∧z.cell? ⟨w.heap.size,1,none⟩=some H∧z.cell? ⟨w.heap.size,2,none⟩=some D∧z.cell? ⟨w.heap.size,3,none⟩=some E
  ∧z.frozen? ⟨w.heap.size,0,none⟩=false∧z.frozen? ⟨w.heap.size,1,none⟩=false∧z.frozen? ⟨w.heap.size,2,none⟩=false∧z.frozen? ⟨w.heap.size,3,none⟩=false:=by
 have q:w.heap.size<(w.alloc (.cells #[A,H,D,E] e)).heap.size:=by show _<(w.heap.push _).size;simp
 rw[h.cell q,h.cell q,h.cell q,h.cell q,h.frozen q,h.frozen q,h.frozen q,h.frozen q]
 simp
theorem zgI {w:World} {b i:Nat} {q:Array Value} {u:Value} {t:TypeId} (h:w.heap[b]? =some (.cells q t (0,0))):(w.setCell ⟨b,i,none⟩ u).heap[b]? =some (.cells (q.setIfInBounds i u) t (0,0)):=by
 simp only[World.setCell,Array.getElem?_modify]
 rw[if_pos trivial,h]
 rfl
theorem zlS {w:World} {b:Nat} {E J H I q D z A:Value} {t:TypeId} (h:w.heap[b]? =some (.cells #[E,J,H,I] t (0,0))):
  ((((w.setCell ⟨b,0,none⟩ q).setCell ⟨b,1,none⟩ D).setCell ⟨b,2,none⟩ z).setCell ⟨b,3,none⟩ A).heap[b]? =some (.cells #[q,D,z,A] t (0,0)):=
 zgI (zgI (zgI (zgI h)))
theorem zuf (s:ByteArray) (a:Nat) (D:Bool) (w:World) (ha:a<s.size) (hd:bt s a=34) (hs:s.size≤4294967296):
  Calls Tryz.prog 154 #[.string s,.int .i64 a] w fun e K=>∃v z,e= .returned (.tuple #[v,.int .i64 z])∧zlQ s D a v z∧Below w.heap.size w K:=by
 have V:Hid (bt s a=34):=hd
 have hb:=get_bt s
 obtain⟨E,N⟩: ∃E,E=a+1:=⟨_,rfl⟩
 have ea:(a:Int)+1=(E:Int):=by omega
 have Z:Hid (E=a+1):=N
 have ag:E≤s.size:=by omega
 clear hd N
 go_enter Tryz.func154,Tryz.ntmps154
 go_wp2
 go_loop [7] (fun i=>∃k:Nat,a<k∧k≤s.size∧i= .int .i64 k∧∀j,a<j→j<k→zb8 (bt s j)) (fun i=>(s.size-intOf i).toNat)
 case atStart=>exact⟨E,by omega,by omega,rfl,fun j U h2=>by omega⟩
 case round=>
  obtain⟨k,X,aa,rfl,M⟩:=hrel
  have ak:E≤k:=by omega
  have q:Hid (∀j,a<j→j<k→zb8 (bt s j)):=M
  clear M
  by_cases ae:k<s.size
  ·have H:=bt_nonneg s k
   have I:=bt_le s k
   cases L:zet (bt s k) with
   |true=>
    have HX:Hid (∀j,a<j→j<k+1→zb8 (bt s j)):=fun j U h2=>by
     by_cases e:j=k
     ·rw[e];exact of_decide_eq_true L
     ·exact q.out j U (by omega)
    go_wp2_with (first|(go_at_call 175;refine (zgG _ _ H I).mono ?_;rintro e K ⟨rfl,rfl⟩))
    go_round
    case rel=>exact⟨k+1,by omega,by omega,by go_num,HX.out⟩
    case measure=>simp[intOf];omega
   |false=>
    have Y:Hid (¬zb8 (bt s k)):=of_decide_eq_false L
    have q0:((k:Int)==(s.size:Int))=false:=beq_eq_false_iff_ne.2 (by omega)
    by_cases h:bt s k=34
    ·by_cases hl:k≤a+41
     ·have HE:Hid (zbw s a (k+1)):=⟨by omega,by omega,by omega,by rw[Nat.add_sub_cancel];exact h,fun j U h2=>q.out j U (by omega)⟩
      have q1:(bt s k !=34)=false:=by rw[h];rfl
      have q2:decide ((40:Int)<(k:Int)-(E:Int))=false:=decide_eq_false (by omega)
      clear h
      go_wp2_with (first|(go_at_call 152;refine (zih _ _ (by rw[zeV _ _ _ aa];omega)).mono ?_;rintro e w1 ⟨rfl,A⟩;have J:=zue A;obtain⟨ac,aj,ab,ad,al,ai,af,ah⟩:=J)|(go_at_call 175;refine (zgG _ _ H I).mono ?_;rintro e K ⟨rfl,rfl⟩))
      refine bodyPost_ret (zaI rfl _ _ w.heap.size 136 _ (0,0) _ rfl (zlS ((A.block _ (by rw[zlR];omega)).trans (heap_alloc_new w _))) Tryz.underlying136 rfl (by kernel_rfl)) rfl ?_
      exact⟨_,_,rfl,.inl ⟨⟨3,s.extract (a+1) (k+1-1),0,a⟩,k+1,by rw[Z.out];rfl,by omega,.str V.out HE.out⟩,(((((Below.refl _ _).alloc (Nat.le_refl _) _).trans (A.mono (by rw[zlR];omega))).setCell (Nat.le_refl _) _).setCell (Nat.le_refl _) _).setCell (Nat.le_refl _) _|>.setCell (Nat.le_refl _) _⟩
     ·have O:Hid (∀t e,¬Tok s D a t e):=zga V.out (zfY q.out (.inr (by omega)))
      have q1:(bt s k !=34)=false:=by rw[h];rfl
      have q2:decide ((40:Int)<(k:Int)-(E:Int))=true:=decide_eq_true (by omega)
      clear h
      go_wp2_with (first|(go_at_call 175;refine (zgG _ _ H I).mono ?_;rintro e K ⟨rfl,rfl⟩))
      refine bodyPost_ret (zaI rfl _ _ w.heap.size 136 _ (0,0) _ rfl (heap_alloc_new w _) Tryz.underlying136 rfl (by kernel_rfl)) rfl ?_
      exact⟨_,_,rfl,.inr ⟨rfl,⟨_,_,_,_,rfl⟩,O.out⟩,(Below.refl _ _).alloc (Nat.le_refl _) _⟩
    ·have O:Hid (∀t e,¬Tok s D a t e):=zga V.out (zfZ X q.out h Y.out)
     have q1:(bt s k !=34)=true:=bne_iff_ne.2 h
     clear h
     go_wp2_with (first|(go_at_call 175;refine (zgG _ _ H I).mono ?_;rintro e K ⟨rfl,rfl⟩))
     refine bodyPost_ret (zaI rfl _ _ w.heap.size 136 _ (0,0) _ rfl (heap_alloc_new w _) Tryz.underlying136 rfl (by kernel_rfl)) rfl ?_
     exact⟨_,_,rfl,.inr ⟨rfl,⟨_,_,_,_,rfl⟩,O.out⟩,(Below.refl _ _).alloc (Nat.le_refl _) _⟩
  ·have O:Hid (∀t e,¬Tok s D a t e):=zga V.out (zfY q.out (.inl (by omega)))
   have q0:((k:Int)==(s.size:Int))=true:=beq_iff_eq.2 (by omega)
   go_wp2
   refine bodyPost_ret (zaI rfl _ _ w.heap.size 136 _ (0,0) _ rfl (heap_alloc_new w _) Tryz.underlying136 rfl (by kernel_rfl)) rfl ?_
   exact⟨_,_,rfl,.inr ⟨rfl,⟨_,_,_,_,rfl⟩,O.out⟩,(Below.refl _ _).alloc (Nat.le_refl _) _⟩
end Go.Proofs.YtcidlffeeninbaaGreat