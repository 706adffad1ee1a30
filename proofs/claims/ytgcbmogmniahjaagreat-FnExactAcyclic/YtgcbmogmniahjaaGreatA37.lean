/- Facts and walks that the theorem stands on. -/
import Derived.Test.YtgcbmogmniahjaaGreatA36
import Derived.Test.YtgcbmogmniahjaaGreatA14
import Derived.Test.YtgcbmogmniahjaaGreatA7
namespace Go.Proofs.YtgcbmogmniahjaaGreat
open Go.Proofs.Tryz
set_option maxHeartbeats 3200000
open Go.RowKit Go.PlainAid
theorem ze4 (c:Int) (w:World) (z:0<=c) (h:c<=255):
  Calls prog 185 #[.string {data:=#[9,10,13,32]},.int .u8 c] w fun e w'=>e= .returned (.bool (zfS c))/\w'=w:=by
 have q:Hid (decide (0<=Lib.indexByte [9,10,13,32] c.toNat.toUInt8)=zfS c):=zu0 c z h;go_enter func185,ntmps185;go_wp2_with fail;refine (Tryz.strings_IndexByte _ _ _).mono ?_;rintro e w' ⟨rfl,rfl⟩;go_wp2;go_ret;exact⟨zi q.o,rfl⟩
theorem zmu (c:Int) (w:World) (z:0<=c) (h:c<=255):
  Calls prog 185 #[.string {data:=#[123,125,40,41,44,59,61,46,42,43,45]},.int .u8 c] w fun e w'=>e= .returned (.bool (zfT c))/\w'=w:=by
 have q:Hid (decide (0<=Lib.indexByte [123,125,40,41,44,59,61,46,42,43,45] c.toNat.toUInt8)=zfT c):=zu1 c z h;go_enter func185,ntmps185;go_wp2_with fail;refine (Tryz.strings_IndexByte _ _ _).mono ?_;rintro e w' ⟨rfl,rfl⟩;go_wp2;go_ret;exact⟨zi q.o,rfl⟩
theorem zi5 (s:BA) (w:World) (h:s.size<=281474976710656):
  Calls prog 191 #[.string s] w fun e w'=>e= .returned (.string s)/\Below w.heap.size w w':=by
 go_enter func191,ntmps191;go_wp2_with fail;refine (Tryz.stringslite_Clone _ _ h).mono ?_;rintro e w' ⟨rfl,q⟩;go_wp2;go_ret;exact⟨rfl,q⟩
theorem zmv (s:BA) (a:Nat) (q:Bool) (w:World) (O:a<=s.size) (Z:s.size<=4294967296):
  Calls prog 190 #[.string s,.int .i64 a,.bool q] w fun e w'=>∃n:Nat,e= .returned (.int .i64 n)/\za3 (zM q) s a n/\w'=w:=by
 have Y:=get_bt s;go_enter func190,ntmps190;go_wp2;go_loop [1] (fun i=>∃k:Nat,a<=k/\k<=s.size/\i= .int .i64 k/\∀j,a<=j->j<k->zM q (bt s j)=true) (fun i=>(s.size-intOf i).toNat)
 case atStart=>exact⟨a,Nat.le_refl _,O,rfl,fun j X V=>by omega⟩
 case round=>
  obtain⟨k,J,I,rfl,A⟩:=hrel;have z:Hid (∀j,a<=j->j<k->zM q (bt s j)=true):=A;clear A;by_cases L:k<s.size
  ·have H:=bt_nonneg s k;have K:=bt_le s k;cases N:zM q (bt s k) with
   |true=>
    have U:Hid (∀j,a<=j->j<k+1->zM q (bt s j)=true):=zfw z.o N;go_wp2_with (first|(go_at_call 189;refine (zeY _ _ _ H K).mono ?_;rintro e w' ⟨rfl,rfl⟩));go_round
    case rel=>exact⟨k+1,by omega,by omega,by go_num,U.o⟩
    case measure=>simp[intOf];omega
   |false=>
    have M:Hid (za3 (zM q) s a k):=⟨J,I,z.o,fun _=>N⟩;go_wp2_with (first|(go_at_call 189;refine (zeY _ _ _ H K).mono ?_;rintro e w' ⟨rfl,rfl⟩));go_ret;exact⟨k,rfl,M.o,rfl⟩
  ·have M:Hid (za3 (zM q) s a k):=⟨J,I,z.o,fun h=>absurd h L⟩;go_wp2;go_ret;exact⟨k,rfl,M.o,rfl⟩
theorem zuN (s:BA) (a:Nat) (w:World) (K:a<=s.size) (N:s.size<=4294967296):
  Calls prog 187 #[.string s,.int .i64 a] w fun e w'=>∃n:Nat,e= .returned (.int .i64 n)/\za3 zbz s a n/\w'=w:=by
 obtain⟨o,h⟩: ∃o,Lib.indexByte (s.extract a s.size).data.toList (10:Int).toNat.toUInt8=o:=⟨_,rfl⟩;have q:=Lib.indexByte_ge (s.extract a s.size).data.toList (10:Int).toNat.toUInt8;rw[h] at q;by_cases H:0<=o
 ·obtain⟨n,I,A,J⟩:=zu2 H h;have L:Hid ((a:Int)+o=n):=I;have z:Hid (za3 zbz s a n):=A;have M:(a:Int)+o<=4294967296:=by omega
  clear I A;go_enter func187,ntmps187;go_wp2_with fail;refine (Tryz.strings_IndexByte _ _ _).mono ?_;rintro e w' ⟨rfl,rfl⟩;rw[h];go_wp2;go_ret;exact⟨n,zbC L.o,z.o,rfl⟩
 ·have z:Hid (za3 zbz s a s.size):=zu3 K (by rw[h];exact H);go_enter func187,ntmps187;go_wp2_with fail;refine (Tryz.strings_IndexByte _ _ _).mono ?_;rintro e w' ⟨rfl,rfl⟩;rw[h];go_wp2;go_ret;exact⟨s.size,rfl,z.o,rfl⟩
def zmw (s:BA) (scr:Bool) (a:Nat) (v:Value) (z:Int):Prop:=
 (∃(t:Tk) (n:Nat),v=tkV t/\z=n/\Tok s scr a t n)∨(z=a/\(∃k x y u,v= .agg #[.int .i64 k,.string x,.int .i64 y,.int .i64 u])/\∀t n,¬Tok s scr a t n)
theorem zuO (s:BA) (a:Nat) (h:Bool) (w:World) (L:a<s.size) (O:zK (bt s a)=true) (V:s.size<=4294967296):
  Calls prog 192 #[.string s,.int .i64 a,.bool h] w fun e w'=>∃v z,e= .returned (.tuple #[v,.int .i64 z])/\zmw s h a v z/\Below w.heap.size w w':=by
 have A:Hid (zK (bt s a)=true):=O;go_enter func192,ntmps192;go_wp2_with fail;refine (zmv _ _ _ _ (by omega) V).mono ?_;rintro e w' ⟨n,rfl,J,rfl⟩;have M:Hid (za3 (zM h) s a n):=J;have X:a<=n:=J.1;have N:n<=s.size:=J.2.1;clear J;go_wp2_with fail;refine (zuM _ _ (by rw[zfb _ _ _ N];omega)).mono ?_;rintro e w' ⟨rfl,rfl⟩;by_cases I:RdP (s.extract a n)
 ·rw[zfQ I];by_cases K:rdV (s.extract a n)<=1000000
  ·have q:Hid (zba s a h (rdV (s.extract a n)) n):=zu7 L A.o M.o I K;obtain⟨x,H⟩: ∃x,rdV (s.extract a n)=x:=⟨_,rfl⟩;rw[H] at K q ⊢;have U:decide (1000000<x)=false:=decide_eq_false (by omega);go_wp2;refine bodyPost_ret (zaA rfl _ _ w.heap.size 158 _ (0,0) _ rfl (heap_alloc_new w _) underlying158 rfl (by kernel_rfl)) rfl ?_;exact⟨_,_,rfl,.inl ⟨⟨2,{data:=#[]},x,a⟩,n,rfl,rfl,.num A.o q.o⟩,(Below.refl _ _).alloc (Nat.le_refl _) _⟩
  ·have q:Hid (∀t e,¬Tok s h a t e):=zh5 A.o (zmp L A.o M.o (.inr (by omega)));obtain⟨x,H⟩: ∃x,rdV (s.extract a n)=x:=⟨_,rfl⟩;rw[H] at K ⊢;have U:decide (1000000<x)=true:=decide_eq_true (by omega);go_wp2;refine bodyPost_ret (zaA rfl _ _ w.heap.size 158 _ (0,0) _ rfl (heap_alloc_new w _) underlying158 rfl (by kernel_rfl)) rfl ?_;exact⟨_,_,rfl,.inr ⟨rfl,⟨_,_,_,_,rfl⟩,q.o⟩,(Below.refl _ _).alloc (Nat.le_refl _) _⟩
 ·have q:Hid (∀t e,¬Tok s h a t e):=zh5 A.o (zmp L A.o M.o (.inl I));rw[zdC I];obtain⟨x,H⟩: ∃x,rdV (s.extract a n)=x:=⟨_,rfl⟩;rw[H];go_wp2;refine bodyPost_ret (zaA rfl _ _ w.heap.size 158 _ (0,0) _ rfl (heap_alloc_new w _) underlying158 rfl (by kernel_rfl)) rfl ?_;exact⟨_,_,rfl,.inr ⟨rfl,⟨_,_,_,_,rfl⟩,q.o⟩,(Below.refl _ _).alloc (Nat.le_refl _) _⟩
theorem zmx (w:World) (o:Obj):(w.alloc o).heap.size=w.heap.size+1:=by show (w.heap.push _).size=_;simp
theorem zuP {w z:World} {v0 v1 v2 v3:Value} {e:TypeId} (h:Below (w.alloc (.cells #[v0,v1,v2,v3] e)).heap.size (w.alloc (.cells #[v0,v1,v2,v3] e)) z):
  z.cell? ⟨w.heap.size,0,none⟩=some v0/\z.cell? ⟨w.heap.size,1,none⟩=some v1/\z.cell? ⟨w.heap.size,2,none⟩=some v2/\z.cell? ⟨w.heap.size,3,none⟩=some v3
  /\z.frozen? ⟨w.heap.size,0,none⟩=false/\z.frozen? ⟨w.heap.size,1,none⟩=false/\z.frozen? ⟨w.heap.size,2,none⟩=false/\z.frozen? ⟨w.heap.size,3,none⟩=false:=by
 have q:w.heap.size<(w.alloc (.cells #[v0,v1,v2,v3] e)).heap.size:=by show _<(w.heap.push _).size;simp
 rw[h.cell q,h.cell q,h.cell q,h.cell q,h.frozen q,h.frozen q,h.frozen q,h.frozen q];simp
theorem zgX {w:World} {b i:Nat} {q:Array Value} {u:Value} {t:TypeId} (h:w.heap[b]? =some (.cells q t (0,0))):(w.setCell ⟨b,i,none⟩ u).heap[b]? =some (.cells (q.setIfInBounds i u) t (0,0)):=by
 simp only[World.setCell,Array.getElem?_modify];rw[if_pos trivial,h];rfl
theorem zmy {w:World} {b:Nat} {v0 v1 v2 v3 q A z H:Value} {t:TypeId} (h:w.heap[b]? =some (.cells #[v0,v1,v2,v3] t (0,0))):
  ((((w.setCell ⟨b,0,none⟩ q).setCell ⟨b,1,none⟩ A).setCell ⟨b,2,none⟩ z).setCell ⟨b,3,none⟩ H).heap[b]? =some (.cells #[q,A,z,H] t (0,0)):=
 zgX (zgX (zgX (zgX h)))
theorem zuQ (s:BA) (a:Nat) (H:Bool) (w:World) (ha:a<s.size) (hd:bt s a=34) (hs:s.size<=4294967296):
  Calls prog 193 #[.string s,.int .i64 a] w fun e w'=>∃v z,e= .returned (.tuple #[v,.int .i64 z])/\zmw s H a v z/\Below w.heap.size w w':=by
 have X:Hid (bt s a=34):=hd;have hb:=get_bt s;obtain⟨J,M⟩: ∃J,J=a+1:=⟨_,rfl⟩;have ea:(a:Int)+1=(J:Int):=by omega
 have aa:Hid (J=a+1):=M;have ah:J<=s.size:=by omega
 clear hd M;go_enter func193,ntmps193;go_wp2;go_loop [7] (fun i=>∃k:Nat,a<k/\k<=s.size/\i= .int .i64 k/\∀j,a<j->j<k->zbD (bt s j)) (fun i=>(s.size-intOf i).toNat)
 case atStart=>exact⟨J,by omega,by omega,rfl,fun j V h2=>by omega⟩
 case round=>
  obtain⟨k,Z,Y,rfl,U⟩:=hrel;have ad:J<=k:=by omega
  have q:Hid (∀j,a<j->j<k->zbD (bt s j)):=U;clear U;by_cases ac:k<s.size
  ·have I:=bt_nonneg s k;have K:=bt_le s k;cases N:ze1 (bt s k) with
   |true=>
    have HX:Hid (∀j,a<j->j<k+1->zbD (bt s j)):=fun j V h2=>by
     by_cases e:j=k
     ·rw[e];exact of_decide_eq_true N
     ·exact q.o j V (by omega)
    go_wp2_with (first|(go_at_call 210;refine (zgV _ _ I K).mono ?_;rintro e w' ⟨rfl,rfl⟩));go_round
    case rel=>exact⟨k+1,by omega,by omega,by go_num,HX.o⟩
    case measure=>simp[intOf];omega
   |false=>
    have ab:Hid (¬zbD (bt s k)):=of_decide_eq_false N;have q0:((k:Int)==(s.size:Int))=false:=beq_eq_false_iff_ne.2 (by omega);by_cases h:bt s k=34
    ·by_cases hl:k<=a+41
     ·have HE:Hid (zb0 s a (k+1)):=⟨by omega,by omega,by omega,by rw[Nat.add_sub_cancel];exact h,fun j V h2=>q.o j V (by omega)⟩;have q1:(bt s k !=34)=false:=by rw[h];rfl
      have q2:decide ((40:Int)<(k:Int)-(J:Int))=false:=decide_eq_false (by omega);clear h;go_wp2_with (first|(go_at_call 191;refine (zi5 _ _ (by rw[zfb _ _ _ Y];omega)).mono ?_;rintro e w1 ⟨rfl,A⟩;have L:=zuP A;obtain⟨ae,am,ai,al,ag,ak,aj,af⟩:=L)|(go_at_call 210;refine (zgV _ _ I K).mono ?_;rintro e w' ⟨rfl,rfl⟩));refine bodyPost_ret (zaA rfl _ _ w.heap.size 158 _ (0,0) _ rfl (zmy ((A.block _ (by rw[zmx];omega)).trans (heap_alloc_new w _))) underlying158 rfl (by kernel_rfl)) rfl ?_;exact⟨_,_,rfl,.inl ⟨⟨3,s.extract (a+1) (k+1-1),0,a⟩,k+1,by rw[aa.o];rfl,by omega,.str X.o HE.o⟩,(((((Below.refl _ _).alloc (Nat.le_refl _) _).trans (A.mono (by rw[zmx];omega))).setCell (Nat.le_refl _) _).setCell (Nat.le_refl _) _).setCell (Nat.le_refl _) _|>.setCell (Nat.le_refl _) _⟩
     ·have O:Hid (∀t e,¬Tok s H a t e):=zgm X.o (zgk q.o (.inr (by omega)));have q1:(bt s k !=34)=false:=by rw[h];rfl
      have q2:decide ((40:Int)<(k:Int)-(J:Int))=true:=decide_eq_true (by omega);clear h;go_wp2_with (first|(go_at_call 210;refine (zgV _ _ I K).mono ?_;rintro e w' ⟨rfl,rfl⟩));refine bodyPost_ret (zaA rfl _ _ w.heap.size 158 _ (0,0) _ rfl (heap_alloc_new w _) underlying158 rfl (by kernel_rfl)) rfl ?_;exact⟨_,_,rfl,.inr ⟨rfl,⟨_,_,_,_,rfl⟩,O.o⟩,(Below.refl _ _).alloc (Nat.le_refl _) _⟩
    ·have O:Hid (∀t e,¬Tok s H a t e):=zgm X.o (zgl Z q.o h ab.o);have q1:(bt s k !=34)=true:=bne_iff_ne.2 h;clear h;go_wp2_with (first|(go_at_call 210;refine (zgV _ _ I K).mono ?_;rintro e w' ⟨rfl,rfl⟩));refine bodyPost_ret (zaA rfl _ _ w.heap.size 158 _ (0,0) _ rfl (heap_alloc_new w _) underlying158 rfl (by kernel_rfl)) rfl ?_;exact⟨_,_,rfl,.inr ⟨rfl,⟨_,_,_,_,rfl⟩,O.o⟩,(Below.refl _ _).alloc (Nat.le_refl _) _⟩
  ·have O:Hid (∀t e,¬Tok s H a t e):=zgm X.o (zgk q.o (.inl (by omega)));have q0:((k:Int)==(s.size:Int))=true:=beq_iff_eq.2 (by omega);go_wp2;refine bodyPost_ret (zaA rfl _ _ w.heap.size 158 _ (0,0) _ rfl (heap_alloc_new w _) underlying158 rfl (by kernel_rfl)) rfl ?_;exact⟨_,_,rfl,.inr ⟨rfl,⟨_,_,_,_,rfl⟩,O.o⟩,(Below.refl _ _).alloc (Nat.le_refl _) _⟩
end Go.Proofs.YtgcbmogmniahjaaGreat
