/- Facts and walks that the theorem stands on. -/
import Derived.Test.YtgcbmogmniahjaaGreatG36
import Derived.Test.YtgcbmogmniahjaaGreatG14
import Derived.Test.YtgcbmogmniahjaaGreatG7
namespace Go.Proofs.YtgcbmogmniahjaaGreat
open Go.Proofs.Tryz
set_option maxHeartbeats 3200000
open Go.RowKit Go.PlainAid
theorem zew (c:Int) (w:World) (A:0<=c) (q:c<=255):
  Calls prog 185 #[.string {data:=#[9,10,13,32]},.int .u8 c] w fun e h=>e= .returned (.bool (zfJ c))/\h=w:=by
 have z:Hid (decide (0<=Lib.indexByte [9,10,13,32] c.toNat.toUInt8)=zfJ c):=zub c A q;go_enter func185,ntmps185;go_wp2_with fail;refine (Tryz.strings_IndexByte _ _ _).mono ?_;rintro e h ⟨rfl,rfl⟩;go_wp2;go_ret;exact⟨zi z.o,rfl⟩
theorem zme (c:Int) (w:World) (A:0<=c) (q:c<=255):
  Calls prog 185 #[.string {data:=#[123,125,40,41,44,59,61,46,42,43,45]},.int .u8 c] w fun e h=>e= .returned (.bool (zfK c))/\h=w:=by
 have z:Hid (decide (0<=Lib.indexByte [123,125,40,41,44,59,61,46,42,43,45] c.toNat.toUInt8)=zfK c):=zuc c A q;go_enter func185,ntmps185;go_wp2_with fail;refine (Tryz.strings_IndexByte _ _ _).mono ?_;rintro e h ⟨rfl,rfl⟩;go_wp2;go_ret;exact⟨zi z.o,rfl⟩
theorem zio (s:BA) (w:World) (h:s.size<=281474976710656):
  Calls prog 191 #[.string s] w fun e q=>e= .returned (.string s)/\Below w.heap.size w q:=by
 go_enter func191,ntmps191;go_wp2_with fail;refine (Tryz.stringslite_Clone _ _ h).mono ?_;rintro e q ⟨rfl,z⟩;go_wp2;go_ret;exact⟨rfl,z⟩
theorem zmf (s:BA) (a:Nat) (q:Bool) (w:World) (N:a<=s.size) (Y:s.size<=4294967296):
  Calls prog 190 #[.string s,.int .i64 a,.bool q] w fun e K=>∃n:Nat,e= .returned (.int .i64 n)/\za1 (zL q) s a n/\K=w:=by
 have X:=get_bt s;go_enter func190,ntmps190;go_wp2;go_loop [1] (fun i=>∃k:Nat,a<=k/\k<=s.size/\i= .int .i64 k/\∀j,a<=j->j<k->zL q (bt s j)=true) (fun i=>(s.size-intOf i).toNat)
 case atStart=>exact⟨a,Nat.le_refl _,N,rfl,fun j V U=>by omega⟩
 case round=>
  obtain⟨k,H,E,rfl,A⟩:=hrel;have z:Hid (∀j,a<=j->j<k->zL q (bt s j)=true):=A;clear A;by_cases J:k<s.size
  ·have D:=bt_nonneg s k;have I:=bt_le s k;cases M:zL q (bt s k) with
   |true=>
    have O:Hid (∀j,a<=j->j<k+1->zL q (bt s j)=true):=zfo z.o M;go_wp2_with (first|(go_at_call 189;refine (zeQ _ _ _ D I).mono ?_;rintro e K ⟨rfl,rfl⟩));go_round
    case rel=>exact⟨k+1,by omega,by omega,by go_num,O.o⟩
    case measure=>simp[intOf];omega
   |false=>
    have L:Hid (za1 (zL q) s a k):=⟨H,E,z.o,fun _=>M⟩;go_wp2_with (first|(go_at_call 189;refine (zeQ _ _ _ D I).mono ?_;rintro e K ⟨rfl,rfl⟩));go_ret;exact⟨k,rfl,L.o,rfl⟩
  ·have L:Hid (za1 (zL q) s a k):=⟨H,E,z.o,fun h=>absurd h J⟩;go_wp2;go_ret;exact⟨k,rfl,L.o,rfl⟩
theorem zuy (s:BA) (a:Nat) (w:World) (J:a<=s.size) (M:s.size<=4294967296):
  Calls prog 187 #[.string s,.int .i64 a] w fun e z=>∃n:Nat,e= .returned (.int .i64 n)/\za1 zby s a n/\z=w:=by
 obtain⟨o,h⟩: ∃o,Lib.indexByte (s.extract a s.size).data.toList (10:Int).toNat.toUInt8=o:=⟨_,rfl⟩;have q:=Lib.indexByte_ge (s.extract a s.size).data.toList (10:Int).toNat.toUInt8;rw[h] at q;by_cases E:0<=o
 ·obtain⟨n,H,D,I⟩:=zud E h;have K:Hid ((a:Int)+o=n):=H;have A:Hid (za1 zby s a n):=D;have L:(a:Int)+o<=4294967296:=by omega
  clear H D;go_enter func187,ntmps187;go_wp2_with fail;refine (Tryz.strings_IndexByte _ _ _).mono ?_;rintro e z ⟨rfl,rfl⟩;rw[h];go_wp2;go_ret;exact⟨n,zbA K.o,A.o,rfl⟩
 ·have A:Hid (za1 zby s a s.size):=zue J (by rw[h];exact E);go_enter func187,ntmps187;go_wp2_with fail;refine (Tryz.strings_IndexByte _ _ _).mono ?_;rintro e z ⟨rfl,rfl⟩;rw[h];go_wp2;go_ret;exact⟨s.size,rfl,A.o,rfl⟩
def zmg (s:BA) (scr:Bool) (a:Nat) (v:Value) (z:Int):Prop:=
 (∃(t:Tk) (n:Nat),v=tkV t/\z=n/\Tok s scr a t n)∨(z=a/\(∃k x y u,v= .agg #[.int .i64 k,.string x,.int .i64 y,.int .i64 u])/\∀t n,¬Tok s scr a t n)
theorem zuz (s:BA) (a:Nat) (h:Bool) (w:World) (K:a<s.size) (N:zJ (bt s a)=true) (U:s.size<=4294967296):
  Calls prog 192 #[.string s,.int .i64 a,.bool h] w fun e I=>∃v z,e= .returned (.tuple #[v,.int .i64 z])/\zmg s h a v z/\Below w.heap.size w I:=by
 have A:Hid (zJ (bt s a)=true):=N;go_enter func192,ntmps192;go_wp2_with fail;refine (zmf _ _ _ _ (by omega) U).mono ?_;rintro e I ⟨n,rfl,H,rfl⟩;have L:Hid (za1 (zL h) s a n):=H;have V:a<=n:=H.1;have M:n<=s.size:=H.2.1;clear H;go_wp2_with fail;refine (zux _ _ (by rw[zeT _ _ _ M];omega)).mono ?_;rintro e I ⟨rfl,rfl⟩;by_cases E:RdP (s.extract a n)
 ·rw[zfH E];by_cases J:rdV (s.extract a n)<=1000000
  ·have q:Hid (zaZ s a h (rdV (s.extract a n)) n):=zui K A.o L.o E J;obtain⟨x,D⟩: ∃x,rdV (s.extract a n)=x:=⟨_,rfl⟩;rw[D] at J q ⊢;have O:decide (1000000<x)=false:=decide_eq_false (by omega);go_wp2;refine bodyPost_ret (za8 rfl _ _ w.heap.size 158 _ (0,0) _ rfl (heap_alloc_new w _) underlying158 rfl (by kernel_rfl)) rfl ?_;exact⟨_,_,rfl,.inl ⟨⟨2,{data:=#[]},x,a⟩,n,rfl,rfl,.num A.o q.o⟩,(Below.refl _ _).alloc (Nat.le_refl _) _⟩
  ·have q:Hid (∀t e,¬Tok s h a t e):=zhr A.o (zlZ K A.o L.o (.inr (by omega)));obtain⟨x,D⟩: ∃x,rdV (s.extract a n)=x:=⟨_,rfl⟩;rw[D] at J ⊢;have O:decide (1000000<x)=true:=decide_eq_true (by omega);go_wp2;refine bodyPost_ret (za8 rfl _ _ w.heap.size 158 _ (0,0) _ rfl (heap_alloc_new w _) underlying158 rfl (by kernel_rfl)) rfl ?_;exact⟨_,_,rfl,.inr ⟨rfl,⟨_,_,_,_,rfl⟩,q.o⟩,(Below.refl _ _).alloc (Nat.le_refl _) _⟩
 ·have q:Hid (∀t e,¬Tok s h a t e):=zhr A.o (zlZ K A.o L.o (.inl E));rw[zd5 E];obtain⟨x,D⟩: ∃x,rdV (s.extract a n)=x:=⟨_,rfl⟩;rw[D];go_wp2;refine bodyPost_ret (za8 rfl _ _ w.heap.size 158 _ (0,0) _ rfl (heap_alloc_new w _) underlying158 rfl (by kernel_rfl)) rfl ?_;exact⟨_,_,rfl,.inr ⟨rfl,⟨_,_,_,_,rfl⟩,q.o⟩,(Below.refl _ _).alloc (Nat.le_refl _) _⟩
theorem zmh (w:World) (o:Obj):(w.alloc o).heap.size=w.heap.size+1:=by show (w.heap.push _).size=_;simp
theorem zu0 {w z:World} {v0 v1 v2 v3:Value} {e:TypeId} (h:Below (w.alloc (.cells #[v0,v1,v2,v3] e)).heap.size (w.alloc (.cells #[v0,v1,v2,v3] e)) z):
  z.cell? ⟨w.heap.size,0,none⟩=some v0/\z.cell? ⟨w.heap.size,1,none⟩=some v1/\z.cell? ⟨w.heap.size,2,none⟩=some v2/\z.cell? ⟨w.heap.size,3,none⟩=some v3
  /\z.frozen? ⟨w.heap.size,0,none⟩=false/\z.frozen? ⟨w.heap.size,1,none⟩=false/\z.frozen? ⟨w.heap.size,2,none⟩=false/\z.frozen? ⟨w.heap.size,3,none⟩=false:=by
 have q:w.heap.size<(w.alloc (.cells #[v0,v1,v2,v3] e)).heap.size:=by show _<(w.heap.push _).size;simp
 rw[h.cell q,h.cell q,h.cell q,h.cell q,h.frozen q,h.frozen q,h.frozen q,h.frozen q];simp
theorem zgN {w:World} {b i:Nat} {q:Array Value} {u:Value} {t:TypeId} (h:w.heap[b]? =some (.cells q t (0,0))):(w.setCell ⟨b,i,none⟩ u).heap[b]? =some (.cells (q.setIfInBounds i u) t (0,0)):=by
 simp only[World.setCell,Array.getElem?_modify];rw[if_pos trivial,h];rfl
theorem zmi {w:World} {b:Nat} {v0 v1 v2 v3 q A z D:Value} {t:TypeId} (h:w.heap[b]? =some (.cells #[v0,v1,v2,v3] t (0,0))):
  ((((w.setCell ⟨b,0,none⟩ q).setCell ⟨b,1,none⟩ A).setCell ⟨b,2,none⟩ z).setCell ⟨b,3,none⟩ D).heap[b]? =some (.cells #[q,A,z,D] t (0,0)):=
 zgN (zgN (zgN (zgN h)))
theorem zu1 (s:BA) (a:Nat) (D:Bool) (w:World) (ha:a<s.size) (hd:bt s a=34) (hs:s.size<=4294967296):
  Calls prog 193 #[.string s,.int .i64 a] w fun e L=>∃v z,e= .returned (.tuple #[v,.int .i64 z])/\zmg s D a v z/\Below w.heap.size w L:=by
 have V:Hid (bt s a=34):=hd;have hb:=get_bt s;obtain⟨H,K⟩: ∃H,H=a+1:=⟨_,rfl⟩;have ea:(a:Int)+1=(H:Int):=by omega
 have Z:Hid (H=a+1):=K;have ag:H<=s.size:=by omega
 clear hd K;go_enter func193,ntmps193;go_wp2;go_loop [7] (fun i=>∃k:Nat,a<k/\k<=s.size/\i= .int .i64 k/\∀j,a<j->j<k->zbB (bt s j)) (fun i=>(s.size-intOf i).toNat)
 case atStart=>exact⟨H,by omega,by omega,rfl,fun j U h2=>by omega⟩
 case round=>
  obtain⟨k,Y,X,rfl,O⟩:=hrel;have ac:H<=k:=by omega
  have q:Hid (∀j,a<j->j<k->zbB (bt s j)):=O;clear O;by_cases ab:k<s.size
  ·have E:=bt_nonneg s k;have I:=bt_le s k;cases M:zet (bt s k) with
   |true=>
    have HX:Hid (∀j,a<j->j<k+1->zbB (bt s j)):=fun j U h2=>by
     by_cases e:j=k
     ·rw[e];exact of_decide_eq_true M
     ·exact q.o j U (by omega)
    go_wp2_with (first|(go_at_call 210;refine (zgL _ _ E I).mono ?_;rintro e L ⟨rfl,rfl⟩));go_round
    case rel=>exact⟨k+1,by omega,by omega,by go_num,HX.o⟩
    case measure=>simp[intOf];omega
   |false=>
    have aa:Hid (¬zbB (bt s k)):=of_decide_eq_false M;have q0:((k:Int)==(s.size:Int))=false:=beq_eq_false_iff_ne.2 (by omega);by_cases h:bt s k=34
    ·by_cases hl:k<=a+41
     ·have HE:Hid (zbz s a (k+1)):=⟨by omega,by omega,by omega,by rw[Nat.add_sub_cancel];exact h,fun j U h2=>q.o j U (by omega)⟩;have q1:(bt s k !=34)=false:=by rw[h];rfl
      have q2:decide ((40:Int)<(k:Int)-(H:Int))=false:=decide_eq_false (by omega);clear h;go_wp2_with (first|(go_at_call 191;refine (zio _ _ (by rw[zeT _ _ _ X];omega)).mono ?_;rintro e w1 ⟨rfl,A⟩;have J:=zu0 A;obtain⟨ad,al,ah,ak,af,aj,ai,ae⟩:=J)|(go_at_call 210;refine (zgL _ _ E I).mono ?_;rintro e L ⟨rfl,rfl⟩));refine bodyPost_ret (za8 rfl _ _ w.heap.size 158 _ (0,0) _ rfl (zmi ((A.block _ (by rw[zmh];omega)).trans (heap_alloc_new w _))) underlying158 rfl (by kernel_rfl)) rfl ?_;exact⟨_,_,rfl,.inl ⟨⟨3,s.extract (a+1) (k+1-1),0,a⟩,k+1,by rw[Z.o];rfl,by omega,.str V.o HE.o⟩,(((((Below.refl _ _).alloc (Nat.le_refl _) _).trans (A.mono (by rw[zmh];omega))).setCell (Nat.le_refl _) _).setCell (Nat.le_refl _) _).setCell (Nat.le_refl _) _|>.setCell (Nat.le_refl _) _⟩
     ·have N:Hid (∀t e,¬Tok s D a t e):=zgd V.o (zgb q.o (.inr (by omega)));have q1:(bt s k !=34)=false:=by rw[h];rfl
      have q2:decide ((40:Int)<(k:Int)-(H:Int))=true:=decide_eq_true (by omega);clear h;go_wp2_with (first|(go_at_call 210;refine (zgL _ _ E I).mono ?_;rintro e L ⟨rfl,rfl⟩));refine bodyPost_ret (za8 rfl _ _ w.heap.size 158 _ (0,0) _ rfl (heap_alloc_new w _) underlying158 rfl (by kernel_rfl)) rfl ?_;exact⟨_,_,rfl,.inr ⟨rfl,⟨_,_,_,_,rfl⟩,N.o⟩,(Below.refl _ _).alloc (Nat.le_refl _) _⟩
    ·have N:Hid (∀t e,¬Tok s D a t e):=zgd V.o (zgc Y q.o h aa.o);have q1:(bt s k !=34)=true:=bne_iff_ne.2 h;clear h;go_wp2_with (first|(go_at_call 210;refine (zgL _ _ E I).mono ?_;rintro e L ⟨rfl,rfl⟩));refine bodyPost_ret (za8 rfl _ _ w.heap.size 158 _ (0,0) _ rfl (heap_alloc_new w _) underlying158 rfl (by kernel_rfl)) rfl ?_;exact⟨_,_,rfl,.inr ⟨rfl,⟨_,_,_,_,rfl⟩,N.o⟩,(Below.refl _ _).alloc (Nat.le_refl _) _⟩
  ·have N:Hid (∀t e,¬Tok s D a t e):=zgd V.o (zgb q.o (.inl (by omega)));have q0:((k:Int)==(s.size:Int))=true:=beq_iff_eq.2 (by omega);go_wp2;refine bodyPost_ret (za8 rfl _ _ w.heap.size 158 _ (0,0) _ rfl (heap_alloc_new w _) underlying158 rfl (by kernel_rfl)) rfl ?_;exact⟨_,_,rfl,.inr ⟨rfl,⟨_,_,_,_,rfl⟩,N.o⟩,(Below.refl _ _).alloc (Nat.le_refl _) _⟩
end Go.Proofs.YtgcbmogmniahjaaGreat
