/- Facts and walks. -/
import Derived.Test.YtgcbmogmniahjaaGreatK36
import Derived.Test.YtgcbmogmniahjaaGreatK14
import Derived.Test.YtgcbmogmniahjaaGreatK7
namespace Go.Proofs.YtgcbmogmniahjaaGreat
open Go.Proofs.Tryz
set_option maxHeartbeats 3200000
open Go.RowKit Go.PlainAid
theorem zeE (c:Int) (w:World) (A:0<=c) (q:c<=255):
  Calls prog 185 #[.string {data:=#[9,10,13,32]},.int .u8 c] w fun e h=>e= .returned (.bool (zgb c))/\h=w:=by
 have z:Hid (decide (0<=Lib.indexByte [9,10,13,32] c.toNat.toUInt8)=zgb c):=zuM c A q;go_enter func185,ntmps185;go_wp2_with fail;refine (Tryz.strings_IndexByte _ _ _).mono ?_;rintro e h ⟨rfl,rfl⟩;go_wp2;go_ret;exact⟨zi z.o,rfl⟩
theorem zm9 (c:Int) (w:World) (A:0<=c) (q:c<=255):
  Calls prog 185 #[.string {data:=#[123,125,40,41,44,59,61,46,42,43,45]},.int .u8 c] w fun e h=>e= .returned (.bool (zgc c))/\h=w:=by
 have z:Hid (decide (0<=Lib.indexByte [123,125,40,41,44,59,61,46,42,43,45] c.toNat.toUInt8)=zgc c):=zuN c A q;go_enter func185,ntmps185;go_wp2_with fail;refine (Tryz.strings_IndexByte _ _ _).mono ?_;rintro e h ⟨rfl,rfl⟩;go_wp2;go_ret;exact⟨zi z.o,rfl⟩
variable (s:BA) (g:Nat) (w:Bool) (W:World) {V:World} {C:Value} {S:TypeId} {b:Nat}
theorem ziE (h:s.size<=281474976710656):
  Calls prog 191 #[.string s] W fun e q=>e= .returned (.string s)/\Bw W q:=by
 go_enter func191,ntmps191;go_wp2_with fail;refine (Tryz.stringslite_Clone _ _ h).mono ?_;rintro e q ⟨rfl,z⟩;go_wp2;go_ret;exact⟨rfl,z⟩
theorem zmA (c:World) (N:g<=s.size) (Y:s.size<=4294967296):
  Calls prog 190 #[.string s,.int .i64 g,.bool w] c fun e K=>∃n:Nat,e= .returned (.int .i64 n)/\za6 (zN w) s g n/\K=c:=by
 have X:=get_bt s;go_enter func190,ntmps190;go_wp2;go_loop [1] (fun i=>∃k:Nat,g<=k/\k<=s.size/\i= .int .i64 k/\∀j,g<=j->j<k->zN w (bt s j)=true) (fun i=>(s.size-intOf i).toNat)
 case atStart=>exact⟨g,Nat.le_refl _,N,rfl,fun j V U=>by omega⟩
 case round=>
  obtain⟨k,H,E,rfl,A⟩:=hrel;have z:Hid (∀j,g<=j->j<k->zN w (bt s j)=true):=A;clear A;by_cases J:k<s.size
  ·have D:=bt_nonneg s k;have I:=bt_le s k;cases M:zN w (bt s k) with
   |true=>
    have O:Hid (∀j,g<=j->j<k+1->zN w (bt s j)=true):=zf6 z.o M;go_wp2_with (first|(go_at_call 189;refine (zfi _ _ _ D I).mono ?_;rintro e K ⟨rfl,rfl⟩));go_round
    case rel=>exact⟨k+1,by omega,by omega,by go_num,O.o⟩
    case measure=>simp[intOf];omega
   |false=>
    have L:Hid (za6 (zN w) s g k):=⟨H,E,z.o,fun _=>M⟩;go_wp2_with (first|(go_at_call 189;refine (zfi _ _ _ D I).mono ?_;rintro e K ⟨rfl,rfl⟩));go_ret;exact⟨k,rfl,L.o,rfl⟩
  ·have L:Hid (za6 (zN w) s g k):=⟨H,E,z.o,fun h=>absurd h J⟩;go_wp2;go_ret;exact⟨k,rfl,L.o,rfl⟩
theorem zvj (J:g<=s.size) (M:s.size<=4294967296):
  Calls prog 187 #[.string s,.int .i64 g] W fun e z=>∃n:Nat,e= .returned (.int .i64 n)/\za6 zb3 s g n/\z=W:=by
 obtain⟨o,h⟩: ∃o,Lib.indexByte (s.extract g s.size).data.toList (10:Int).toNat.toUInt8=o:=⟨_,rfl⟩;have q:=Lib.indexByte_ge (s.extract g s.size).data.toList (10:Int).toNat.toUInt8;rw[h] at q;by_cases E:0<=o
 ·obtain⟨n,H,D,I⟩:=zuO E h;have K:Hid ((g:Int)+o=n):=H;have A:Hid (za6 zb3 s g n):=D;have L:(g:Int)+o<=4294967296:=by omega
  clear H D;go_enter func187,ntmps187;go_wp2_with fail;refine (Tryz.strings_IndexByte _ _ _).mono ?_;rintro e z ⟨rfl,rfl⟩;rw[h];go_wp2;go_ret;exact⟨n,zbG K.o,A.o,rfl⟩
 ·have A:Hid (za6 zb3 s g s.size):=zuP J (by rw[h];exact E);go_enter func187,ntmps187;go_wp2_with fail;refine (Tryz.strings_IndexByte _ _ _).mono ?_;rintro e z ⟨rfl,rfl⟩;rw[h];go_wp2;go_ret;exact⟨s.size,rfl,A.o,rfl⟩
def zmB (s:BA) (scr:Bool) (a:Nat) (v:Value) (z:Int):Prop:=
 (∃(t:Tk) (n:Nat),v=tkV t/\z=n/\Tok s scr a t n)∨(z=a/\(∃k x y u,v= .agg #[.int .i64 k,.string x,.int .i64 y,.int .i64 u])/\∀t n,¬Tok s scr a t n)
theorem zvk (c:World) (K:g<s.size) (N:zL (bt s g)=true) (U:s.size<=4294967296):
  Calls prog 192 #[.string s,.int .i64 g,.bool w] c fun e I=>∃v z,e= .returned (.tuple #[v,.int .i64 z])/\zmB s w g v z/\Bw c I:=by
 have A:Hid (zL (bt s g)=true):=N;go_enter func192,ntmps192;go_wp2_with fail;refine (zmA _ _ _ _ (by omega) U).mono ?_;rintro e I ⟨n,rfl,H,rfl⟩;have L:Hid (za6 (zN w) s g n):=H;have V:g<=n:=H.1;have M:n<=s.size:=H.2.1;clear H;go_wp2_with fail;refine (zvi _ _ (by rw[zfl _ _ _ M];omega)).mono ?_;rintro e I ⟨rfl,rfl⟩;by_cases E:RdP (s.extract g n)
 ·rw[zfZ E];by_cases J:rdV (s.extract g n)<=1000000
  ·have q:Hid (zbc s g w (rdV (s.extract g n)) n):=zuT K A.o L.o E J;obtain⟨x,D⟩: ∃x,rdV (s.extract g n)=x:=⟨_,rfl⟩;rw[D] at J q ⊢;have O:decide (1000000<x)=false:=decide_eq_false (by omega);go_wp2;refine bodyPost_ret (zaC rfl _ _ c.heap.size 158 _ (0,0) _ rfl (heap_alloc_new c _) underlying158 rfl (by kernel_rfl)) rfl ?_;exact⟨_,_,rfl,.inl ⟨⟨2,{data:=#[]},x,g⟩,n,rfl,rfl,.num A.o q.o⟩,bA0⟩
  ·have q:Hid (∀t e,¬Tok s w g t e):=zhF A.o (zm4 K A.o L.o (.inr (by omega)));obtain⟨x,D⟩: ∃x,rdV (s.extract g n)=x:=⟨_,rfl⟩;rw[D] at J ⊢;have O:decide (1000000<x)=true:=decide_eq_true (by omega);go_wp2;refine bodyPost_ret (zaC rfl _ _ c.heap.size 158 _ (0,0) _ rfl (heap_alloc_new c _) underlying158 rfl (by kernel_rfl)) rfl ?_;exact⟨_,_,rfl,.inr ⟨rfl,⟨_,_,_,_,rfl⟩,q.o⟩,bA0⟩
 ·have q:Hid (∀t e,¬Tok s w g t e):=zhF A.o (zm4 K A.o L.o (.inl E));rw[zdK E];obtain⟨x,D⟩: ∃x,rdV (s.extract g n)=x:=⟨_,rfl⟩;rw[D];go_wp2;refine bodyPost_ret (zaC rfl _ _ c.heap.size 158 _ (0,0) _ rfl (heap_alloc_new c _) underlying158 rfl (by kernel_rfl)) rfl ?_;exact⟨_,_,rfl,.inr ⟨rfl,⟨_,_,_,_,rfl⟩,q.o⟩,bA0⟩
theorem zmC (o:Obj):(W.alloc o).heap.size=W.heap.size+1:=by show (W.heap.push _).size=_;simp
theorem zvl {z:World} {v1 v2 v3:Value} (h:Below (V.alloc (.cells #[C,v1,v2,v3] S)).heap.size (V.alloc (.cells #[C,v1,v2,v3] S)) z):
  z.cell? ⟨V.heap.size,0,none⟩=some C/\z.cell? ⟨V.heap.size,1,none⟩=some v1/\z.cell? ⟨V.heap.size,2,none⟩=some v2/\z.cell? ⟨V.heap.size,3,none⟩=some v3
  /\z.frozen? ⟨V.heap.size,0,none⟩=false/\z.frozen? ⟨V.heap.size,1,none⟩=false/\z.frozen? ⟨V.heap.size,2,none⟩=false/\z.frozen? ⟨V.heap.size,3,none⟩=false:=by
 have q:V.heap.size<(V.alloc (.cells #[C,v1,v2,v3] S)).heap.size:=by show _<(V.heap.push _).size;simp
 rw[h.cell q,h.cell q,h.cell q,h.cell q,h.frozen q,h.frozen q,h.frozen q,h.frozen q];simp
theorem zhh {i:Nat} {q:Array Value} (h:V.heap[b]? =some (.cells q S (0,0))):(V.setCell ⟨b,i,none⟩ C).heap[b]? =some (.cells (q.setIfInBounds i C) S (0,0)):=by
 simp only[World.setCell,Array.getElem?_modify];rw[if_pos trivial,h];rfl
theorem zmD {v1 v2 v3 q A z D:Value} (h:V.heap[b]? =some (.cells #[C,v1,v2,v3] S (0,0))):
  ((((V.setCell ⟨b,0,none⟩ q).setCell ⟨b,1,none⟩ A).setCell ⟨b,2,none⟩ z).setCell ⟨b,3,none⟩ D).heap[b]? =some (.cells #[q,A,z,D] S (0,0)):=
 zhh (zhh (zhh (zhh h)))
theorem zvm (c:World) (ha:g<s.size) (hd:bt s g=34) (hs:s.size<=4294967296):
  Calls prog 193 #[.string s,.int .i64 g] c fun e L=>∃v z,e= .returned (.tuple #[v,.int .i64 z])/\zmB s w g v z/\Bw c L:=by
 have V:Hid (bt s g=34):=hd;have hb:=get_bt s;obtain⟨H,K⟩: ∃H,H=g+1:=⟨_,rfl⟩;have ea:(g:Int)+1=(H:Int):=by omega
 have Z:Hid (H=g+1):=K;have ag:H<=s.size:=by omega
 clear hd K;go_enter func193,ntmps193;go_wp2;go_loop [7] (fun i=>∃k:Nat,g<k/\k<=s.size/\i= .int .i64 k/\∀j,g<j->j<k->zbH (bt s j)) (fun i=>(s.size-intOf i).toNat)
 case atStart=>exact⟨H,by omega,by omega,rfl,fun j U h2=>by omega⟩
 case round=>
  obtain⟨k,Y,X,rfl,O⟩:=hrel;have ac:H<=k:=by omega
  have q:Hid (∀j,g<j->j<k->zbH (bt s j)):=O;clear O;by_cases ab:k<s.size
  ·have E:=bt_nonneg s k;have I:=bt_le s k;cases M:zeB (bt s k) with
   |true=>
    have HX:Hid (∀j,g<j->j<k+1->zbH (bt s j)):=fun j U h2=>by
     by_cases e:j=k
     ·rw[e];exact of_decide_eq_true M
     ·exact q.o j U (by omega)
    go_wp2_with (first|(go_at_call 210;refine (zhf _ _ E I).mono ?_;rintro e L ⟨rfl,rfl⟩));go_round
    case rel=>exact⟨k+1,by omega,by omega,by go_num,HX.o⟩
    case measure=>simp[intOf];omega
   |false=>
    have aa:Hid (¬zbH (bt s k)):=of_decide_eq_false M;have q0:((k:Int)==(s.size:Int))=false:=beq_eq_false_iff_ne.2 (by omega);by_cases h:bt s k=34
    ·by_cases hl:k<=g+41
     ·have HE:Hid (zb4 s g (k+1)):=⟨by omega,by omega,by omega,by rw[Nat.add_sub_cancel];exact h,fun j U h2=>q.o j U (by omega)⟩;have q1:(bt s k !=34)=false:=by rw[h];rfl
      have q2:decide ((40:Int)<(k:Int)-(H:Int))=false:=decide_eq_false (by omega);clear h;go_wp2_with (first|(go_at_call 191;refine (ziE _ _ (by rw[zfl _ _ _ X];omega)).mono ?_;rintro e w1 ⟨rfl,A⟩;have J:=zvl A;obtain⟨ad,al,ah,ak,af,aj,ai,ae⟩:=J)|(go_at_call 210;refine (zhf _ _ E I).mono ?_;rintro e L ⟨rfl,rfl⟩));refine bodyPost_ret (zaC rfl _ _ c.heap.size 158 _ (0,0) _ rfl (zmD ((A.block _ (by rw[zmC];omega)).trans (heap_alloc_new c _))) underlying158 rfl (by kernel_rfl)) rfl ?_;exact⟨_,_,rfl,.inl ⟨⟨3,s.extract (g+1) (k+1-1),0,g⟩,k+1,by rw[Z.o];rfl,by omega,.str V.o HE.o⟩,((((bA0).trans (A.mono (by rw[zmC];omega))).setCell (Nat.le_refl _) _).setCell (Nat.le_refl _) _).setCell (Nat.le_refl _) _|>.setCell (Nat.le_refl _) _⟩
     ·have N:Hid (∀t e,¬Tok s w g t e):=zgv V.o (zgt q.o (.inr (by omega)));have q1:(bt s k !=34)=false:=by rw[h];rfl
      have q2:decide ((40:Int)<(k:Int)-(H:Int))=true:=decide_eq_true (by omega);clear h;go_wp2_with (first|(go_at_call 210;refine (zhf _ _ E I).mono ?_;rintro e L ⟨rfl,rfl⟩));refine bodyPost_ret (zaC rfl _ _ c.heap.size 158 _ (0,0) _ rfl (heap_alloc_new c _) underlying158 rfl (by kernel_rfl)) rfl ?_;exact⟨_,_,rfl,.inr ⟨rfl,⟨_,_,_,_,rfl⟩,N.o⟩,bA0⟩
    ·have N:Hid (∀t e,¬Tok s w g t e):=zgv V.o (zgu Y q.o h aa.o);have q1:(bt s k !=34)=true:=bne_iff_ne.2 h;clear h;go_wp2_with (first|(go_at_call 210;refine (zhf _ _ E I).mono ?_;rintro e L ⟨rfl,rfl⟩));refine bodyPost_ret (zaC rfl _ _ c.heap.size 158 _ (0,0) _ rfl (heap_alloc_new c _) underlying158 rfl (by kernel_rfl)) rfl ?_;exact⟨_,_,rfl,.inr ⟨rfl,⟨_,_,_,_,rfl⟩,N.o⟩,bA0⟩
  ·have N:Hid (∀t e,¬Tok s w g t e):=zgv V.o (zgt q.o (.inl (by omega)));have q0:((k:Int)==(s.size:Int))=true:=beq_iff_eq.2 (by omega);go_wp2;refine bodyPost_ret (zaC rfl _ _ c.heap.size 158 _ (0,0) _ rfl (heap_alloc_new c _) underlying158 rfl (by kernel_rfl)) rfl ?_;exact⟨_,_,rfl,.inr ⟨rfl,⟨_,_,_,_,rfl⟩,N.o⟩,bA0⟩
end Go.Proofs.YtgcbmogmniahjaaGreat
