/- Facts. -/
import Derived.Test.YtegdaafmaookjaaGreatP53
import Derived.Test.YtegdaafmaookjaaGreatP17
import Derived.Test.YtegdaafmaookjaaGreatP8
namespace Go.Proofs.YtegdaafmaookjaaGreat
open Go.Proofs.Tryz
set_option maxHeartbeats 3200000
open Go.RowKit Go.PlainAid
theorem zfc (c:Int) (w:World) (A:0<=c) (h:c<=255):
  Calls prog 203 #[.string {data:=#[9,10,13,32]},.int .u8 c] w fun e w'=>e= .returned (.bool (zg7 c))/\w'=w:=by
 have q:Hid (decide (0<=Lib.indexByte [9,10,13,32] c.toNat.toUInt8)=zg7 c):=zw4 c A h;go_enter func203,ntmps203;go_wp2_with fail;refine (Tryz.strings_IndexByte _ _ _).mono ?_;rintro e w' ⟨rfl,rfl⟩;go_wp2;go_ret;exact⟨zk q.o,rfl⟩
theorem zn6 (c:Int) (w:World) (A:0<=c) (h:c<=255):
  Calls prog 203 #[.string {data:=#[123,125,40,41,44,59,61,46,42,43,45]},.int .u8 c] w fun e w'=>e= .returned (.bool (zg8 c))/\w'=w:=by
 have q:Hid (decide (0<=Lib.indexByte [123,125,40,41,44,59,61,46,42,43,45] c.toNat.toUInt8)=zg8 c):=zw5 c A h;go_enter func203,ntmps203;go_wp2_with fail;refine (Tryz.strings_IndexByte _ _ _).mono ?_;rintro e w' ⟨rfl,rfl⟩;go_wp2;go_ret;exact⟨zk q.o,rfl⟩
variable (s:BA0) (g:Nat) (w:Bool) (W:World) {V:World} {C:Value} {S:TypeId} {b:Nat}
theorem zj2 (h:s.size<=281474976710656):
  Calls prog 209 #[.string s] W fun e w'=>e= .returned (.string s)/\Bw W w':=by
 go_enter func209,ntmps209;go_wp2_with fail;refine (Tryz.stringslite_Clone _ _ h).mono ?_;rintro e w' ⟨rfl,q⟩;go_wp2;go_ret;exact⟨rfl,q⟩
theorem zn7 (z:World) (U:g<=s.size) (hs:s.size<=4294967296):
  Calls prog 208 #[.string s,.int .i64 g,.bool w] z fun e w'=>∃n:Nat,e= .returned (.int .i64 n)/\zaB (zT w) s g n/\w'=z:=by
 have Z:=get_bt s;go_enter func208,ntmps208;go_wp2;go_loop [1] (fun i=>∃k:Nat,g<=k/\k<=s.size/\i= .int .i64 k/\∀j,g<=j->j<k->zT w (bt s j)=true) (fun i=>(s.size-intOf i).toNat)
 case atStart=>exact⟨g,Nat.le_refl _,U,rfl,fun j Y X=>by omega⟩
 case round=>
  obtain⟨k,K,J,rfl,H⟩:=hrel;have A:Hid (∀j,g<=j->j<k->zT w (bt s j)=true):=H;clear H;by_cases M:k<s.size
  ·have I:=bt_nonneg s k;have L:=bt_le s k;cases O:zT w (bt s k) with
   |true=>
    have V:Hid (∀j,g<=j->j<k+1->zT w (bt s j)=true):=zgc A.o O;go_wp2_with (first|(go_at_call 207;refine (zfA _ _ _ I L).mono ?_;rintro e w' ⟨rfl,rfl⟩));go_round
    case rel=>exact⟨k+1,by omega,by omega,by go_num,V.o⟩
    case measure=>simp[intOf];omega
   |false=>
    have N:Hid (zaB (zT w) s g k):=⟨K,J,A.o,fun _=>O⟩;go_wp2_with (first|(go_at_call 207;refine (zfA _ _ _ I L).mono ?_;rintro e w' ⟨rfl,rfl⟩));go_ret;exact⟨k,rfl,N.o,rfl⟩
  ·have N:Hid (zaB (zT w) s g k):=⟨K,J,A.o,fun h=>absurd h M⟩;go_wp2;go_ret;exact⟨k,rfl,N.o,rfl⟩
theorem zwR (L:g<=s.size) (O:s.size<=4294967296):
  Calls prog 205 #[.string s,.int .i64 g] W fun e w'=>∃n:Nat,e= .returned (.int .i64 n)/\zaB zbC s g n/\w'=W:=by
 obtain⟨o,h⟩: ∃o,Lib.indexByte (s.extract g s.size).data.toList (10:Int).toNat.toUInt8=o:=⟨_,rfl⟩;have q:=Lib.indexByte_ge (s.extract g s.size).data.toList (10:Int).toNat.toUInt8;rw[h] at q;by_cases I:0<=o
 ·obtain⟨n,J,H,K⟩:=zw6 I h;have M:Hid ((g:Int)+o=n):=J;have A:Hid (zaB zbC s g n):=H;have N:(g:Int)+o<=4294967296:=by omega
  clear J H;go_enter func205,ntmps205;go_wp2_with fail;refine (Tryz.strings_IndexByte _ _ _).mono ?_;rintro e w' ⟨rfl,rfl⟩;rw[h];go_wp2;go_ret;exact⟨n,zbP M.o,A.o,rfl⟩
 ·have A:Hid (zaB zbC s g s.size):=zw7 L (by rw[h];exact I);go_enter func205,ntmps205;go_wp2_with fail;refine (Tryz.strings_IndexByte _ _ _).mono ?_;rintro e w' ⟨rfl,rfl⟩;rw[h];go_wp2;go_ret;exact⟨s.size,rfl,A.o,rfl⟩
def zn8 (s:BA0) (scr:Bool) (a:Nat) (v:Value) (z:Int):Prop:=
 (∃(t:Tk) (n:Nat),v=tkV t/\z=n/\Tok s scr a t n)∨(z=a/\(∃k x y u,v= .agg #[.int .i64 k,.string x,.int .i64 y,.int .i64 u])/\∀t n,¬Tok s scr a t n)
theorem zwS (c:World) (L:g<s.size) (O:zQ (bt s g)=true) (V:s.size<=4294967296):
  Calls prog 210 #[.string s,.int .i64 g,.bool w] c fun e w'=>∃v z,e= .returned (.tuple #[v,.int .i64 z])/\zn8 s w g v z/\Bw c w':=by
 have A:Hid (zQ (bt s g)=true):=O;go_enter func210,ntmps210;go_wp2_with fail;refine (zn7 _ _ _ _ (by omega) V).mono ?_;rintro e w' ⟨n,rfl,J,rfl⟩;have M:Hid (zaB (zT w) s g n):=J;have X:g<=n:=J.1;have N:n<=s.size:=J.2.1;clear J;go_wp2_with fail;refine (zwQ _ _ (by rw[zfD _ _ _ N];omega)).mono ?_;rintro e w' ⟨rfl,rfl⟩;by_cases I:RdP (s.extract g n)
 ·rw[zg5 I];by_cases K:rdV (s.extract g n)<=1000000
  ·have q:Hid (zbl s g w (rdV (s.extract g n)) n):=zwB L A.o M.o I K;obtain⟨x,H⟩: ∃x,rdV (s.extract g n)=x:=⟨_,rfl⟩;rw[H] at K q ⊢;have U:decide (1000000<x)=false:=dF (by omega);go_wp2;refine bodyPost_ret (zaH rfl _ _ c.heap.size 157 _ (0,0) _ rfl (hN0 c _) underlying157 rfl (by kernel_rfl)) rfl ?_;exact⟨_,_,rfl,.inl ⟨⟨2,{data:=#[]},x,g⟩,n,rfl,rfl,.num A.o q.o⟩,bA0⟩
  ·have q:Hid (∀t e,¬Tok s w g t e):=zi6 A.o (zn1 L A.o M.o (.inr (by omega)));obtain⟨x,H⟩: ∃x,rdV (s.extract g n)=x:=⟨_,rfl⟩;rw[H] at K ⊢;have U:decide (1000000<x)=true:=dT (by omega);go_wp2;refine bodyPost_ret (zaH rfl _ _ c.heap.size 157 _ (0,0) _ rfl (hN0 c _) underlying157 rfl (by kernel_rfl)) rfl ?_;exact⟨_,_,rfl,.inr ⟨rfl,⟨_,_,_,_,rfl⟩,q.o⟩,bA0⟩
 ·have q:Hid (∀t e,¬Tok s w g t e):=zi6 A.o (zn1 L A.o M.o (.inl I));rw[zee I];obtain⟨x,H⟩: ∃x,rdV (s.extract g n)=x:=⟨_,rfl⟩;rw[H];go_wp2;refine bodyPost_ret (zaH rfl _ _ c.heap.size 157 _ (0,0) _ rfl (hN0 c _) underlying157 rfl (by kernel_rfl)) rfl ?_;exact⟨_,_,rfl,.inr ⟨rfl,⟨_,_,_,_,rfl⟩,q.o⟩,bA0⟩
theorem zn9 (o:Obj):(W.alloc o).heap.size=W.heap.size+1:=by show (W.heap.push _).size=_;simp
theorem zwT {A:World} {v1 v2 v3:Value} (h:Below (V.alloc (.cells #[C,v1,v2,v3] S)).heap.size (V.alloc (.cells #[C,v1,v2,v3] S)) A):
  A.cell? ⟨V.heap.size,0,none⟩=some C/\A.cell? ⟨V.heap.size,1,none⟩=some v1/\A.cell? ⟨V.heap.size,2,none⟩=some v2/\A.cell? ⟨V.heap.size,3,none⟩=some v3
  /\A.frozen? ⟨V.heap.size,0,none⟩=false/\A.frozen? ⟨V.heap.size,1,none⟩=false/\A.frozen? ⟨V.heap.size,2,none⟩=false/\A.frozen? ⟨V.heap.size,3,none⟩=false:=by
 have q:V.heap.size<(V.alloc (.cells #[C,v1,v2,v3] S)).heap.size:=by show _<(V.heap.push _).size;simp
 rw[h.cell q,h.cell q,h.cell q,h.cell q,h.frozen q,h.frozen q,h.frozen q,h.frozen q];simp
theorem zhN {i:Nat} {q:Array Value} (h:V.heap[b]? =some (.cells q S (0,0))):(V.setCell ⟨b,i,none⟩ C).heap[b]? =some (.cells (q.setIfInBounds i C) S (0,0)):=by
 simp only[World.setCell,Array.getElem?_modify];rw[if_pos trivial,h];rfl
theorem znA {v1 v2 v3 q H A I:Value} (h:V.heap[b]? =some (.cells #[C,v1,v2,v3] S (0,0))):
  ((((V.setCell ⟨b,0,none⟩ q).setCell ⟨b,1,none⟩ H).setCell ⟨b,2,none⟩ A).setCell ⟨b,3,none⟩ I).heap[b]? =some (.cells #[q,H,A,I] S (0,0)):=
 zhN (zhN (zhN (zhN h)))
theorem zwU (c:World) (ha:g<s.size) (hd:bt s g=34) (hs:s.size<=4294967296):
  Calls prog 211 #[.string s,.int .i64 g] c fun e w'=>∃v z,e= .returned (.tuple #[v,.int .i64 z])/\zn8 s w g v z/\Bw c w':=by
 have X:Hid (bt s g=34):=hd;have hb:=get_bt s;obtain⟨J,M⟩: ∃J,J=g+1:=⟨_,rfl⟩;have ea:(g:Int)+1=(J:Int):=by omega
 have aa:Hid (J=g+1):=M;have ah:J<=s.size:=by omega
 clear hd M;go_enter func211,ntmps211;go_wp2;go_loop [7] (fun i=>∃k:Nat,g<k/\k<=s.size/\i= .int .i64 k/\∀j,g<j->j<k->zbQ (bt s j)) (fun i=>(s.size-intOf i).toNat)
 case atStart=>exact⟨J,by omega,by omega,rfl,fun j V h2=>by omega⟩
 case round=>
  obtain⟨k,Z,Y,rfl,U⟩:=hrel;have ad:J<=k:=by omega
  have q:Hid (∀j,g<j->j<k->zbQ (bt s j)):=U;clear U;by_cases ac:k<s.size
  ·have I:=bt_nonneg s k;have K:=bt_le s k;cases N:zeZ (bt s k) with
   |true=>
    have HX:Hid (∀j,g<j->j<k+1->zbQ (bt s j)):=fun j V h2=>by
     by_cases e:j=k
     ·rw[e];exact of_decide_eq_true N
     ·exact q.o j V (by omega)
    go_wp2_with (first|(go_at_call 226;refine (zhL _ _ I K).mono ?_;rintro e w' ⟨rfl,rfl⟩));go_round
    case rel=>exact⟨k+1,by omega,by omega,by go_num,HX.o⟩
    case measure=>simp[intOf];omega
   |false=>
    have ab:Hid (¬zbQ (bt s k)):=of_decide_eq_false N;have q0:((k:Int)==(s.size:Int))=false:=bN0 (by omega);by_cases h:bt s k=34
    ·by_cases hl:k<=g+41
     ·have HE:Hid (zbD s g (k+1)):=⟨by omega,by omega,by omega,by rw[Nat.add_sub_cancel];exact h,fun j V h2=>q.o j V (by omega)⟩;have q1:(bt s k !=34)=false:=by rw[h];rfl
      have q2:decide ((40:Int)<(k:Int)-(J:Int))=false:=dF (by omega);clear h;go_wp2_with (first|(go_at_call 209;refine (zj2 _ _ (by rw[zfD _ _ _ Y];omega)).mono ?_;rintro e w1 ⟨rfl,A⟩;have L:=zwT A;obtain⟨ae,am,ai,al,ag,ak,aj,af⟩:=L)|(go_at_call 226;refine (zhL _ _ I K).mono ?_;rintro e w' ⟨rfl,rfl⟩));refine bodyPost_ret (zaH rfl _ _ c.heap.size 157 _ (0,0) _ rfl (znA ((A.block _ (by rw[zn9];omega)).trans (hN0 c _))) underlying157 rfl (by kernel_rfl)) rfl ?_;exact⟨_,_,rfl,.inl ⟨⟨3,s.extract (g+1) (k+1-1),0,g⟩,k+1,by rw[aa.o];rfl,by omega,.str X.o HE.o⟩,((((bA0).trans (A.mono (by rw[zn9];omega))).setCell (Nat.le_refl _) _).setCell (Nat.le_refl _) _).setCell (Nat.le_refl _) _|>.setCell (Nat.le_refl _) _⟩
     ·have O:Hid (∀t e,¬Tok s w g t e):=zha X.o (zgY q.o (.inr (by omega)));have q1:(bt s k !=34)=false:=by rw[h];rfl
      have q2:decide ((40:Int)<(k:Int)-(J:Int))=true:=dT (by omega);clear h;go_wp2_with (first|(go_at_call 226;refine (zhL _ _ I K).mono ?_;rintro e w' ⟨rfl,rfl⟩));refine bodyPost_ret (zaH rfl _ _ c.heap.size 157 _ (0,0) _ rfl (hN0 c _) underlying157 rfl (by kernel_rfl)) rfl ?_;exact⟨_,_,rfl,.inr ⟨rfl,⟨_,_,_,_,rfl⟩,O.o⟩,bA0⟩
    ·have O:Hid (∀t e,¬Tok s w g t e):=zha X.o (zgZ Z q.o h ab.o);have q1:(bt s k !=34)=true:=bne_iff_ne.2 h;clear h;go_wp2_with (first|(go_at_call 226;refine (zhL _ _ I K).mono ?_;rintro e w' ⟨rfl,rfl⟩));refine bodyPost_ret (zaH rfl _ _ c.heap.size 157 _ (0,0) _ rfl (hN0 c _) underlying157 rfl (by kernel_rfl)) rfl ?_;exact⟨_,_,rfl,.inr ⟨rfl,⟨_,_,_,_,rfl⟩,O.o⟩,bA0⟩
  ·have O:Hid (∀t e,¬Tok s w g t e):=zha X.o (zgY q.o (.inl (by omega)));have q0:((k:Int)==(s.size:Int))=true:=beq_iff_eq.2 (by omega);go_wp2;refine bodyPost_ret (zaH rfl _ _ c.heap.size 157 _ (0,0) _ rfl (hN0 c _) underlying157 rfl (by kernel_rfl)) rfl ?_;exact⟨_,_,rfl,.inr ⟨rfl,⟨_,_,_,_,rfl⟩,O.o⟩,bA0⟩
