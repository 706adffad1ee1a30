/-
 What spec.l3Token and spec.Lex answer: the walks.
-/
import Derived.Test.YtjdddblpfbmpaaaGreatCmSpecLexAToSpecLexC
import Derived.Laws.Rows
import Derived.Laws.ResultCell
namespace Go.Proofs.YtjdddblpfbmpaaaGreat
set_option maxHeartbeats 3200000
open Go.RowKit Go.PlainAid
theorem zas {P:Program} {z:Func} {p u:Tmp} {q:TypeId} (h:z.results= #[.cell p q,.tmp u]) (tmps:Array Value) (w:World) (g:Nat) (t:TypeId) (j:Array Value) (A:Nat×Nat) (d:TypeDesc)
  (I:tmps.getD p undef= .pointer (some ⟨g,0,none⟩)) (L:w.heap[g]? =some (.cells j t A))
  (J:P.underlying q=some d) (H:(match d with| .struct _| .array _ _=>true|_=>false)=true) (M:(P.info? q).map (·.size)=some j.size):
  (results z tmps).run P w= .ok (.tuple #[.agg j,tmps.getD u undef]) w:=by
 rw[results_cell_tmp h,I]
 simp[asAddr,Result.andThen,run_loadVar_row w g t q j A d L J H M]
def tkV (t:Tk):Value:=.agg #[.int .i64 t.kind,.string t.text,.int .i64 t.num,.int .i64 t.pos]
def zjg (s:ByteArray) (scr:Bool) (a:Nat) (v:Value) (z:Int):Prop:=
 (∃(t:Tk) (n:Nat),v=tkV t∧z=n∧Tok s scr a t n)∨(z= -1∧(∃k x y u,v= .agg #[.int .i64 k,.string x,.int .i64 y,.int .i64 u])∧∀t n,¬Tok s scr a t n)
theorem zhw {s:ByteArray} {j:Bool} {a:Nat} {k y u:Int} {x:ByteArray} (h: ∀t n,¬Tok s j a t n):zjg s j a (.agg #[.int .i64 k,.string x,.int .i64 y,.int .i64 u]) (-1):=.inr ⟨rfl,⟨k,x,y,u,rfl⟩,h⟩
theorem zhx {s:ByteArray} {q:Bool} {a:Nat} (z:zK (bt s a)=true) (h: ∀n e,¬zaV s a q n e): ∀t n,¬Tok s q a t n:=by
 intro t n H
 cases H using Tok.elim with
 |name j _=>rw[(zev j).1] at z;cases z
 |num _ A=>exact h _ _ A
 |str j _=>exact (zew z).1 j
 |sign j=>exact (zew z).2 j
theorem zgk {s:ByteArray} {z:Bool} {a:Nat} (q:bt s a=34) (h: ∀e,¬zb1 s a e): ∀t n,¬Tok s z a t n:=by
 intro t n H
 cases H using Tok.elim with
 |name j _=>exact (zev j).2.1 q
 |num j _=>exact (zew j).1 q
 |str _ A=>exact h _ A
 |sign j=>rw[q] at j;unfold zbn at j;omega
theorem zjh {s:ByteArray} {q:Bool} {a:Nat} (H:za3 (bt s a) q=false) (z:zK (bt s a)=false) (J:bt s a≠34) (A: ¬zbn (bt s a)): ∀t n,¬Tok s q a t n:=by
 intro t n I
 cases I using Tok.elim with
 |name j _=>rw[H] at j;cases j
 |num j _=>rw[z] at j;cases j
 |str j _=>exact J j
 |sign j=>exact A j
theorem znb (s:ByteArray) (a:Nat) (A:Bool) (w:World) (ha:a<s.size) (hs:s.size≤4294967296):
  Calls Tryz.prog 104 #[.string s,.int .i64 a,.bool A] w fun e w'=>∃v z,e= .returned (.tuple #[v,.int .i64 z])∧zjg s A a v z∧Below w.heap.size w w':=by
 have hb:=get_bt s
 have j:=bt_nonneg s a
 have q:=bt_le s a
 cases hl:za3 (bt s a) A with
 |true=>
  have HL:Hid (za3 (bt s a) A=true):=hl
  go_enter Tryz.func104,Tryz.ntmps104
  go_wp2_with fail
  refine (zdg _ _ _ j q).mono ?_
  rintro e w' ⟨rfl,rfl⟩
  go_wp2_with fail
  refine (zmV _ _ _ _ (by omega) hs).mono ?_
  rintro e w' ⟨n,rfl,V,rfl⟩
  have HR:Hid (za4 (zL A) s a n):=V
  have ae:a≤n:=V.1
  have ac:n≤s.size:=V.2.1
  clear V
  go_wp2
  refine bodyPost_ret (zas rfl _ _ w.heap.size 143 _ (0,0) _ rfl (heap_alloc_new w _) Tryz.underlying143 rfl (by kernel_rfl)) rfl ?_
  exact⟨_,_,rfl,.inl ⟨⟨1,s.extract a n,0,a⟩,n,rfl,rfl,.name HL.out HR.out⟩,(Below.refl _ _).alloc (Nat.le_refl _) _⟩
 |false=>
  cases hd:zK (bt s a) with
  |true=>
   have HD:Hid (zK (bt s a)=true):=hd
   go_enter Tryz.func104,Tryz.ntmps104
   go_wp2_with fail
   refine (zdg _ _ _ j q).mono ?_
   rintro e w' ⟨rfl,rfl⟩
   go_wp2_with fail
   refine (zcl _ _ j q).mono ?_
   rintro e w' ⟨rfl,rfl⟩
   go_wp2_with fail
   refine (zna _ _ _ _ ha HD.out hs).mono ?_
   rintro e w' ⟨n,z,rfl,hn,rfl⟩
   rcases hn with ⟨m,rfl,I⟩|⟨rfl,rfl,I⟩
   ·have O:Hid (zaV s a A n m):=I
    clear I
    go_wp2
    refine bodyPost_ret (zas rfl _ _ w.heap.size 143 _ (0,0) _ rfl (heap_alloc_new w _) Tryz.underlying143 rfl (by kernel_rfl)) rfl ?_
    exact⟨_,_,rfl,.inl ⟨⟨2,{data:=#[]},n,a⟩,m,rfl,rfl,.num HD.out O.out⟩,(Below.refl _ _).alloc (Nat.le_refl _) _⟩
   ·have O:Hid (∀n m,¬zaV s a A n m):=I
    clear I
    go_wp2
    refine bodyPost_ret (zas rfl _ _ w.heap.size 143 _ (0,0) _ rfl (heap_alloc_new w _) Tryz.underlying143 rfl (by kernel_rfl)) rfl ?_
    exact⟨_,_,rfl,zhw (zhx HD.out O.out),(Below.refl _ _).alloc (Nat.le_refl _) _⟩
  |false=>
   by_cases H:bt s a=34
   ·have U:Hid (bt s a=34):=H
    have Y:(bt s a==34)=true:=by simpa using H
    clear H
    go_enter Tryz.func104,Tryz.ntmps104
    go_wp2_with fail
    refine (zdg _ _ _ j q).mono ?_
    rintro e w' ⟨rfl,rfl⟩
    go_wp2_with fail
    refine (zcl _ _ j q).mono ?_
    rintro e w' ⟨rfl,rfl⟩
    go_wp2_with fail
    refine (zmW _ _ _ ha hs).mono ?_
    rintro e w' ⟨z,rfl,hn,rfl⟩
    rcases hn with ⟨n,rfl,I⟩|⟨rfl,I⟩
    ·obtain⟨m,rfl⟩: ∃m,n=m+1:=⟨n-1,by have:=I.1;omega⟩
     have O:Hid (zb1 s a (m+1)):=I
     have aa:a+1≤m:=by have:=I.1;omega
     have ad:m+1≤s.size:=I.2.1
     have ez:((m+1:Nat):Int)=(m:Int)+1:=by omega
     obtain⟨L,M⟩: ∃L,L=a+1:=⟨_,rfl⟩
     have ea:(a:Int)+1=(L:Int):=by omega
     have N:Hid (L=a+1):=M
     have ab:L≤m:=by omega
     have X:m≤s.size:=by omega
     clear I M aa
     go_wp2
     refine bodyPost_ret (zas rfl _ _ w.heap.size 143 _ (0,0) _ rfl (heap_alloc_new w _) Tryz.underlying143 rfl (by kernel_rfl)) rfl ?_
     exact⟨_,_,rfl,.inl ⟨⟨3,s.extract (a+1) (m+1-1),0,a⟩,m+1,by rw[N.out];rfl,by omega,.str U.out O.out⟩,(Below.refl _ _).alloc (Nat.le_refl _) _⟩
    ·have O:Hid (∀n,¬zb1 s a n):=I
     clear I
     go_wp2
     refine bodyPost_ret (zas rfl _ _ w.heap.size 143 _ (0,0) _ rfl (heap_alloc_new w _) Tryz.underlying143 rfl (by kernel_rfl)) rfl ?_
     exact⟨_,_,rfl,zhw (zgk U.out O.out),(Below.refl _ _).alloc (Nat.le_refl _) _⟩
   ·have Y:(bt s a==34)=false:=by simpa using H
    by_cases J:zbn (bt s a)
    ·have HS:Hid (zbn (bt s a)):=J
     have Z:zfi (bt s a)=true:=decide_eq_true J
     obtain⟨L,M⟩: ∃L,L=a+1:=⟨_,rfl⟩
     have ea:(a:Int)+1=(L:Int):=by omega
     have N:Hid (L=a+1):=M
     have ab:a≤L:=by omega
     have X:L≤s.size:=by omega
     clear J H M
     go_enter Tryz.func104,Tryz.ntmps104
     go_wp2_with fail
     refine (zdg _ _ _ j q).mono ?_
     rintro e w' ⟨rfl,rfl⟩
     go_wp2_with fail
     refine (zcl _ _ j q).mono ?_
     rintro e w' ⟨rfl,rfl⟩
     go_wp2_with fail
     refine (zjd _ _).mono ?_
     rintro e w' ⟨rfl,rfl⟩
     go_wp2
     refine bodyPost_ret (zas rfl _ _ w.heap.size 143 _ (0,0) _ rfl (heap_alloc_new w _) Tryz.underlying143 rfl (by kernel_rfl)) rfl ?_
     exact⟨_,_,rfl,.inl ⟨⟨4,s.extract a (a+1),0,a⟩,a+1,by rw[N.out];rfl,by rw[N.out],.sign HS.out⟩,(Below.refl _ _).alloc (Nat.le_refl _) _⟩
    ·have HN:Hid (∀t n,¬Tok s A a t n):=zjh hl hd H J
     have Z:zfi (bt s a)=false:=decide_eq_false J
     clear J H
     go_enter Tryz.func104,Tryz.ntmps104
     go_wp2_with fail
     refine (zdg _ _ _ j q).mono ?_
     rintro e w' ⟨rfl,rfl⟩
     go_wp2_with fail
     refine (zcl _ _ j q).mono ?_
     rintro e w' ⟨rfl,rfl⟩
     go_wp2_with fail
     refine (zjd _ _).mono ?_
     rintro e w' ⟨rfl,rfl⟩
     go_wp2
     refine bodyPost_ret (zas rfl _ _ w.heap.size 143 _ (0,0) _ rfl (heap_alloc_new w _) Tryz.underlying143 rfl (by kernel_rfl)) rfl ?_
     exact⟨_,_,rfl,zhw HN.out,(Below.refl _ _).alloc (Nat.le_refl _) _⟩
end Go.Proofs.YtjdddblpfbmpaaaGreat