/-
 What spec.l3Token and spec.Lex answer: the walks.
-/
import Derived.Test.YtjdddblpfbmpaaaGreatClSpecLexAToSpecLexC
import Derived.Laws.Rows
import Derived.Laws.ResultCell
namespace Go.Proofs.YtjdddblpfbmpaaaGreat
set_option maxHeartbeats 3200000
open Go.RowKit Go.PlainAid
theorem zar {P:Program} {A:Func} {p u:Tmp} {z:TypeId} (h:A.results= #[.cell p z,.tmp u]) (tmps:Array Value) (w:World) (g:Nat) (t:TypeId) (j:Array Value) (H:Nat×Nat) (d:TypeDesc)
  (J:tmps.getD p undef= .pointer (some ⟨g,0,none⟩)) (M:w.heap[g]? =some (.cells j t H))
  (L:P.underlying z=some d) (I:(match d with| .struct _| .array _ _=>true|_=>false)=true) (N:(P.info? z).map (·.size)=some j.size):
  (results A tmps).run P w= .ok (.tuple #[.agg j,tmps.getD u undef]) w:=by
 rw[results_cell_tmp h,J]
 simp[asAddr,Result.andThen,run_loadVar_row w g t z j H d M L I N]
def tkV (t:Tk):Value:=.agg #[.int .i64 t.kind,.string t.text,.int .i64 t.num,.int .i64 t.pos]
def ziE (s:ByteArray) (scr:Bool) (a:Nat) (v:Value) (z:Int):Prop:=
 (∃(t:Tk) (n:Nat),v=tkV t∧z=n∧Tok s scr a t n)∨(z= -1∧(∃k x y u,v= .agg #[.int .i64 k,.string x,.int .i64 y,.int .i64 u])∧∀t n,¬Tok s scr a t n)
theorem zhb {s:ByteArray} {j:Bool} {a:Nat} {k y u:Int} {x:ByteArray} (h: ∀t n,¬Tok s j a t n):ziE s j a (.agg #[.int .i64 k,.string x,.int .i64 y,.int .i64 u]) (-1):=.inr ⟨rfl,⟨k,x,y,u,rfl⟩,h⟩
theorem zhc {s:ByteArray} {w:Bool} {a:Nat} (z:zH (bt s a)=true) (h: ∀n e,¬zaX s a w n e): ∀t n,¬Tok s w a t n:=by
 intro t n H
 cases H using Tok.elim with
 |name j _=>rw[(zen j).1] at z;cases z
 |num _ A=>exact h _ _ A
 |str j _=>exact (zeo z).1 j
 |sign j=>exact (zeo z).2 j
theorem zfP {s:ByteArray} {z:Bool} {a:Nat} (w:bt s a=34) (h: ∀e,¬zby s a e): ∀t n,¬Tok s z a t n:=by
 intro t n H
 cases H using Tok.elim with
 |name j _=>exact (zen j).2.1 w
 |num j _=>exact (zeo j).1 w
 |str _ A=>exact h _ A
 |sign j=>rw[w] at j;unfold zbk at j;omega
theorem ziF {s:ByteArray} {j:Bool} {a:Nat} (A:za3 (bt s a) j=false) (w:zH (bt s a)=false) (I:bt s a≠34) (z: ¬zbk (bt s a)): ∀t n,¬Tok s j a t n:=by
 intro t n H
 cases H using Tok.elim with
 |name h _=>rw[A] at h;cases h
 |num h _=>rw[w] at h;cases h
 |str h _=>exact I h
 |sign h=>exact z h
theorem zm4 (s:ByteArray) (a:Nat) (A:Bool) (w:World) (ha:a<s.size) (hs:s.size≤4294967296):
  Calls Tryz.prog 104 #[.string s,.int .i64 a,.bool A] w fun e w'=>∃v z,e= .returned (.tuple #[v,.int .i64 z])∧ziE s A a v z∧Below w.heap.size w w':=by
 have hb:=get_bt s
 have h:=bt_nonneg s a
 have j:=bt_le s a
 cases hl:za3 (bt s a) A with
 |true=>
  have HL:Hid (za3 (bt s a) A=true):=hl
  go_enter Tryz.func104,Tryz.ntmps104
  go_wp2_with fail
  refine (zcZ _ _ _ h j).mono ?_
  rintro e w' ⟨rfl,rfl⟩
  go_wp2_with fail
  refine (zmy _ _ _ _ (by omega) hs).mono ?_
  rintro e w' ⟨n,rfl,V,rfl⟩
  have HR:Hid (za4 (zK A) s a n):=V
  have ae:a≤n:=V.1
  have ac:n≤s.size:=V.2.1
  clear V
  go_wp2
  refine bodyPost_ret (zar rfl _ _ w.heap.size 143 _ (0,0) _ rfl (heap_alloc_new w _) Tryz.underlying143 rfl (by kernel_rfl)) rfl ?_
  exact⟨_,_,rfl,.inl ⟨⟨1,s.extract a n,0,a⟩,n,rfl,rfl,.name HL.out HR.out⟩,(Below.refl _ _).alloc (Nat.le_refl _) _⟩
 |false=>
  cases hd:zH (bt s a) with
  |true=>
   have HD:Hid (zH (bt s a)=true):=hd
   go_enter Tryz.func104,Tryz.ntmps104
   go_wp2_with fail
   refine (zcZ _ _ _ h j).mono ?_
   rintro e w' ⟨rfl,rfl⟩
   go_wp2_with fail
   refine (zcj _ _ h j).mono ?_
   rintro e w' ⟨rfl,rfl⟩
   go_wp2_with fail
   refine (zm3 _ _ _ _ ha HD.out hs).mono ?_
   rintro e w' ⟨n,z,rfl,hn,rfl⟩
   rcases hn with ⟨m,rfl,I⟩|⟨rfl,rfl,I⟩
   ·have O:Hid (zaX s a A n m):=I
    clear I
    go_wp2
    refine bodyPost_ret (zar rfl _ _ w.heap.size 143 _ (0,0) _ rfl (heap_alloc_new w _) Tryz.underlying143 rfl (by kernel_rfl)) rfl ?_
    exact⟨_,_,rfl,.inl ⟨⟨2,{data:=#[]},n,a⟩,m,rfl,rfl,.num HD.out O.out⟩,(Below.refl _ _).alloc (Nat.le_refl _) _⟩
   ·have O:Hid (∀n m,¬zaX s a A n m):=I
    clear I
    go_wp2
    refine bodyPost_ret (zar rfl _ _ w.heap.size 143 _ (0,0) _ rfl (heap_alloc_new w _) Tryz.underlying143 rfl (by kernel_rfl)) rfl ?_
    exact⟨_,_,rfl,zhb (zhc HD.out O.out),(Below.refl _ _).alloc (Nat.le_refl _) _⟩
  |false=>
   by_cases H:bt s a=34
   ·have U:Hid (bt s a=34):=H
    have Y:(bt s a==34)=true:=by simpa using H
    clear H
    go_enter Tryz.func104,Tryz.ntmps104
    go_wp2_with fail
    refine (zcZ _ _ _ h j).mono ?_
    rintro e w' ⟨rfl,rfl⟩
    go_wp2_with fail
    refine (zcj _ _ h j).mono ?_
    rintro e w' ⟨rfl,rfl⟩
    go_wp2_with fail
    refine (zmz _ _ _ ha hs).mono ?_
    rintro e w' ⟨z,rfl,hn,rfl⟩
    rcases hn with ⟨n,rfl,I⟩|⟨rfl,I⟩
    ·obtain⟨m,rfl⟩: ∃m,n=m+1:=⟨n-1,by have:=I.1;omega⟩
     have O:Hid (zby s a (m+1)):=I
     have aa:a+1≤m:=by have:=I.1;omega
     have ad:m+1≤s.size:=I.2.1
     have ez:((m+1:Nat):Int)=(m:Int)+1:=by omega
     obtain⟨L,M⟩: ∃L,L=a+1:=⟨_,rfl⟩
     have ea:(a:Int)+1=(L:Int):=by omega
     have N:Hid (L=a+1):=M
     have ab:L≤m:=by omega
     have X:m≤s.size:=by omega
     clear I M aa
     go_wp2
     refine bodyPost_ret (zar rfl _ _ w.heap.size 143 _ (0,0) _ rfl (heap_alloc_new w _) Tryz.underlying143 rfl (by kernel_rfl)) rfl ?_
     exact⟨_,_,rfl,.inl ⟨⟨3,s.extract (a+1) (m+1-1),0,a⟩,m+1,by rw[N.out];rfl,by omega,.str U.out O.out⟩,(Below.refl _ _).alloc (Nat.le_refl _) _⟩
    ·have O:Hid (∀n,¬zby s a n):=I
     clear I
     go_wp2
     refine bodyPost_ret (zar rfl _ _ w.heap.size 143 _ (0,0) _ rfl (heap_alloc_new w _) Tryz.underlying143 rfl (by kernel_rfl)) rfl ?_
     exact⟨_,_,rfl,zhb (zfP U.out O.out),(Below.refl _ _).alloc (Nat.le_refl _) _⟩
   ·have Y:(bt s a==34)=false:=by simpa using H
    by_cases J:zbk (bt s a)
    ·have HS:Hid (zbk (bt s a)):=J
     have Z:zeY (bt s a)=true:=decide_eq_true J
     obtain⟨L,M⟩: ∃L,L=a+1:=⟨_,rfl⟩
     have ea:(a:Int)+1=(L:Int):=by omega
     have N:Hid (L=a+1):=M
     have ab:a≤L:=by omega
     have X:L≤s.size:=by omega
     clear J H M
     go_enter Tryz.func104,Tryz.ntmps104
     go_wp2_with fail
     refine (zcZ _ _ _ h j).mono ?_
     rintro e w' ⟨rfl,rfl⟩
     go_wp2_with fail
     refine (zcj _ _ h j).mono ?_
     rintro e w' ⟨rfl,rfl⟩
     go_wp2_with fail
     refine (ziB _ _).mono ?_
     rintro e w' ⟨rfl,rfl⟩
     go_wp2
     refine bodyPost_ret (zar rfl _ _ w.heap.size 143 _ (0,0) _ rfl (heap_alloc_new w _) Tryz.underlying143 rfl (by kernel_rfl)) rfl ?_
     exact⟨_,_,rfl,.inl ⟨⟨4,s.extract a (a+1),0,a⟩,a+1,by rw[N.out];rfl,by rw[N.out],.sign HS.out⟩,(Below.refl _ _).alloc (Nat.le_refl _) _⟩
    ·have HN:Hid (∀t n,¬Tok s A a t n):=ziF hl hd H J
     have Z:zeY (bt s a)=false:=decide_eq_false J
     clear J H
     go_enter Tryz.func104,Tryz.ntmps104
     go_wp2_with fail
     refine (zcZ _ _ _ h j).mono ?_
     rintro e w' ⟨rfl,rfl⟩
     go_wp2_with fail
     refine (zcj _ _ h j).mono ?_
     rintro e w' ⟨rfl,rfl⟩
     go_wp2_with fail
     refine (ziB _ _).mono ?_
     rintro e w' ⟨rfl,rfl⟩
     go_wp2
     refine bodyPost_ret (zar rfl _ _ w.heap.size 143 _ (0,0) _ rfl (heap_alloc_new w _) Tryz.underlying143 rfl (by kernel_rfl)) rfl ?_
     exact⟨_,_,rfl,zhb HN.out,(Below.refl _ _).alloc (Nat.le_refl _) _⟩
end Go.Proofs.YtjdddblpfbmpaaaGreat