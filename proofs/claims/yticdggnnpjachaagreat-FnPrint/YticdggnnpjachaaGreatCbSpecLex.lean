/-
 What spec.l3Token and spec.Lex answer: the walks.
-/
import Derived.Test.YticdggnnpjachaaGreatCbSpecLexBToSpecLexC
import Derived.Laws.Rows
import Derived.Laws.ResultCell
namespace Go.Proofs.YticdggnnpjachaaGreat
set_option maxHeartbeats 3200000
open Go.RowKit Go.PlainAid
theorem zaA {P:Program} {o:Func} {p u:Tmp} {n:TypeId} (h:o.results= #[.cell p n,.tmp u]) (tmps:Array Value) (w:World) (g:Nat) (t:TypeId) (j:Array Value) (q:Nat×Nat) (d:TypeDesc)
  (H:tmps.getD p undef= .pointer (some ⟨g,0,none⟩)) (E:w.heap[g]? =some (.cells j t q))
  (D:P.underlying n=some d) (A:(match d with| .struct _| .array _ _=>true|_=>false)=true) (z:(P.info? n).map (·.size)=some j.size):
  (results o tmps).run P w= .ok (.tuple #[.agg j,tmps.getD u undef]) w:=by
 rw[results_cell_tmp h,H]
 simp[asAddr,Result.andThen,run_loadVar_row w g t n j q d E D A z]
def tkV (t:Tk):Value:=.agg #[.int .i64 t.kind,.string t.text,.int .i64 t.num,.int .i64 t.pos]
def zhT (s:ByteArray) (scr:Bool) (a:Nat) (v:Value) (z:Int):Prop:=
 (∃(t:Tk) (n:Nat),v=tkV t∧z=n∧Tok s scr a t n)∨(z= -1∧(∃k x y u,v= .agg #[.int .i64 k,.string x,.int .i64 y,.int .i64 u])∧∀t n,¬Tok s scr a t n)
theorem zgw {s:ByteArray} {j:Bool} {a:Nat} {k y u:Int} {x:ByteArray} (h: ∀t n,¬Tok s j a t n):zhT s j a (.agg #[.int .i64 k,.string x,.int .i64 y,.int .i64 u]) (-1):=.inr ⟨rfl,⟨k,x,y,u,rfl⟩,h⟩
theorem zgx {s:ByteArray} {o:Bool} {a:Nat} (q:zF (bt s a)=true) (h: ∀n e,¬zaP s a o n e): ∀t n,¬Tok s o a t n:=by
 intro t n A
 cases A using Tok.elim with
 |name j _=>rw[(zdO j).1] at q;cases q
 |num _ z=>exact h _ _ z
 |str j _=>exact (zdP q).1 j
 |sign j=>exact (zdP q).2 j
theorem zfy {s:ByteArray} {q:Bool} {a:Nat} (o:bt s a=34) (h: ∀e,¬zbl s a e): ∀t n,¬Tok s q a t n:=by
 intro t n A
 cases A using Tok.elim with
 |name j _=>exact (zdO j).2.1 o
 |num j _=>exact (zdP j).1 o
 |str _ z=>exact h _ z
 |sign j=>rw[o] at j;unfold zba at j;omega
theorem zhU {s:ByteArray} {o:Bool} {a:Nat} (D:zav (bt s a) o=false) (z:zF (bt s a)=false) (q:bt s a≠34) (A: ¬zba (bt s a)): ∀t n,¬Tok s o a t n:=by
 intro t n E
 cases E using Tok.elim with
 |name j _=>rw[D] at j;cases j
 |num j _=>rw[z] at j;cases j
 |str j _=>exact q j
 |sign j=>exact A j
theorem zl9 (s:ByteArray) (a:Nat) (q:Bool) (w:World) (ha:a<s.size) (Z:s.size≤4294967296):
  Calls Tryz.prog 68 #[.string s,.int .i64 a,.bool q] w fun e D=>∃v z,e= .returned (.tuple #[v,.int .i64 z])∧zhT s q a v z∧Below w.heap.size w D:=by
 have hb:=get_bt s
 have j:=bt_nonneg s a
 have o:=bt_le s a
 cases hl:zav (bt s a) q with
 |true=>
  have HL:Hid (zav (bt s a) q=true):=hl
  go_enter Tryz.func68,Tryz.ntmps68
  go_wp2_with fail
  refine (zcE _ _ _ j o).mono ?_
  rintro e D ⟨rfl,rfl⟩
  go_wp2_with fail
  refine (zl3 _ _ _ _ (by omega) Z).mono ?_
  rintro e D ⟨n,rfl,N,rfl⟩
  have HR:Hid (zaw (zG q) s a n):=N
  have aa:a≤n:=N.1
  have ac:n≤s.size:=N.2.1
  clear N
  go_wp2
  refine bodyPost_ret (zaA rfl _ _ w.heap.size 111 _ (0,0) _ rfl (heap_alloc_new w _) Tryz.underlying111 rfl (by kernel_rfl)) rfl ?_
  exact⟨_,_,rfl,.inl ⟨⟨1,s.extract a n,0,a⟩,n,rfl,rfl,.name HL.out HR.out⟩,(Below.refl _ _).alloc (Nat.le_refl _) _⟩
 |false=>
  cases hd:zF (bt s a) with
  |true=>
   have HD:Hid (zF (bt s a)=true):=hd
   go_enter Tryz.func68,Tryz.ntmps68
   go_wp2_with fail
   refine (zcE _ _ _ j o).mono ?_
   rintro e D ⟨rfl,rfl⟩
   go_wp2_with fail
   refine (zbM _ _ j o).mono ?_
   rintro e D ⟨rfl,rfl⟩
   go_wp2_with fail
   refine (zl8 _ _ _ _ ha HD.out Z).mono ?_
   rintro e D ⟨n,z,rfl,V,rfl⟩
   rcases V with ⟨m,rfl,E⟩|⟨rfl,rfl,E⟩
   ·have L:Hid (zaP s a q n m):=E
    clear E
    go_wp2
    refine bodyPost_ret (zaA rfl _ _ w.heap.size 111 _ (0,0) _ rfl (heap_alloc_new w _) Tryz.underlying111 rfl (by kernel_rfl)) rfl ?_
    exact⟨_,_,rfl,.inl ⟨⟨2,{data:=#[]},n,a⟩,m,rfl,rfl,.num HD.out L.out⟩,(Below.refl _ _).alloc (Nat.le_refl _) _⟩
   ·have L:Hid (∀n m,¬zaP s a q n m):=E
    clear E
    go_wp2
    refine bodyPost_ret (zaA rfl _ _ w.heap.size 111 _ (0,0) _ rfl (heap_alloc_new w _) Tryz.underlying111 rfl (by kernel_rfl)) rfl ?_
    exact⟨_,_,rfl,zgw (zgx HD.out L.out),(Below.refl _ _).alloc (Nat.le_refl _) _⟩
  |false=>
   by_cases A:bt s a=34
   ·have M:Hid (bt s a=34):=A
    have Y:(bt s a==34)=true:=by simpa using A
    clear A
    go_enter Tryz.func68,Tryz.ntmps68
    go_wp2_with fail
    refine (zcE _ _ _ j o).mono ?_
    rintro e D ⟨rfl,rfl⟩
    go_wp2_with fail
    refine (zbM _ _ j o).mono ?_
    rintro e D ⟨rfl,rfl⟩
    go_wp2_with fail
    refine (zl4 _ _ _ ha Z).mono ?_
    rintro e D ⟨z,rfl,V,rfl⟩
    rcases V with ⟨n,rfl,E⟩|⟨rfl,E⟩
    ·obtain⟨m,rfl⟩: ∃m,n=m+1:=⟨n-1,by have:=E.1;omega⟩
     have L:Hid (zbl s a (m+1)):=E
     have Q:a+1≤m:=by have:=E.1;omega
     have ab:m+1≤s.size:=E.2.1
     have ez:((m+1:Nat):Int)=(m:Int)+1:=by omega
     obtain⟨I,J⟩: ∃I,I=a+1:=⟨_,rfl⟩
     have ea:(a:Int)+1=(I:Int):=by omega
     have K:Hid (I=a+1):=J
     have O:I≤m:=by omega
     have X:m≤s.size:=by omega
     clear E J Q
     go_wp2
     refine bodyPost_ret (zaA rfl _ _ w.heap.size 111 _ (0,0) _ rfl (heap_alloc_new w _) Tryz.underlying111 rfl (by kernel_rfl)) rfl ?_
     exact⟨_,_,rfl,.inl ⟨⟨3,s.extract (a+1) (m+1-1),0,a⟩,m+1,by rw[K.out];rfl,by omega,.str M.out L.out⟩,(Below.refl _ _).alloc (Nat.le_refl _) _⟩
    ·have L:Hid (∀n,¬zbl s a n):=E
     clear E
     go_wp2
     refine bodyPost_ret (zaA rfl _ _ w.heap.size 111 _ (0,0) _ rfl (heap_alloc_new w _) Tryz.underlying111 rfl (by kernel_rfl)) rfl ?_
     exact⟨_,_,rfl,zgw (zfy M.out L.out),(Below.refl _ _).alloc (Nat.le_refl _) _⟩
   ·have Y:(bt s a==34)=false:=by simpa using A
    by_cases H:zba (bt s a)
    ·have HS:Hid (zba (bt s a)):=H
     have U:ze1 (bt s a)=true:=decide_eq_true H
     obtain⟨I,J⟩: ∃I,I=a+1:=⟨_,rfl⟩
     have ea:(a:Int)+1=(I:Int):=by omega
     have K:Hid (I=a+1):=J
     have O:a≤I:=by omega
     have X:I≤s.size:=by omega
     clear H A J
     go_enter Tryz.func68,Tryz.ntmps68
     go_wp2_with fail
     refine (zcE _ _ _ j o).mono ?_
     rintro e D ⟨rfl,rfl⟩
     go_wp2_with fail
     refine (zbM _ _ j o).mono ?_
     rintro e D ⟨rfl,rfl⟩
     go_wp2_with fail
     refine (zh7 _ _).mono ?_
     rintro e D ⟨rfl,rfl⟩
     go_wp2
     refine bodyPost_ret (zaA rfl _ _ w.heap.size 111 _ (0,0) _ rfl (heap_alloc_new w _) Tryz.underlying111 rfl (by kernel_rfl)) rfl ?_
     exact⟨_,_,rfl,.inl ⟨⟨4,s.extract a (a+1),0,a⟩,a+1,by rw[K.out];rfl,by rw[K.out],.sign HS.out⟩,(Below.refl _ _).alloc (Nat.le_refl _) _⟩
    ·have HN:Hid (∀t n,¬Tok s q a t n):=zhU hl hd A H
     have U:ze1 (bt s a)=false:=decide_eq_false H
     clear H A
     go_enter Tryz.func68,Tryz.ntmps68
     go_wp2_with fail
     refine (zcE _ _ _ j o).mono ?_
     rintro e D ⟨rfl,rfl⟩
     go_wp2_with fail
     refine (zbM _ _ j o).mono ?_
     rintro e D ⟨rfl,rfl⟩
     go_wp2_with fail
     refine (zh7 _ _).mono ?_
     rintro e D ⟨rfl,rfl⟩
     go_wp2
     refine bodyPost_ret (zaA rfl _ _ w.heap.size 111 _ (0,0) _ rfl (heap_alloc_new w _) Tryz.underlying111 rfl (by kernel_rfl)) rfl ?_
     exact⟨_,_,rfl,zgw HN.out,(Below.refl _ _).alloc (Nat.le_refl _) _⟩
end Go.Proofs.YticdggnnpjachaaGreat