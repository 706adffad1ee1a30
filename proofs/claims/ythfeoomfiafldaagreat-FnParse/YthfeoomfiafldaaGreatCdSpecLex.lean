/-
 What spec.l3Token and spec.Lex answer: the walks.
-/
import Derived.Test.YthfeoomfiafldaaGreatCdSpecLexBToSpecLexC
import Derived.Laws.Rows
import Derived.Laws.ResultCell
namespace Go.Proofs.YthfeoomfiafldaaGreat
set_option maxHeartbeats 3200000
open Go.RowKit Go.PlainAid
theorem zaK {P:Program} {o:Func} {p u:Tmp} {j:TypeId} (h:o.results= #[.cell p j,.tmp u]) (tmps:Array Value) (w:World) (g:Nat) (t:TypeId) (cs:Array Value) (z:Nat×Nat) (d:TypeDesc)
  (E:tmps.getD p undef= .pointer (some ⟨g,0,none⟩)) (D:w.heap[g]? =some (.cells cs t z))
  (H:P.underlying j=some d) (hd:(match d with| .struct _| .array _ _=>true|_=>false)=true) (I:(P.info? j).map (·.size)=some cs.size):
  (results o tmps).run P w= .ok (.tuple #[.agg cs,tmps.getD u undef]) w:=by
 rw[results_cell_tmp h,E]
 simp[asAddr,Result.andThen,run_loadVar_row w g t j cs z d D H hd I]
def tkV (t:Tk):Value:=.agg #[.int .i64 t.kind,.string t.text,.int .i64 t.num,.int .i64 t.pos]
def zjI (s:ByteArray) (scr:Bool) (a:Nat) (v:Value) (z:Int):Prop:=
 (∃(t:Tk) (n:Nat),v=tkV t∧z=n∧Tok s scr a t n)∨(z= -1∧(∃k x y u,v= .agg #[.int .i64 k,.string x,.int .i64 y,.int .i64 u])∧∀t n,¬Tok s scr a t n)
theorem zhL {s:ByteArray} {scr:Bool} {a:Nat} {k y u:Int} {x:ByteArray} (h: ∀t n,¬Tok s scr a t n):zjI s scr a (.agg #[.int .i64 k,.string x,.int .i64 y,.int .i64 u]) (-1):=.inr ⟨rfl,⟨k,x,y,u,rfl⟩,h⟩
theorem zhM {s:ByteArray} {scr:Bool} {a:Nat} (hd:zG (bt s a)=true) (h: ∀n e,¬zbd s a scr n e): ∀t n,¬Tok s scr a t n:=by
 intro t n z
 cases z using Tok.elim with
 |name j _=>rw[(zdX j).1] at hd;cases hd
 |num _ o=>exact h _ _ o
 |str j _=>exact (zdY hd).1 j
 |sign j=>exact (zdY hd).2 j
theorem zg4 {s:ByteArray} {scr:Bool} {a:Nat} (hd:bt s a=34) (h: ∀e,¬zb8 s a e): ∀t n,¬Tok s scr a t n:=by
 intro t n z
 cases z using Tok.elim with
 |name j _=>exact (zdX j).2.1 hd
 |num j _=>exact (zdY j).1 hd
 |str _ o=>exact h _ o
 |sign j=>rw[hd] at j;unfold zaM at j;omega
theorem zjJ {s:ByteArray} {scr:Bool} {a:Nat} (E:zam (bt s a) scr=false) (D:zG (bt s a)=false) (z:bt s a≠34) (H: ¬zaM (bt s a)): ∀t n,¬Tok s scr a t n:=by
 intro t n o
 cases o using Tok.elim with
 |name j _=>rw[E] at j;cases j
 |num j _=>rw[D] at j;cases j
 |str j _=>exact z j
 |sign j=>exact H j
theorem zoi (s:ByteArray) (a:Nat) (scr:Bool) (w:World) (ha:a<s.size) (V:s.size≤4294967296):
  Calls Tryz.prog 28 #[.string s,.int .i64 a,.bool scr] w fun e E=>∃v z,e= .returned (.tuple #[v,.int .i64 z])∧zjI s scr a v z∧Below w.heap.size w E:=by
 have hb:=get_bt s
 have j:=bt_nonneg s a
 have o:=bt_le s a
 cases hl:zam (bt s a) scr with
 |true=>
  have HL:Hid (zam (bt s a) scr=true):=hl
  go_enter Tryz.func28,Tryz.ntmps28
  go_wp2_with fail
  refine (zcR _ _ _ j o).mono ?_
  rintro e E ⟨rfl,rfl⟩
  go_wp2_with fail
  refine (zoc _ _ _ _ (by omega) V).mono ?_
  rintro e E ⟨n,rfl,O,rfl⟩
  have HR:Hid (zax (zB scr) s a n):=O
  have ad:a≤n:=O.1
  have ab:n≤s.size:=O.2.1
  clear O
  go_wp2
  refine bodyPost_ret (zaK rfl _ _ w.heap.size 40 _ (0,0) _ rfl (heap_alloc_new w _) Tryz.underlying40 rfl (by kernel_rfl)) rfl ?_
  exact⟨_,_,rfl,.inl ⟨⟨1,s.extract a n,0,a⟩,n,rfl,rfl,.name HL.out HR.out⟩,(Below.refl _ _).alloc (Nat.le_refl _) _⟩
 |false=>
  cases hd:zG (bt s a) with
  |true=>
   have HD:Hid (zG (bt s a)=true):=hd
   go_enter Tryz.func28,Tryz.ntmps28
   go_wp2_with fail
   refine (zcR _ _ _ j o).mono ?_
   rintro e E ⟨rfl,rfl⟩
   go_wp2_with fail
   refine (zcl _ _ j o).mono ?_
   rintro e E ⟨rfl,rfl⟩
   go_wp2_with fail
   refine (zoh _ _ _ _ ha HD.out V).mono ?_
   rintro e E ⟨n,z,rfl,U,rfl⟩
   rcases U with ⟨m,rfl,H⟩|⟨rfl,rfl,H⟩
   ·have M:Hid (zbd s a scr n m):=H
    clear H
    go_wp2
    refine bodyPost_ret (zaK rfl _ _ w.heap.size 40 _ (0,0) _ rfl (heap_alloc_new w _) Tryz.underlying40 rfl (by kernel_rfl)) rfl ?_
    exact⟨_,_,rfl,.inl ⟨⟨2,{data:=#[]},n,a⟩,m,rfl,rfl,.num HD.out M.out⟩,(Below.refl _ _).alloc (Nat.le_refl _) _⟩
   ·have M:Hid (∀n m,¬zbd s a scr n m):=H
    clear H
    go_wp2
    refine bodyPost_ret (zaK rfl _ _ w.heap.size 40 _ (0,0) _ rfl (heap_alloc_new w _) Tryz.underlying40 rfl (by kernel_rfl)) rfl ?_
    exact⟨_,_,rfl,zhL (zhM HD.out M.out),(Below.refl _ _).alloc (Nat.le_refl _) _⟩
  |false=>
   by_cases D:bt s a=34
   ·have N:Hid (bt s a=34):=D
    have aa:(bt s a==34)=true:=by simpa using D
    clear D
    go_enter Tryz.func28,Tryz.ntmps28
    go_wp2_with fail
    refine (zcR _ _ _ j o).mono ?_
    rintro e E ⟨rfl,rfl⟩
    go_wp2_with fail
    refine (zcl _ _ j o).mono ?_
    rintro e E ⟨rfl,rfl⟩
    go_wp2_with fail
    refine (zod _ _ _ ha V).mono ?_
    rintro e E ⟨z,rfl,U,rfl⟩
    rcases U with ⟨n,rfl,H⟩|⟨rfl,H⟩
    ·obtain⟨m,rfl⟩: ∃m,n=m+1:=⟨n-1,by have:=H.1;omega⟩
     have M:Hid (zb8 s a (m+1)):=H
     have Y:a+1≤m:=by have:=H.1;omega
     have ac:m+1≤s.size:=H.2.1
     have ez:((m+1:Nat):Int)=(m:Int)+1:=by omega
     obtain⟨J,K⟩: ∃J,J=a+1:=⟨_,rfl⟩
     have ea:(a:Int)+1=(J:Int):=by omega
     have L:Hid (J=a+1):=K
     have Q:J≤m:=by omega
     have X:m≤s.size:=by omega
     clear H K Y
     go_wp2
     refine bodyPost_ret (zaK rfl _ _ w.heap.size 40 _ (0,0) _ rfl (heap_alloc_new w _) Tryz.underlying40 rfl (by kernel_rfl)) rfl ?_
     exact⟨_,_,rfl,.inl ⟨⟨3,s.extract (a+1) (m+1-1),0,a⟩,m+1,by rw[L.out];rfl,by omega,.str N.out M.out⟩,(Below.refl _ _).alloc (Nat.le_refl _) _⟩
    ·have M:Hid (∀n,¬zb8 s a n):=H
     clear H
     go_wp2
     refine bodyPost_ret (zaK rfl _ _ w.heap.size 40 _ (0,0) _ rfl (heap_alloc_new w _) Tryz.underlying40 rfl (by kernel_rfl)) rfl ?_
     exact⟨_,_,rfl,zhL (zg4 N.out M.out),(Below.refl _ _).alloc (Nat.le_refl _) _⟩
   ·have aa:(bt s a==34)=false:=by simpa using D
    by_cases I:zaM (bt s a)
    ·have HS:Hid (zaM (bt s a)):=I
     have Z:zf0 (bt s a)=true:=decide_eq_true I
     obtain⟨J,K⟩: ∃J,J=a+1:=⟨_,rfl⟩
     have ea:(a:Int)+1=(J:Int):=by omega
     have L:Hid (J=a+1):=K
     have Q:a≤J:=by omega
     have X:J≤s.size:=by omega
     clear I D K
     go_enter Tryz.func28,Tryz.ntmps28
     go_wp2_with fail
     refine (zcR _ _ _ j o).mono ?_
     rintro e E ⟨rfl,rfl⟩
     go_wp2_with fail
     refine (zcl _ _ j o).mono ?_
     rintro e E ⟨rfl,rfl⟩
     go_wp2_with fail
     refine (zjz _ _).mono ?_
     rintro e E ⟨rfl,rfl⟩
     go_wp2
     refine bodyPost_ret (zaK rfl _ _ w.heap.size 40 _ (0,0) _ rfl (heap_alloc_new w _) Tryz.underlying40 rfl (by kernel_rfl)) rfl ?_
     exact⟨_,_,rfl,.inl ⟨⟨4,s.extract a (a+1),0,a⟩,a+1,by rw[L.out];rfl,by rw[L.out],.sign HS.out⟩,(Below.refl _ _).alloc (Nat.le_refl _) _⟩
    ·have HN:Hid (∀t n,¬Tok s scr a t n):=zjJ hl hd D I
     have Z:zf0 (bt s a)=false:=decide_eq_false I
     clear I D
     go_enter Tryz.func28,Tryz.ntmps28
     go_wp2_with fail
     refine (zcR _ _ _ j o).mono ?_
     rintro e E ⟨rfl,rfl⟩
     go_wp2_with fail
     refine (zcl _ _ j o).mono ?_
     rintro e E ⟨rfl,rfl⟩
     go_wp2_with fail
     refine (zjz _ _).mono ?_
     rintro e E ⟨rfl,rfl⟩
     go_wp2
     refine bodyPost_ret (zaK rfl _ _ w.heap.size 40 _ (0,0) _ rfl (heap_alloc_new w _) Tryz.underlying40 rfl (by kernel_rfl)) rfl ?_
     exact⟨_,_,rfl,zhL HN.out,(Below.refl _ _).alloc (Nat.le_refl _) _⟩
end Go.Proofs.YthfeoomfiafldaaGreat