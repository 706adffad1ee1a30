/-
 What spec.l3Token and spec.Lex answer: the walks.
-/
import Derived.Test.YtcidlffeeninbaaGreatClSpecLexAToSpecLexC
import Derived.Laws.Rows
import Derived.Laws.ResultCell
namespace Go.Proofs.YtcidlffeeninbaaGreat
set_option maxHeartbeats 3200000
open Go.RowKit Go.PlainAid
theorem zaI {P:Program} {A:Func} {p u:Tmp} {q:TypeId} (h:A.results= #[.cell p q,.tmp u]) (tmps:Array Value) (w:World) (g:Nat) (t:TypeId) (z:Array Value) (D:Nat×Nat) (d:TypeDesc)
  (E:tmps.getD p undef= .pointer (some ⟨g,0,none⟩)) (I:w.heap[g]? =some (.cells z t D))
  (J:P.underlying q=some d) (H:(match d with| .struct _| .array _ _=>true|_=>false)=true) (K:(P.info? q).map (·.size)=some z.size):
  (results A tmps).run P w= .ok (.tuple #[.agg z,tmps.getD u undef]) w:=by
 rw[results_cell_tmp h,E]
 simp[asAddr,Result.andThen,run_loadVar_row w g t q z D d I J H K]
def tkV (t:Tk):Value:=.agg #[.int .i64 t.kind,.string t.text,.int .i64 t.num,.int .i64 t.pos]
def ziZ (s:ByteArray) (scr:Bool) (a:Nat) (v:Value) (z:Int):Prop:=
 (∃(t:Tk) (n:Nat),v=tkV t∧z=n∧Tok s scr a t n)∨(z= -1∧(∃k x y u,v= .agg #[.int .i64 k,.string x,.int .i64 y,.int .i64 u])∧∀t n,¬Tok s scr a t n)
theorem zhi {s:ByteArray} {q:Bool} {a:Nat} {k y u:Int} {x:ByteArray} (h: ∀t n,¬Tok s q a t n):ziZ s q a (.agg #[.int .i64 k,.string x,.int .i64 y,.int .i64 u]) (-1):=.inr ⟨rfl,⟨k,x,y,u,rfl⟩,h⟩
theorem zhj {s:ByteArray} {q:Bool} {a:Nat} (z:zJ (bt s a)=true) (h: ∀n e,¬zaX s a q n e): ∀t n,¬Tok s q a t n:=by
 intro t n A
 cases A using Tok.elim with
 |name w _=>rw[(zez w).1] at z;cases z
 |num _ D=>exact h _ _ D
 |str w _=>exact (ze0 z).1 w
 |sign w=>exact (ze0 z).2 w
theorem zga {s:ByteArray} {w:Bool} {a:Nat} (z:bt s a=34) (h: ∀e,¬zbw s a e): ∀t n,¬Tok s w a t n:=by
 intro t n A
 cases A using Tok.elim with
 |name q _=>exact (zez q).2.1 z
 |num q _=>exact (ze0 q).1 z
 |str _ D=>exact h _ D
 |sign q=>rw[z] at q;unfold zbj at q;omega
theorem zja {s:ByteArray} {q:Bool} {a:Nat} (A:za1 (bt s a) q=false) (D:zJ (bt s a)=false) (w:bt s a≠34) (E: ¬zbj (bt s a)): ∀t n,¬Tok s q a t n:=by
 intro t n z
 cases z using Tok.elim with
 |name h _=>rw[A] at h;cases h
 |num h _=>rw[D] at h;cases h
 |str h _=>exact w h
 |sign h=>exact E h
theorem znk (s:ByteArray) (a:Nat) (A:Bool) (w:World) (ha:a<s.size) (hs:s.size≤4294967296):
  Calls Tryz.prog 85 #[.string s,.int .i64 a,.bool A] w fun e D=>∃v z,e= .returned (.tuple #[v,.int .i64 z])∧ziZ s A a v z∧Below w.heap.size w D:=by
 have hb:=get_bt s
 have h:=bt_nonneg s a
 have q:=bt_le s a
 cases hl:za1 (bt s a) A with
 |true=>
  have HL:Hid (za1 (bt s a) A=true):=hl
  go_enter Tryz.func85,Tryz.ntmps85
  go_wp2_with fail
  refine (zda _ _ _ h q).mono ?_
  rintro e D ⟨rfl,rfl⟩
  go_wp2_with fail
  refine (zne _ _ _ _ (by omega) hs).mono ?_
  rintro e D ⟨n,rfl,O,rfl⟩
  have HR:Hid (za2 (zK A) s a n):=O
  have ad:a≤n:=O.1
  have ac:n≤s.size:=O.2.1
  clear O
  go_wp2
  refine bodyPost_ret (zaI rfl _ _ w.heap.size 136 _ (0,0) _ rfl (heap_alloc_new w _) Tryz.underlying136 rfl (by kernel_rfl)) rfl ?_
  exact⟨_,_,rfl,.inl ⟨⟨1,s.extract a n,0,a⟩,n,rfl,rfl,.name HL.out HR.out⟩,(Below.refl _ _).alloc (Nat.le_refl _) _⟩
 |false=>
  cases hd:zJ (bt s a) with
  |true=>
   have HD:Hid (zJ (bt s a)=true):=hd
   go_enter Tryz.func85,Tryz.ntmps85
   go_wp2_with fail
   refine (zda _ _ _ h q).mono ?_
   rintro e D ⟨rfl,rfl⟩
   go_wp2_with fail
   refine (zcj _ _ h q).mono ?_
   rintro e D ⟨rfl,rfl⟩
   go_wp2_with fail
   refine (znj _ _ _ _ ha HD.out hs).mono ?_
   rintro e D ⟨n,z,rfl,Z,rfl⟩
   rcases Z with ⟨m,rfl,H⟩|⟨rfl,rfl,H⟩
   ·have M:Hid (zaX s a A n m):=H
    clear H
    go_wp2
    refine bodyPost_ret (zaI rfl _ _ w.heap.size 136 _ (0,0) _ rfl (heap_alloc_new w _) Tryz.underlying136 rfl (by kernel_rfl)) rfl ?_
    exact⟨_,_,rfl,.inl ⟨⟨2,{data:=#[]},n,a⟩,m,rfl,rfl,.num HD.out M.out⟩,(Below.refl _ _).alloc (Nat.le_refl _) _⟩
   ·have M:Hid (∀n m,¬zaX s a A n m):=H
    clear H
    go_wp2
    refine bodyPost_ret (zaI rfl _ _ w.heap.size 136 _ (0,0) _ rfl (heap_alloc_new w _) Tryz.underlying136 rfl (by kernel_rfl)) rfl ?_
    exact⟨_,_,rfl,zhi (zhj HD.out M.out),(Below.refl _ _).alloc (Nat.le_refl _) _⟩
  |false=>
   by_cases E:bt s a=34
   ·have N:Hid (bt s a=34):=E
    have Y:(bt s a==34)=true:=by simpa using E
    clear E
    go_enter Tryz.func85,Tryz.ntmps85
    go_wp2_with fail
    refine (zda _ _ _ h q).mono ?_
    rintro e D ⟨rfl,rfl⟩
    go_wp2_with fail
    refine (zcj _ _ h q).mono ?_
    rintro e D ⟨rfl,rfl⟩
    go_wp2_with fail
    refine (znf _ _ _ ha hs).mono ?_
    rintro e D ⟨z,rfl,Z,rfl⟩
    rcases Z with ⟨n,rfl,H⟩|⟨rfl,H⟩
    ·obtain⟨m,rfl⟩: ∃m,n=m+1:=⟨n-1,by have:=H.1;omega⟩
     have M:Hid (zbw s a (m+1)):=H
     have U:a+1≤m:=by have:=H.1;omega
     have ab:m+1≤s.size:=H.2.1
     have ez:((m+1:Nat):Int)=(m:Int)+1:=by omega
     obtain⟨J,K⟩: ∃J,J=a+1:=⟨_,rfl⟩
     have ea:(a:Int)+1=(J:Int):=by omega
     have L:Hid (J=a+1):=K
     have V:J≤m:=by omega
     have aa:m≤s.size:=by omega
     clear H K U
     go_wp2
     refine bodyPost_ret (zaI rfl _ _ w.heap.size 136 _ (0,0) _ rfl (heap_alloc_new w _) Tryz.underlying136 rfl (by kernel_rfl)) rfl ?_
     exact⟨_,_,rfl,.inl ⟨⟨3,s.extract (a+1) (m+1-1),0,a⟩,m+1,by rw[L.out];rfl,by omega,.str N.out M.out⟩,(Below.refl _ _).alloc (Nat.le_refl _) _⟩
    ·have M:Hid (∀n,¬zbw s a n):=H
     clear H
     go_wp2
     refine bodyPost_ret (zaI rfl _ _ w.heap.size 136 _ (0,0) _ rfl (heap_alloc_new w _) Tryz.underlying136 rfl (by kernel_rfl)) rfl ?_
     exact⟨_,_,rfl,zhi (zga N.out M.out),(Below.refl _ _).alloc (Nat.le_refl _) _⟩
   ·have Y:(bt s a==34)=false:=by simpa using E
    by_cases I:zbj (bt s a)
    ·have HS:Hid (zbj (bt s a)):=I
     have X:zfk (bt s a)=true:=decide_eq_true I
     obtain⟨J,K⟩: ∃J,J=a+1:=⟨_,rfl⟩
     have ea:(a:Int)+1=(J:Int):=by omega
     have L:Hid (J=a+1):=K
     have V:a≤J:=by omega
     have aa:J≤s.size:=by omega
     clear I E K
     go_enter Tryz.func85,Tryz.ntmps85
     go_wp2_with fail
     refine (zda _ _ _ h q).mono ?_
     rintro e D ⟨rfl,rfl⟩
     go_wp2_with fail
     refine (zcj _ _ h q).mono ?_
     rintro e D ⟨rfl,rfl⟩
     go_wp2_with fail
     refine (ziW _ _).mono ?_
     rintro e D ⟨rfl,rfl⟩
     go_wp2
     refine bodyPost_ret (zaI rfl _ _ w.heap.size 136 _ (0,0) _ rfl (heap_alloc_new w _) Tryz.underlying136 rfl (by kernel_rfl)) rfl ?_
     exact⟨_,_,rfl,.inl ⟨⟨4,s.extract a (a+1),0,a⟩,a+1,by rw[L.out];rfl,by rw[L.out],.sign HS.out⟩,(Below.refl _ _).alloc (Nat.le_refl _) _⟩
    ·have HN:Hid (∀t n,¬Tok s A a t n):=zja hl hd E I
     have X:zfk (bt s a)=false:=decide_eq_false I
     clear I E
     go_enter Tryz.func85,Tryz.ntmps85
     go_wp2_with fail
     refine (zda _ _ _ h q).mono ?_
     rintro e D ⟨rfl,rfl⟩
     go_wp2_with fail
     refine (zcj _ _ h q).mono ?_
     rintro e D ⟨rfl,rfl⟩
     go_wp2_with fail
     refine (ziW _ _).mono ?_
     rintro e D ⟨rfl,rfl⟩
     go_wp2
     refine bodyPost_ret (zaI rfl _ _ w.heap.size 136 _ (0,0) _ rfl (heap_alloc_new w _) Tryz.underlying136 rfl (by kernel_rfl)) rfl ?_
     exact⟨_,_,rfl,zhi HN.out,(Below.refl _ _).alloc (Nat.le_refl _) _⟩
end Go.Proofs.YtcidlffeeninbaaGreat