/-
 What spec.l3Token and spec.Lex answer: the walks.
-/
import Derived.Test.YticdggnnpjachaaGreatCcSpecLexAToSpecLexC
import Derived.Laws.Rows
import Derived.Laws.ResultCell
namespace Go.Proofs.YticdggnnpjachaaGreat
set_option maxHeartbeats 3200000
open Go.RowKit Go.PlainAid
theorem za8 {P:Program} {q:Func} {p u:Tmp} {j:TypeId} (h:q.results= #[.cell p j,.tmp u]) (tmps:Array Value) (w:World) (g:Nat) (t:TypeId) (n:Array Value) (o:Nat×Nat) (d:TypeDesc)
  (H:tmps.getD p undef= .pointer (some ⟨g,0,none⟩)) (A:w.heap[g]? =some (.cells n t o))
  (E:P.underlying j=some d) (z:(match d with| .struct _| .array _ _=>true|_=>false)=true) (D:(P.info? j).map (·.size)=some n.size):
  (results q tmps).run P w= .ok (.tuple #[.agg n,tmps.getD u undef]) w:=by
 rw[results_cell_tmp h,H]
 simp[asAddr,Result.andThen,run_loadVar_row w g t j n o d A E z D]
def tkV (t:Tk):Value:=.agg #[.int .i64 t.kind,.string t.text,.int .i64 t.num,.int .i64 t.pos]
def zhd (s:ByteArray) (scr:Bool) (a:Nat) (v:Value) (z:Int):Prop:=
 (∃(t:Tk) (n:Nat),v=tkV t∧z=n∧Tok s scr a t n)∨(z= -1∧(∃k x y u,v= .agg #[.int .i64 k,.string x,.int .i64 y,.int .i64 u])∧∀t n,¬Tok s scr a t n)
theorem zfL {s:ByteArray} {j:Bool} {a:Nat} {k y u:Int} {x:ByteArray} (h: ∀t n,¬Tok s j a t n):zhd s j a (.agg #[.int .i64 k,.string x,.int .i64 y,.int .i64 u]) (-1):=.inr ⟨rfl,⟨k,x,y,u,rfl⟩,h⟩
theorem zfM {s:ByteArray} {o:Bool} {a:Nat} (q:zD (bt s a)=true) (h: ∀n e,¬zaJ s a o n e): ∀t n,¬Tok s o a t n:=by
 intro t n z
 cases z using Tok.elim with
 |name j _=>rw[(zd3 j).1] at q;cases q
 |num _ w=>exact h _ _ w
 |str j _=>exact (zd4 q).1 j
 |sign j=>exact (zd4 q).2 j
theorem zeU {s:ByteArray} {q:Bool} {a:Nat} (o:bt s a=34) (h: ∀e,¬zbc s a e): ∀t n,¬Tok s q a t n:=by
 intro t n z
 cases z using Tok.elim with
 |name j _=>exact (zd3 j).2.1 o
 |num j _=>exact (zd4 j).1 o
 |str _ w=>exact h _ w
 |sign j=>rw[o] at j;unfold zaS at j;omega
theorem zhe {s:ByteArray} {j:Bool} {a:Nat} (z:zat (bt s a) j=false) (A:zD (bt s a)=false) (o:bt s a≠34) (w: ¬zaS (bt s a)): ∀t n,¬Tok s j a t n:=by
 intro t n q
 cases q using Tok.elim with
 |name h _=>rw[z] at h;cases h
 |num h _=>rw[A] at h;cases h
 |str h _=>exact o h
 |sign h=>exact w h
theorem zkm (s:ByteArray) (a:Nat) (o:Bool) (w:World) (ha:a<s.size) (N:s.size≤4294967296):
  Calls Tryz.prog 68 #[.string s,.int .i64 a,.bool o] w fun e A=>∃v z,e= .returned (.tuple #[v,.int .i64 z])∧zhd s o a v z∧Below w.heap.size w A:=by
 have hb:=get_bt s
 have h:=bt_nonneg s a
 have j:=bt_le s a
 cases hl:zat (bt s a) o with
 |true=>
  have HL:Hid (zat (bt s a) o=true):=hl
  go_enter Tryz.func68,Tryz.ntmps68
  go_wp2_with fail
  refine (zc0 _ _ _ h j).mono ?_
  rintro e A ⟨rfl,rfl⟩
  go_wp2_with fail
  refine (zkg _ _ _ _ (by omega) N).mono ?_
  rintro e A ⟨n,rfl,M,rfl⟩
  have HR:Hid (zau (zE o) s a n):=M
  have ad:a≤n:=M.1
  have ab:n≤s.size:=M.2.1
  clear M
  go_wp2
  refine bodyPost_ret (za8 rfl _ _ w.heap.size 111 _ (0,0) _ rfl (heap_alloc_new w _) Tryz.underlying111 rfl (by kernel_rfl)) rfl ?_
  exact⟨_,_,rfl,.inl ⟨⟨1,s.extract a n,0,a⟩,n,rfl,rfl,.name HL.out HR.out⟩,(Below.refl _ _).alloc (Nat.le_refl _) _⟩
 |false=>
  cases hd:zD (bt s a) with
  |true=>
   have U:Hid (zD (bt s a)=true):=hd
   go_enter Tryz.func68,Tryz.ntmps68
   go_wp2_with fail
   refine (zc0 _ _ _ h j).mono ?_
   rintro e A ⟨rfl,rfl⟩
   go_wp2_with fail
   refine (zbH _ _ h j).mono ?_
   rintro e A ⟨rfl,rfl⟩
   go_wp2_with fail
   refine (zkl _ _ _ _ ha U.out N).mono ?_
   rintro e A ⟨n,z,rfl,X,rfl⟩
   rcases X with ⟨m,rfl,D⟩|⟨rfl,rfl,D⟩
   ·have K:Hid (zaJ s a o n m):=D
    clear D
    go_wp2
    refine bodyPost_ret (za8 rfl _ _ w.heap.size 111 _ (0,0) _ rfl (heap_alloc_new w _) Tryz.underlying111 rfl (by kernel_rfl)) rfl ?_
    exact⟨_,_,rfl,.inl ⟨⟨2,{data:=#[]},n,a⟩,m,rfl,rfl,.num U.out K.out⟩,(Below.refl _ _).alloc (Nat.le_refl _) _⟩
   ·have K:Hid (∀n m,¬zaJ s a o n m):=D
    clear D
    go_wp2
    refine bodyPost_ret (za8 rfl _ _ w.heap.size 111 _ (0,0) _ rfl (heap_alloc_new w _) Tryz.underlying111 rfl (by kernel_rfl)) rfl ?_
    exact⟨_,_,rfl,zfL (zfM U.out K.out),(Below.refl _ _).alloc (Nat.le_refl _) _⟩
  |false=>
   by_cases q:bt s a=34
   ·have L:Hid (bt s a=34):=q
    have Y:(bt s a==34)=true:=by simpa using q
    clear q
    go_enter Tryz.func68,Tryz.ntmps68
    go_wp2_with fail
    refine (zc0 _ _ _ h j).mono ?_
    rintro e A ⟨rfl,rfl⟩
    go_wp2_with fail
    refine (zbH _ _ h j).mono ?_
    rintro e A ⟨rfl,rfl⟩
    go_wp2_with fail
    refine (zkh _ _ _ ha N).mono ?_
    rintro e A ⟨z,rfl,X,rfl⟩
    rcases X with ⟨n,rfl,D⟩|⟨rfl,D⟩
    ·obtain⟨m,rfl⟩: ∃m,n=m+1:=⟨n-1,by have:=D.1;omega⟩
     have K:Hid (zbc s a (m+1)):=D
     have V:a+1≤m:=by have:=D.1;omega
     have ac:m+1≤s.size:=D.2.1
     have ez:((m+1:Nat):Int)=(m:Int)+1:=by omega
     obtain⟨H,I⟩: ∃H,H=a+1:=⟨_,rfl⟩
     have ea:(a:Int)+1=(H:Int):=by omega
     have J:Hid (H=a+1):=I
     have Z:H≤m:=by omega
     have aa:m≤s.size:=by omega
     clear D I V
     go_wp2
     refine bodyPost_ret (za8 rfl _ _ w.heap.size 111 _ (0,0) _ rfl (heap_alloc_new w _) Tryz.underlying111 rfl (by kernel_rfl)) rfl ?_
     exact⟨_,_,rfl,.inl ⟨⟨3,s.extract (a+1) (m+1-1),0,a⟩,m+1,by rw[J.out];rfl,by omega,.str L.out K.out⟩,(Below.refl _ _).alloc (Nat.le_refl _) _⟩
    ·have K:Hid (∀n,¬zbc s a n):=D
     clear D
     go_wp2
     refine bodyPost_ret (za8 rfl _ _ w.heap.size 111 _ (0,0) _ rfl (heap_alloc_new w _) Tryz.underlying111 rfl (by kernel_rfl)) rfl ?_
     exact⟨_,_,rfl,zfL (zeU L.out K.out),(Below.refl _ _).alloc (Nat.le_refl _) _⟩
   ·have Y:(bt s a==34)=false:=by simpa using q
    by_cases E:zaS (bt s a)
    ·have HS:Hid (zaS (bt s a)):=E
     have O:zel (bt s a)=true:=decide_eq_true E
     obtain⟨H,I⟩: ∃H,H=a+1:=⟨_,rfl⟩
     have ea:(a:Int)+1=(H:Int):=by omega
     have J:Hid (H=a+1):=I
     have Z:a≤H:=by omega
     have aa:H≤s.size:=by omega
     clear E q I
     go_enter Tryz.func68,Tryz.ntmps68
     go_wp2_with fail
     refine (zc0 _ _ _ h j).mono ?_
     rintro e A ⟨rfl,rfl⟩
     go_wp2_with fail
     refine (zbH _ _ h j).mono ?_
     rintro e A ⟨rfl,rfl⟩
     go_wp2_with fail
     refine (zha _ _).mono ?_
     rintro e A ⟨rfl,rfl⟩
     go_wp2
     refine bodyPost_ret (za8 rfl _ _ w.heap.size 111 _ (0,0) _ rfl (heap_alloc_new w _) Tryz.underlying111 rfl (by kernel_rfl)) rfl ?_
     exact⟨_,_,rfl,.inl ⟨⟨4,s.extract a (a+1),0,a⟩,a+1,by rw[J.out];rfl,by rw[J.out],.sign HS.out⟩,(Below.refl _ _).alloc (Nat.le_refl _) _⟩
    ·have HN:Hid (∀t n,¬Tok s o a t n):=zhe hl hd q E
     have O:zel (bt s a)=false:=decide_eq_false E
     clear E q
     go_enter Tryz.func68,Tryz.ntmps68
     go_wp2_with fail
     refine (zc0 _ _ _ h j).mono ?_
     rintro e A ⟨rfl,rfl⟩
     go_wp2_with fail
     refine (zbH _ _ h j).mono ?_
     rintro e A ⟨rfl,rfl⟩
     go_wp2_with fail
     refine (zha _ _).mono ?_
     rintro e A ⟨rfl,rfl⟩
     go_wp2
     refine bodyPost_ret (za8 rfl _ _ w.heap.size 111 _ (0,0) _ rfl (heap_alloc_new w _) Tryz.underlying111 rfl (by kernel_rfl)) rfl ?_
     exact⟨_,_,rfl,zfL HN.out,(Below.refl _ _).alloc (Nat.le_refl _) _⟩
end Go.Proofs.YticdggnnpjachaaGreat