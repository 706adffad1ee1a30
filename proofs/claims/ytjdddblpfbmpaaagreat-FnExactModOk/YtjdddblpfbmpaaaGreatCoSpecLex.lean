/-
 What spec.l3Token and spec.Lex answer: the walks.
-/
import Derived.Test.YtjdddblpfbmpaaaGreatCoSpecLexAToSpecLexC
import Derived.Laws.Rows
import Derived.Laws.ResultCell
namespace Go.Proofs.YtjdddblpfbmpaaaGreat
set_option maxHeartbeats 3200000
open Go.RowKit Go.PlainAid
theorem zay {P:Program} {q:Func} {p u:Tmp} {n:TypeId} (h:q.results= #[.cell p n,.tmp u]) (tmps:Array Value) (w:World) (g:Nat) (t:TypeId) (j:Array Value) (z:Nat×Nat) (d:TypeDesc)
  (D:tmps.getD p undef= .pointer (some ⟨g,0,none⟩)) (H:w.heap[g]? =some (.cells j t z))
  (E:P.underlying n=some d) (A:(match d with| .struct _| .array _ _=>true|_=>false)=true) (I:(P.info? n).map (·.size)=some j.size):
  (results q tmps).run P w= .ok (.tuple #[.agg j,tmps.getD u undef]) w:=by
 rw[results_cell_tmp h,D]
 simp[asAddr,Result.andThen,run_loadVar_row w g t n j z d H E A I]
def tkV (t:Tk):Value:=.agg #[.int .i64 t.kind,.string t.text,.int .i64 t.num,.int .i64 t.pos]
def zha (s:ByteArray) (scr:Bool) (a:Nat) (v:Value) (z:Int):Prop:=
 (∃(t:Tk) (n:Nat),v=tkV t∧z=n∧Tok s scr a t n)∨(z= -1∧(∃k x y u,v= .agg #[.int .i64 k,.string x,.int .i64 y,.int .i64 u])∧∀t n,¬Tok s scr a t n)
theorem zfI {s:ByteArray} {j:Bool} {a:Nat} {k y u:Int} {x:ByteArray} (h: ∀t n,¬Tok s j a t n):zha s j a (.agg #[.int .i64 k,.string x,.int .i64 y,.int .i64 u]) (-1):=.inr ⟨rfl,⟨k,x,y,u,rfl⟩,h⟩
theorem zfJ {s:ByteArray} {q:Bool} {a:Nat} (w:zD (bt s a)=true) (h: ∀n e,¬zaG s a q n e): ∀t n,¬Tok s q a t n:=by
 intro t n A
 cases A using Tok.elim with
 |name j _=>rw[(zd1 j).1] at w;cases w
 |num _ z=>exact h _ _ z
 |str j _=>exact (zd2 w).1 j
 |sign j=>exact (zd2 w).2 j
theorem zeR {s:ByteArray} {w:Bool} {a:Nat} (q:bt s a=34) (h: ∀e,¬zba s a e): ∀t n,¬Tok s w a t n:=by
 intro t n A
 cases A using Tok.elim with
 |name j _=>exact (zd1 j).2.1 q
 |num j _=>exact (zd2 j).1 q
 |str _ z=>exact h _ z
 |sign j=>rw[q] at j;unfold zaP at j;omega
theorem zhb {s:ByteArray} {j:Bool} {a:Nat} (z:zar (bt s a) j=false) (q:zD (bt s a)=false) (D:bt s a≠34) (w: ¬zaP (bt s a)): ∀t n,¬Tok s j a t n:=by
 intro t n A
 cases A using Tok.elim with
 |name h _=>rw[z] at h;cases h
 |num h _=>rw[q] at h;cases h
 |str h _=>exact D h
 |sign h=>exact w h
theorem zkr (s:ByteArray) (a:Nat) (q:Bool) (w:World) (ha:a<s.size) (Z:s.size≤4294967296):
  Calls Tryz.prog 104 #[.string s,.int .i64 a,.bool q] w fun e A=>∃v z,e= .returned (.tuple #[v,.int .i64 z])∧zha s q a v z∧Below w.heap.size w A:=by
 have hb:=get_bt s
 have h:=bt_nonneg s a
 have j:=bt_le s a
 cases hl:zar (bt s a) q with
 |true=>
  have HL:Hid (zar (bt s a) q=true):=hl
  go_enter Tryz.func104,Tryz.ntmps104
  go_wp2_with fail
  refine (zcx _ _ _ h j).mono ?_
  rintro e A ⟨rfl,rfl⟩
  go_wp2_with fail
  refine (zkl _ _ _ _ (by omega) Z).mono ?_
  rintro e A ⟨n,rfl,N,rfl⟩
  have HR:Hid (zas (zE q) s a n):=N
  have ac:a≤n:=N.1
  have aa:n≤s.size:=N.2.1
  clear N
  go_wp2
  refine bodyPost_ret (zay rfl _ _ w.heap.size 143 _ (0,0) _ rfl (heap_alloc_new w _) Tryz.underlying143 rfl (by kernel_rfl)) rfl ?_
  exact⟨_,_,rfl,.inl ⟨⟨1,s.extract a n,0,a⟩,n,rfl,rfl,.name HL.out HR.out⟩,(Below.refl _ _).alloc (Nat.le_refl _) _⟩
 |false=>
  cases hd:zD (bt s a) with
  |true=>
   have HD:Hid (zD (bt s a)=true):=hd
   go_enter Tryz.func104,Tryz.ntmps104
   go_wp2_with fail
   refine (zcx _ _ _ h j).mono ?_
   rintro e A ⟨rfl,rfl⟩
   go_wp2_with fail
   refine (zbD _ _ h j).mono ?_
   rintro e A ⟨rfl,rfl⟩
   go_wp2_with fail
   refine (zkq _ _ _ _ ha HD.out Z).mono ?_
   rintro e A ⟨n,z,rfl,hn,rfl⟩
   rcases hn with ⟨m,rfl,E⟩|⟨rfl,rfl,E⟩
   ·have L:Hid (zaG s a q n m):=E
    clear E
    go_wp2
    refine bodyPost_ret (zay rfl _ _ w.heap.size 143 _ (0,0) _ rfl (heap_alloc_new w _) Tryz.underlying143 rfl (by kernel_rfl)) rfl ?_
    exact⟨_,_,rfl,.inl ⟨⟨2,{data:=#[]},n,a⟩,m,rfl,rfl,.num HD.out L.out⟩,(Below.refl _ _).alloc (Nat.le_refl _) _⟩
   ·have L:Hid (∀n m,¬zaG s a q n m):=E
    clear E
    go_wp2
    refine bodyPost_ret (zay rfl _ _ w.heap.size 143 _ (0,0) _ rfl (heap_alloc_new w _) Tryz.underlying143 rfl (by kernel_rfl)) rfl ?_
    exact⟨_,_,rfl,zfI (zfJ HD.out L.out),(Below.refl _ _).alloc (Nat.le_refl _) _⟩
  |false=>
   by_cases D:bt s a=34
   ·have M:Hid (bt s a=34):=D
    have U:(bt s a==34)=true:=by simpa using D
    clear D
    go_enter Tryz.func104,Tryz.ntmps104
    go_wp2_with fail
    refine (zcx _ _ _ h j).mono ?_
    rintro e A ⟨rfl,rfl⟩
    go_wp2_with fail
    refine (zbD _ _ h j).mono ?_
    rintro e A ⟨rfl,rfl⟩
    go_wp2_with fail
    refine (zkm _ _ _ ha Z).mono ?_
    rintro e A ⟨z,rfl,hn,rfl⟩
    rcases hn with ⟨n,rfl,E⟩|⟨rfl,E⟩
    ·obtain⟨m,rfl⟩: ∃m,n=m+1:=⟨n-1,by have:=E.1;omega⟩
     have L:Hid (zba s a (m+1)):=E
     have X:a+1≤m:=by have:=E.1;omega
     have ab:m+1≤s.size:=E.2.1
     have ez:((m+1:Nat):Int)=(m:Int)+1:=by omega
     obtain⟨I,J⟩: ∃I,I=a+1:=⟨_,rfl⟩
     have ea:(a:Int)+1=(I:Int):=by omega
     have K:Hid (I=a+1):=J
     have Y:I≤m:=by omega
     have O:m≤s.size:=by omega
     clear E J X
     go_wp2
     refine bodyPost_ret (zay rfl _ _ w.heap.size 143 _ (0,0) _ rfl (heap_alloc_new w _) Tryz.underlying143 rfl (by kernel_rfl)) rfl ?_
     exact⟨_,_,rfl,.inl ⟨⟨3,s.extract (a+1) (m+1-1),0,a⟩,m+1,by rw[K.out];rfl,by omega,.str M.out L.out⟩,(Below.refl _ _).alloc (Nat.le_refl _) _⟩
    ·have L:Hid (∀n,¬zba s a n):=E
     clear E
     go_wp2
     refine bodyPost_ret (zay rfl _ _ w.heap.size 143 _ (0,0) _ rfl (heap_alloc_new w _) Tryz.underlying143 rfl (by kernel_rfl)) rfl ?_
     exact⟨_,_,rfl,zfI (zeR M.out L.out),(Below.refl _ _).alloc (Nat.le_refl _) _⟩
   ·have U:(bt s a==34)=false:=by simpa using D
    by_cases H:zaP (bt s a)
    ·have HS:Hid (zaP (bt s a)):=H
     have V:zei (bt s a)=true:=decide_eq_true H
     obtain⟨I,J⟩: ∃I,I=a+1:=⟨_,rfl⟩
     have ea:(a:Int)+1=(I:Int):=by omega
     have K:Hid (I=a+1):=J
     have Y:a≤I:=by omega
     have O:I≤s.size:=by omega
     clear H D J
     go_enter Tryz.func104,Tryz.ntmps104
     go_wp2_with fail
     refine (zcx _ _ _ h j).mono ?_
     rintro e A ⟨rfl,rfl⟩
     go_wp2_with fail
     refine (zbD _ _ h j).mono ?_
     rintro e A ⟨rfl,rfl⟩
     go_wp2_with fail
     refine (zgX _ _).mono ?_
     rintro e A ⟨rfl,rfl⟩
     go_wp2
     refine bodyPost_ret (zay rfl _ _ w.heap.size 143 _ (0,0) _ rfl (heap_alloc_new w _) Tryz.underlying143 rfl (by kernel_rfl)) rfl ?_
     exact⟨_,_,rfl,.inl ⟨⟨4,s.extract a (a+1),0,a⟩,a+1,by rw[K.out];rfl,by rw[K.out],.sign HS.out⟩,(Below.refl _ _).alloc (Nat.le_refl _) _⟩
    ·have HN:Hid (∀t n,¬Tok s q a t n):=zhb hl hd D H
     have V:zei (bt s a)=false:=decide_eq_false H
     clear H D
     go_enter Tryz.func104,Tryz.ntmps104
     go_wp2_with fail
     refine (zcx _ _ _ h j).mono ?_
     rintro e A ⟨rfl,rfl⟩
     go_wp2_with fail
     refine (zbD _ _ h j).mono ?_
     rintro e A ⟨rfl,rfl⟩
     go_wp2_with fail
     refine (zgX _ _).mono ?_
     rintro e A ⟨rfl,rfl⟩
     go_wp2
     refine bodyPost_ret (zay rfl _ _ w.heap.size 143 _ (0,0) _ rfl (heap_alloc_new w _) Tryz.underlying143 rfl (by kernel_rfl)) rfl ?_
     exact⟨_,_,rfl,zfI HN.out,(Below.refl _ _).alloc (Nat.le_refl _) _⟩
end Go.Proofs.YtjdddblpfbmpaaaGreat