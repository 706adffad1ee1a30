/-
 What spec.l3Token and spec.Lex answer: the walks.
-/
import Derived.Test.YtgcbmogmniahjaaGreatCReSpecLexAToSpecLexC
import Derived.Laws.Rows
import Derived.Laws.ResultCell
namespace Go.Proofs.YtgcbmogmniahjaaGreat
set_option maxHeartbeats 3200000
open Go.RowKit Go.PlainAid
theorem zaC {P:Program} {A:Func} {p u:Tmp} {z:TypeId} (h:A.results= #[.cell p z,.tmp u]) (tmps:Array Value) (w:World) (g:Nat) (t:TypeId) (q:Array Value) (D:Nat×Nat) (d:TypeDesc)
  (H:tmps.getD p undef= .pointer (some ⟨g,0,none⟩)) (J:w.heap[g]? =some (.cells q t D))
  (I:P.underlying z=some d) (E:(match d with| .struct _| .array _ _=>true|_=>false)=true) (K:(P.info? z).map (·.size)=some q.size):
  (results A tmps).run P w= .ok (.tuple #[.agg q,tmps.getD u undef]) w:=by
 rw[results_cell_tmp h,H]
 simp[asAddr,Result.andThen,run_loadVar_row w g t z q D d J I E K]
def tkV (t:Tk):Value:=.agg #[.int .i64 t.kind,.string t.text,.int .i64 t.num,.int .i64 t.pos]
def zjL (s:ByteArray) (scr:Bool) (a:Nat) (v:Value) (z:Int):Prop:=
 (∃(t:Tk) (n:Nat),v=tkV t∧z=n∧Tok s scr a t n)∨(z= -1∧(∃k x y u,v= .agg #[.int .i64 k,.string x,.int .i64 y,.int .i64 u])∧∀t n,¬Tok s scr a t n)
theorem zhE {s:ByteArray} {q:Bool} {a:Nat} {k y u:Int} {x:ByteArray} (h: ∀t n,¬Tok s q a t n):zjL s q a (.agg #[.int .i64 k,.string x,.int .i64 y,.int .i64 u]) (-1):=.inr ⟨rfl,⟨k,x,y,u,rfl⟩,h⟩
theorem zhF {s:ByteArray} {w:Bool} {a:Nat} (z:zL (bt s a)=true) (h: ∀n e,¬zbc s a w n e): ∀t n,¬Tok s w a t n:=by
 intro t n D
 cases D using Tok.elim with
 |name q _=>rw[(zeG q).1] at z;cases z
 |num _ A=>exact h _ _ A
 |str q _=>exact (zeH z).1 q
 |sign q=>exact (zeH z).2 q
theorem zgv {s:ByteArray} {z:Bool} {a:Nat} (w:bt s a=34) (h: ∀e,¬zb4 s a e): ∀t n,¬Tok s z a t n:=by
 intro t n D
 cases D using Tok.elim with
 |name q _=>exact (zeG q).2.1 w
 |num q _=>exact (zeH q).1 w
 |str _ A=>exact h _ A
 |sign q=>rw[w] at q;unfold zbr at q;omega
theorem zjM {s:ByteArray} {q:Bool} {a:Nat} (A:za5 (bt s a) q=false) (w:zL (bt s a)=false) (E:bt s a≠34) (z: ¬zbr (bt s a)): ∀t n,¬Tok s q a t n:=by
 intro t n D
 cases D using Tok.elim with
 |name h _=>rw[A] at h;cases h
 |num h _=>rw[w] at h;cases h
 |str h _=>exact E h
 |sign h=>exact z h
theorem zos (s:ByteArray) (a:Nat) (A:Bool) (w:World) (ha:a<s.size) (hs:s.size≤4294967296):
  Calls Tryz.prog 112 #[.string s,.int .i64 a,.bool A] w fun e D=>∃v z,e= .returned (.tuple #[v,.int .i64 z])∧zjL s A a v z∧Below w.heap.size w D:=by
 have hb:=get_bt s
 have h:=bt_nonneg s a
 have q:=bt_le s a
 cases hl:za5 (bt s a) A with
 |true=>
  have HL:Hid (za5 (bt s a) A=true):=hl
  go_enter Tryz.func112,Tryz.ntmps112
  go_wp2_with fail
  refine (zdn _ _ _ h q).mono ?_
  rintro e D ⟨rfl,rfl⟩
  go_wp2_with fail
  refine (zom _ _ _ _ (by omega) hs).mono ?_
  rintro e D ⟨n,rfl,O,rfl⟩
  have HR:Hid (za6 (zN A) s a n):=O
  have ac:a≤n:=O.1
  have aa:n≤s.size:=O.2.1
  clear O
  go_wp2
  refine bodyPost_ret (zaC rfl _ _ w.heap.size 158 _ (0,0) _ rfl (heap_alloc_new w _) Tryz.underlying158 rfl (by kernel_rfl)) rfl ?_
  exact⟨_,_,rfl,.inl ⟨⟨1,s.extract a n,0,a⟩,n,rfl,rfl,.name HL.out HR.out⟩,(Below.refl _ _).alloc (Nat.le_refl _) _⟩
 |false=>
  cases hd:zL (bt s a) with
  |true=>
   have HD:Hid (zL (bt s a)=true):=hd
   go_enter Tryz.func112,Tryz.ntmps112
   go_wp2_with fail
   refine (zdn _ _ _ h q).mono ?_
   rintro e D ⟨rfl,rfl⟩
   go_wp2_with fail
   refine (zct _ _ h q).mono ?_
   rintro e D ⟨rfl,rfl⟩
   go_wp2_with fail
   refine (zor _ _ _ _ ha HD.out hs).mono ?_
   rintro e D ⟨n,z,rfl,hn,rfl⟩
   rcases hn with ⟨m,rfl,H⟩|⟨rfl,rfl,H⟩
   ·have M:Hid (zbc s a A n m):=H
    clear H
    go_wp2
    refine bodyPost_ret (zaC rfl _ _ w.heap.size 158 _ (0,0) _ rfl (heap_alloc_new w _) Tryz.underlying158 rfl (by kernel_rfl)) rfl ?_
    exact⟨_,_,rfl,.inl ⟨⟨2,{data:=#[]},n,a⟩,m,rfl,rfl,.num HD.out M.out⟩,(Below.refl _ _).alloc (Nat.le_refl _) _⟩
   ·have M:Hid (∀n m,¬zbc s a A n m):=H
    clear H
    go_wp2
    refine bodyPost_ret (zaC rfl _ _ w.heap.size 158 _ (0,0) _ rfl (heap_alloc_new w _) Tryz.underlying158 rfl (by kernel_rfl)) rfl ?_
    exact⟨_,_,rfl,zhE (zhF HD.out M.out),(Below.refl _ _).alloc (Nat.le_refl _) _⟩
  |false=>
   by_cases E:bt s a=34
   ·have N:Hid (bt s a=34):=E
    have V:(bt s a==34)=true:=by simpa using E
    clear E
    go_enter Tryz.func112,Tryz.ntmps112
    go_wp2_with fail
    refine (zdn _ _ _ h q).mono ?_
    rintro e D ⟨rfl,rfl⟩
    go_wp2_with fail
    refine (zct _ _ h q).mono ?_
    rintro e D ⟨rfl,rfl⟩
    go_wp2_with fail
    refine (zon _ _ _ ha hs).mono ?_
    rintro e D ⟨z,rfl,hn,rfl⟩
    rcases hn with ⟨n,rfl,H⟩|⟨rfl,H⟩
    ·obtain⟨m,rfl⟩: ∃m,n=m+1:=⟨n-1,by have:=H.1;omega⟩
     have M:Hid (zb4 s a (m+1)):=H
     have Y:a+1≤m:=by have:=H.1;omega
     have ab:m+1≤s.size:=H.2.1
     have ez:((m+1:Nat):Int)=(m:Int)+1:=by omega
     obtain⟨J,K⟩: ∃J,J=a+1:=⟨_,rfl⟩
     have ea:(a:Int)+1=(J:Int):=by omega
     have L:Hid (J=a+1):=K
     have Z:J≤m:=by omega
     have U:m≤s.size:=by omega
     clear H K Y
     go_wp2
     refine bodyPost_ret (zaC rfl _ _ w.heap.size 158 _ (0,0) _ rfl (heap_alloc_new w _) Tryz.underlying158 rfl (by kernel_rfl)) rfl ?_
     exact⟨_,_,rfl,.inl ⟨⟨3,s.extract (a+1) (m+1-1),0,a⟩,m+1,by rw[L.out];rfl,by omega,.str N.out M.out⟩,(Below.refl _ _).alloc (Nat.le_refl _) _⟩
    ·have M:Hid (∀n,¬zb4 s a n):=H
     clear H
     go_wp2
     refine bodyPost_ret (zaC rfl _ _ w.heap.size 158 _ (0,0) _ rfl (heap_alloc_new w _) Tryz.underlying158 rfl (by kernel_rfl)) rfl ?_
     exact⟨_,_,rfl,zhE (zgv N.out M.out),(Below.refl _ _).alloc (Nat.le_refl _) _⟩
   ·have V:(bt s a==34)=false:=by simpa using E
    by_cases I:zbr (bt s a)
    ·have HS:Hid (zbr (bt s a)):=I
     have X:zf5 (bt s a)=true:=decide_eq_true I
     obtain⟨J,K⟩: ∃J,J=a+1:=⟨_,rfl⟩
     have ea:(a:Int)+1=(J:Int):=by omega
     have L:Hid (J=a+1):=K
     have Z:a≤J:=by omega
     have U:J≤s.size:=by omega
     clear I E K
     go_enter Tryz.func112,Tryz.ntmps112
     go_wp2_with fail
     refine (zdn _ _ _ h q).mono ?_
     rintro e D ⟨rfl,rfl⟩
     go_wp2_with fail
     refine (zct _ _ h q).mono ?_
     rintro e D ⟨rfl,rfl⟩
     go_wp2_with fail
     refine (zjI _ _).mono ?_
     rintro e D ⟨rfl,rfl⟩
     go_wp2
     refine bodyPost_ret (zaC rfl _ _ w.heap.size 158 _ (0,0) _ rfl (heap_alloc_new w _) Tryz.underlying158 rfl (by kernel_rfl)) rfl ?_
     exact⟨_,_,rfl,.inl ⟨⟨4,s.extract a (a+1),0,a⟩,a+1,by rw[L.out];rfl,by rw[L.out],.sign HS.out⟩,(Below.refl _ _).alloc (Nat.le_refl _) _⟩
    ·have HN:Hid (∀t n,¬Tok s A a t n):=zjM hl hd E I
     have X:zf5 (bt s a)=false:=decide_eq_false I
     clear I E
     go_enter Tryz.func112,Tryz.ntmps112
     go_wp2_with fail
     refine (zdn _ _ _ h q).mono ?_
     rintro e D ⟨rfl,rfl⟩
     go_wp2_with fail
     refine (zct _ _ h q).mono ?_
     rintro e D ⟨rfl,rfl⟩
     go_wp2_with fail
     refine (zjI _ _).mono ?_
     rintro e D ⟨rfl,rfl⟩
     go_wp2
     refine bodyPost_ret (zaC rfl _ _ w.heap.size 158 _ (0,0) _ rfl (heap_alloc_new w _) Tryz.underlying158 rfl (by kernel_rfl)) rfl ?_
     exact⟨_,_,rfl,zhE HN.out,(Below.refl _ _).alloc (Nat.le_refl _) _⟩
end Go.Proofs.YtgcbmogmniahjaaGreat