/-
 What spec.l3Token and spec.Lex answer: the walks.
-/
import Derived.Test.YtgcbmogmniahjaaGreatCAcSpecLexAToSpecLexC
import Derived.Laws.Rows
import Derived.Laws.ResultCell
namespace Go.Proofs.YtgcbmogmniahjaaGreat
set_option maxHeartbeats 3200000
open Go.RowKit Go.PlainAid
theorem zaA {P:Program} {A:Func} {p u:Tmp} {z:TypeId} (h:A.results= #[.cell p z,.tmp u]) (tmps:Array Value) (w:World) (g:Nat) (t:TypeId) (q:Array Value) (H:Nat×Nat) (d:TypeDesc)
  (J:tmps.getD p undef= .pointer (some ⟨g,0,none⟩)) (L:w.heap[g]? =some (.cells q t H))
  (K:P.underlying z=some d) (I:(match d with| .struct _| .array _ _=>true|_=>false)=true) (M:(P.info? z).map (·.size)=some q.size):
  (results A tmps).run P w= .ok (.tuple #[.agg q,tmps.getD u undef]) w:=by
 rw[results_cell_tmp h,J]
 simp[asAddr,Result.andThen,run_loadVar_row w g t z q H d L K I M]
def tkV (t:Tk):Value:=.agg #[.int .i64 t.kind,.string t.text,.int .i64 t.num,.int .i64 t.pos]
def zj6 (s:ByteArray) (scr:Bool) (a:Nat) (v:Value) (z:Int):Prop:=
 (∃(t:Tk) (n:Nat),v=tkV t∧z=n∧Tok s scr a t n)∨(z= -1∧(∃k x y u,v= .agg #[.int .i64 k,.string x,.int .i64 y,.int .i64 u])∧∀t n,¬Tok s scr a t n)
theorem zh4 {s:ByteArray} {q:Bool} {a:Nat} {k y u:Int} {x:ByteArray} (h: ∀t n,¬Tok s q a t n):zj6 s q a (.agg #[.int .i64 k,.string x,.int .i64 y,.int .i64 u]) (-1):=.inr ⟨rfl,⟨k,x,y,u,rfl⟩,h⟩
theorem zh5 {s:ByteArray} {w:Bool} {a:Nat} (z:zK (bt s a)=true) (h: ∀n e,¬zba s a w n e): ∀t n,¬Tok s w a t n:=by
 intro t n H
 cases H using Tok.elim with
 |name q _=>rw[(ze6 q).1] at z;cases z
 |num _ A=>exact h _ _ A
 |str q _=>exact (ze7 z).1 q
 |sign q=>exact (ze7 z).2 q
theorem zgm {s:ByteArray} {z:Bool} {a:Nat} (w:bt s a=34) (h: ∀e,¬zb0 s a e): ∀t n,¬Tok s z a t n:=by
 intro t n H
 cases H using Tok.elim with
 |name q _=>exact (ze6 q).2.1 w
 |num q _=>exact (ze7 q).1 w
 |str _ A=>exact h _ A
 |sign q=>rw[w] at q;unfold zbo at q;omega
theorem zj7 {s:ByteArray} {q:Bool} {a:Nat} (A:za2 (bt s a) q=false) (w:zK (bt s a)=false) (I:bt s a≠34) (z: ¬zbo (bt s a)): ∀t n,¬Tok s q a t n:=by
 intro t n H
 cases H using Tok.elim with
 |name h _=>rw[A] at h;cases h
 |num h _=>rw[w] at h;cases h
 |str h _=>exact I h
 |sign h=>exact z h
theorem znW (s:ByteArray) (a:Nat) (A:Bool) (w:World) (ha:a<s.size) (hs:s.size≤4294967296):
  Calls Tryz.prog 112 #[.string s,.int .i64 a,.bool A] w fun e w'=>∃v z,e= .returned (.tuple #[v,.int .i64 z])∧zj6 s A a v z∧Below w.heap.size w w':=by
 have hb:=get_bt s
 have h:=bt_nonneg s a
 have q:=bt_le s a
 cases hl:za2 (bt s a) A with
 |true=>
  have HL:Hid (za2 (bt s a) A=true):=hl
  go_enter Tryz.func112,Tryz.ntmps112
  go_wp2_with fail
  refine (zdf _ _ _ h q).mono ?_
  rintro e w' ⟨rfl,rfl⟩
  go_wp2_with fail
  refine (znQ _ _ _ _ (by omega) hs).mono ?_
  rintro e w' ⟨n,rfl,U,rfl⟩
  have HR:Hid (za3 (zM A) s a n):=U
  have ad:a≤n:=U.1
  have ab:n≤s.size:=U.2.1
  clear U
  go_wp2
  refine bodyPost_ret (zaA rfl _ _ w.heap.size 158 _ (0,0) _ rfl (heap_alloc_new w _) Tryz.underlying158 rfl (by kernel_rfl)) rfl ?_
  exact⟨_,_,rfl,.inl ⟨⟨1,s.extract a n,0,a⟩,n,rfl,rfl,.name HL.out HR.out⟩,(Below.refl _ _).alloc (Nat.le_refl _) _⟩
 |false=>
  cases hd:zK (bt s a) with
  |true=>
   have HD:Hid (zK (bt s a)=true):=hd
   go_enter Tryz.func112,Tryz.ntmps112
   go_wp2_with fail
   refine (zdf _ _ _ h q).mono ?_
   rintro e w' ⟨rfl,rfl⟩
   go_wp2_with fail
   refine (zcq _ _ h q).mono ?_
   rintro e w' ⟨rfl,rfl⟩
   go_wp2_with fail
   refine (znV _ _ _ _ ha HD.out hs).mono ?_
   rintro e w' ⟨n,z,rfl,hn,rfl⟩
   rcases hn with ⟨m,rfl,I⟩|⟨rfl,rfl,I⟩
   ·have N:Hid (zba s a A n m):=I
    clear I
    go_wp2
    refine bodyPost_ret (zaA rfl _ _ w.heap.size 158 _ (0,0) _ rfl (heap_alloc_new w _) Tryz.underlying158 rfl (by kernel_rfl)) rfl ?_
    exact⟨_,_,rfl,.inl ⟨⟨2,{data:=#[]},n,a⟩,m,rfl,rfl,.num HD.out N.out⟩,(Below.refl _ _).alloc (Nat.le_refl _) _⟩
   ·have N:Hid (∀n m,¬zba s a A n m):=I
    clear I
    go_wp2
    refine bodyPost_ret (zaA rfl _ _ w.heap.size 158 _ (0,0) _ rfl (heap_alloc_new w _) Tryz.underlying158 rfl (by kernel_rfl)) rfl ?_
    exact⟨_,_,rfl,zh4 (zh5 HD.out N.out),(Below.refl _ _).alloc (Nat.le_refl _) _⟩
  |false=>
   by_cases H:bt s a=34
   ·have O:Hid (bt s a=34):=H
    have X:(bt s a==34)=true:=by simpa using H
    clear H
    go_enter Tryz.func112,Tryz.ntmps112
    go_wp2_with fail
    refine (zdf _ _ _ h q).mono ?_
    rintro e w' ⟨rfl,rfl⟩
    go_wp2_with fail
    refine (zcq _ _ h q).mono ?_
    rintro e w' ⟨rfl,rfl⟩
    go_wp2_with fail
    refine (znR _ _ _ ha hs).mono ?_
    rintro e w' ⟨z,rfl,hn,rfl⟩
    rcases hn with ⟨n,rfl,I⟩|⟨rfl,I⟩
    ·obtain⟨m,rfl⟩: ∃m,n=m+1:=⟨n-1,by have:=I.1;omega⟩
     have N:Hid (zb0 s a (m+1)):=I
     have Z:a+1≤m:=by have:=I.1;omega
     have ac:m+1≤s.size:=I.2.1
     have ez:((m+1:Nat):Int)=(m:Int)+1:=by omega
     obtain⟨K,L⟩: ∃K,K=a+1:=⟨_,rfl⟩
     have ea:(a:Int)+1=(K:Int):=by omega
     have M:Hid (K=a+1):=L
     have aa:K≤m:=by omega
     have V:m≤s.size:=by omega
     clear I L Z
     go_wp2
     refine bodyPost_ret (zaA rfl _ _ w.heap.size 158 _ (0,0) _ rfl (heap_alloc_new w _) Tryz.underlying158 rfl (by kernel_rfl)) rfl ?_
     exact⟨_,_,rfl,.inl ⟨⟨3,s.extract (a+1) (m+1-1),0,a⟩,m+1,by rw[M.out];rfl,by omega,.str O.out N.out⟩,(Below.refl _ _).alloc (Nat.le_refl _) _⟩
    ·have N:Hid (∀n,¬zb0 s a n):=I
     clear I
     go_wp2
     refine bodyPost_ret (zaA rfl _ _ w.heap.size 158 _ (0,0) _ rfl (heap_alloc_new w _) Tryz.underlying158 rfl (by kernel_rfl)) rfl ?_
     exact⟨_,_,rfl,zh4 (zgm O.out N.out),(Below.refl _ _).alloc (Nat.le_refl _) _⟩
   ·have X:(bt s a==34)=false:=by simpa using H
    by_cases J:zbo (bt s a)
    ·have HS:Hid (zbo (bt s a)):=J
     have Y:zfv (bt s a)=true:=decide_eq_true J
     obtain⟨K,L⟩: ∃K,K=a+1:=⟨_,rfl⟩
     have ea:(a:Int)+1=(K:Int):=by omega
     have M:Hid (K=a+1):=L
     have aa:a≤K:=by omega
     have V:K≤s.size:=by omega
     clear J H L
     go_enter Tryz.func112,Tryz.ntmps112
     go_wp2_with fail
     refine (zdf _ _ _ h q).mono ?_
     rintro e w' ⟨rfl,rfl⟩
     go_wp2_with fail
     refine (zcq _ _ h q).mono ?_
     rintro e w' ⟨rfl,rfl⟩
     go_wp2_with fail
     refine (zj3 _ _).mono ?_
     rintro e w' ⟨rfl,rfl⟩
     go_wp2
     refine bodyPost_ret (zaA rfl _ _ w.heap.size 158 _ (0,0) _ rfl (heap_alloc_new w _) Tryz.underlying158 rfl (by kernel_rfl)) rfl ?_
     exact⟨_,_,rfl,.inl ⟨⟨4,s.extract a (a+1),0,a⟩,a+1,by rw[M.out];rfl,by rw[M.out],.sign HS.out⟩,(Below.refl _ _).alloc (Nat.le_refl _) _⟩
    ·have HN:Hid (∀t n,¬Tok s A a t n):=zj7 hl hd H J
     have Y:zfv (bt s a)=false:=decide_eq_false J
     clear J H
     go_enter Tryz.func112,Tryz.ntmps112
     go_wp2_with fail
     refine (zdf _ _ _ h q).mono ?_
     rintro e w' ⟨rfl,rfl⟩
     go_wp2_with fail
     refine (zcq _ _ h q).mono ?_
     rintro e w' ⟨rfl,rfl⟩
     go_wp2_with fail
     refine (zj3 _ _).mono ?_
     rintro e w' ⟨rfl,rfl⟩
     go_wp2
     refine bodyPost_ret (zaA rfl _ _ w.heap.size 158 _ (0,0) _ rfl (heap_alloc_new w _) Tryz.underlying158 rfl (by kernel_rfl)) rfl ?_
     exact⟨_,_,rfl,zh4 HN.out,(Below.refl _ _).alloc (Nat.le_refl _) _⟩
end Go.Proofs.YtgcbmogmniahjaaGreat