/-
 A row of tokens in memory,and appending one. No program is spoken of.
-/
import Derived.Test.YticdggnnpjachaaGreatCcBytesToTreeMath
import Derived.Test.YticdggnnpjachaaGreatCcApp
namespace Go.Proofs.YticdggnnpjachaaGreat
open Go.RowKit Go.PlainAid
def tkL (t:Tk):List Value:=[.int .i64 t.kind,.string t.text,.int .i64 t.num,.int .i64 t.pos]
def OwnT (w:World) (base:Nat) (e:TypeId) (g n cap:Nat) (ts:List Tk):Prop:=w.ownsRow base e 4 (.slice (some ⟨g,0,none⟩) n cap) n (ts.flatMap tkL)∧n=ts.length
theorem zak {w:World} {j g n o:Nat} {e:TypeId} {I:List Tk} (h:OwnT w j e g n o I):g<w.heap.size∧j≤g∧n≤o:=by
 rcases h.1.2 with ⟨q,_⟩|⟨J,z,H,q,A,D,E,_⟩
 ·simp at q
 ·simp only[Value.slice.injEq,Option.some.injEq,Addr.mk.injEq,and_true,true_and] at q
  obtain⟨rfl,rfl⟩:=q
  exact⟨(Array.getElem?_eq_some_iff.1 D).1,A,E⟩
theorem zbO {w W:World} {j g n q:Nat} {e:TypeId} {H:List Tk} (h:OwnT w j e g n q H) (I:Below w.heap.size w W):OwnT W j e g n q H:=by
 have A:=(zak h).1
 refine⟨⟨h.1.1,?_⟩,h.2⟩
 rcases h.1.2 with k|⟨L,E,z,D,o,J,K⟩
 ·exact .inl k
 ·simp only[Value.slice.injEq,Option.some.injEq,Addr.mk.injEq,and_true,true_and] at D
  obtain⟨rfl,rfl⟩:=D
  exact .inr ⟨g,q,z,rfl,o,(I.block g A).trans J,K⟩
theorem zfG (w:World) (e:TypeId) (h:Nat) (j:h≤w.heap.size):OwnT (w.alloc (.cells #[] e)) h e w.heap.size 0 0 []:=
 ⟨World.ownsRow_lit w #[] 0 j (by unfold maxLen;omega) rfl,rfl⟩
theorem zjS {P:Program} (w:World) {K:Array Oper} {rest:List Oper} {o:Oper} {a:Act} {Q:Exit→Act→World→Prop} (X:o.guard=none) (s x:Operand) (t:TypeId)
  (ho:o.op= .call {callee:=.builtin .append,args:=#[s,x],argTypes:=#[t,t]})
  (q:Nat) (e:TypeId) (i:TypeInfo) (z:Value) (ht:P.underlying t=some (.slice e)) (hi:P.info? e=some i) (hz:i.zero=some z) (H:i.size=4) (V:i.bytes=40) (N:z.cells.size=4)
  (g n L:Nat) (Y:List Tk) (hs:a.eval s= .slice (some ⟨g,0,none⟩) n L) (E:OwnT w q e g n L Y)
  (b:Tk) (Z:Nat) (O:Z=w.heap.size) (hx:a.eval x= .slice (some ⟨Z,0,none⟩) 1 1) (hn:n+1≤1000000) (I:q≤w.heap.size)
  (h: ∀M D J,OwnT J q e M (n+1) D (Y++[b])→Below q w J→wpList P K Q rest (a.put o.dst (.slice (some ⟨M,0,none⟩) (n+1) D)) J):
  wpList P K Q (o::rest) a (w.alloc (.cells #[.int .i64 b.kind,.string b.text,.int .i64 b.num,.int .i64 b.pos] e)):=by
 subst O
 refine wpList_append_own _ X s x t ho q e i z 4 40 ht hi hz H V N (by decide) _ n _ hs (E.1.alloc _) ⟨w.heap.size,0,none⟩ 1 1 (tkL b) hx rfl ?_ ?_ ?_ ?_ ?_ ?_
 ·intro j u A
  match j,A with
  |0,A=>simp[tkL] at A;subst A;simp[Addr.add]
  |1,A=>simp[tkL] at A;subst A;simp[Addr.add]
  |2,A=>simp[tkL] at A;subst A;simp[Addr.add]
  |3,A=>simp[tkL] at A;subst A;simp[Addr.add]
  |j+4,A=>simp[tkL] at A
 ·intro u hu
  simp[tkL] at hu
  rcases hu with rfl|rfl|rfl|rfl<;>rfl
 ·unfold maxLen;omega
 ·omega
 ·simp;omega
 ·intro v' J h1 h2 h3
  have hb:Below q w J:=((Below.refl q w).alloc I _).grown h2 (by simp;omega) (zgN E.1)
  rcases h1.2 with ⟨hv,_⟩|⟨M,D,aa,rfl,U⟩
  ·have:=(h3.1 hv).1
   simp at this
  ·refine h M D J ⟨?_,by rw[List.length_append];have:=E.2;simp;omega⟩ hb
   rw[List.flatMap_append]
   simpa using h1
end Go.Proofs.YticdggnnpjachaaGreat