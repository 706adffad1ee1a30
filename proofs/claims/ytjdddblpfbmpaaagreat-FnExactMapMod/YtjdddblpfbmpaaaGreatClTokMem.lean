/-
 A row of tokens in memory,and appending one. No program is spoken of.
-/
import Derived.Test.YtjdddblpfbmpaaaGreatClApp
namespace Go.Proofs.YtjdddblpfbmpaaaGreat
open Go.RowKit Go.PlainAid
def tkL (t:Tk):List Value:=[.int .i64 t.kind,.string t.text,.int .i64 t.num,.int .i64 t.pos]
def OwnT (w:World) (base:Nat) (e:TypeId) (g n cap:Nat) (ts:List Tk):Prop:=w.ownsRow base e 4 (.slice (some ⟨g,0,none⟩) n cap) n (ts.flatMap tkL)∧n=ts.length
theorem zau {w:World} {j g n z:Nat} {e:TypeId} {J:List Tk} (h:OwnT w j e g n z J):g<w.heap.size∧j≤g∧n≤z:=by
 rcases h.1.2 with ⟨A,_⟩|⟨O,H,I,A,L,M,N,_⟩
 ·simp at A
 ·simp only[Value.slice.injEq,Option.some.injEq,Addr.mk.injEq,and_true,true_and] at A
  obtain⟨rfl,rfl⟩:=A
  exact⟨(Array.getElem?_eq_some_iff.1 M).1,L,N⟩
theorem zcu {w W:World} {j g n A:Nat} {e:TypeId} {J:List Tk} (h:OwnT w j e g n A J) (O:Below w.heap.size w W):OwnT W j e g n A J:=by
 have I:=(zau h).1
 refine⟨⟨h.1.1,?_⟩,h.2⟩
 rcases h.1.2 with k|⟨V,M,H,L,z,U,N⟩
 ·exact .inl k
 ·simp only[Value.slice.injEq,Option.some.injEq,Addr.mk.injEq,and_true,true_and] at L
  obtain⟨rfl,rfl⟩:=L
  exact .inr ⟨g,A,H,rfl,z,(O.block g I).trans U,N⟩
theorem zgX (w:World) (e:TypeId) (h:Nat) (j:h≤w.heap.size):OwnT (w.alloc (.cells #[] e)) h e w.heap.size 0 0 []:=
 ⟨World.ownsRow_lit w #[] 0 j (by unfold maxLen;omega) rfl,rfl⟩
theorem zmk {P:Program} (w:World) {ops:Array Oper} {rest:List Oper} {o:Oper} {a:Act} {Q:Exit→Act→World→Prop} (U:o.guard=none) (s x:Operand) (t:TypeId)
  (ho:o.op= .call {callee:=.builtin .append,args:=#[s,x],argTypes:=#[t,t]})
  (A:Nat) (e:TypeId) (i:TypeInfo) (z:Value) (ht:P.underlying t=some (.slice e)) (hi:P.info? e=some i) (hz:i.zero=some z) (L:i.size=4) (V:i.bytes=40) (X:z.cells.size=4)
  (g n N:Nat) (ts:List Tk) (hs:a.eval s= .slice (some ⟨g,0,none⟩) n N) (J:OwnT w A e g n N ts)
  (b:Tk) (gx:Nat) (Z:gx=w.heap.size) (hx:a.eval x= .slice (some ⟨gx,0,none⟩) 1 1) (hn:n+1≤1000000) (M:A≤w.heap.size)
  (h: ∀O I w',OwnT w' A e O (n+1) I (ts++[b])→Below A w w'→wpList P ops Q rest (a.put o.dst (.slice (some ⟨O,0,none⟩) (n+1) I)) w'):
  wpList P ops Q (o::rest) a (w.alloc (.cells #[.int .i64 b.kind,.string b.text,.int .i64 b.num,.int .i64 b.pos] e)):=by
 subst Z
 refine wpList_append_own _ U s x t ho A e i z 4 40 ht hi hz L V X (by decide) _ n _ hs (J.1.alloc _) ⟨w.heap.size,0,none⟩ 1 1 (tkL b) hx rfl ?_ ?_ ?_ ?_ ?_ ?_
 ·intro j u H
  match j,H with
  |0,H=>simp[tkL] at H;subst H;simp[Addr.add]
  |1,H=>simp[tkL] at H;subst H;simp[Addr.add]
  |2,H=>simp[tkL] at H;subst H;simp[Addr.add]
  |3,H=>simp[tkL] at H;subst H;simp[Addr.add]
  |j+4,H=>simp[tkL] at H
 ·intro u hu
  simp[tkL] at hu
  rcases hu with rfl|rfl|rfl|rfl<;>rfl
 ·unfold maxLen;omega
 ·omega
 ·simp;omega
 ·intro v' w' h1 h2 h3
  have hb:Below A w w':=((Below.refl A w).alloc M _).grown h2 (by simp;omega) (ziy J.1)
  rcases h1.2 with ⟨hv,_⟩|⟨O,I,aa,rfl,Y⟩
  ·have:=(h3.1 hv).1
   simp at this
  ·refine h O I w' ⟨?_,by rw[List.length_append];have:=J.2;simp;omega⟩ hb
   rw[List.flatMap_append]
   simpa using h1
end Go.Proofs.YtjdddblpfbmpaaaGreat