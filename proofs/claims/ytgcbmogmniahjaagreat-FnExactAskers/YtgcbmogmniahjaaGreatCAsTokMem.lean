/-
 A row of tokens in memory,and appending one. No program is spoken of.
-/
import Derived.Test.YtgcbmogmniahjaaGreatCAsApp
namespace Go.Proofs.YtgcbmogmniahjaaGreat
open Go.RowKit Go.PlainAid
def tkL (t:Tk):List Value:=[.int .i64 t.kind,.string t.text,.int .i64 t.num,.int .i64 t.pos]
def OwnT (w:World) (base:Nat) (e:TypeId) (g n cap:Nat) (ts:List Tk):Prop:=w.ownsRow base e 4 (.slice (some ⟨g,0,none⟩) n cap) n (ts.flatMap tkL)∧n=ts.length
theorem zaw {w:World} {base g n q:Nat} {e:TypeId} {E:List Tk} (h:OwnT w base e g n q E):g<w.heap.size∧base≤g∧n≤q:=by
 rcases h.1.2 with ⟨z,_⟩|⟨K,A,D,z,H,I,J,_⟩
 ·simp at z
 ·simp only[Value.slice.injEq,Option.some.injEq,Addr.mk.injEq,and_true,true_and] at z
  obtain⟨rfl,rfl⟩:=z
  exact⟨(Array.getElem?_eq_some_iff.1 I).1,H,J⟩
theorem zc3 {w W:World} {base g n z:Nat} {e:TypeId} {E:List Tk} (h:OwnT w base e g n z E) (K:Below w.heap.size w W):OwnT W base e g n z E:=by
 have D:=(zaw h).1
 refine⟨⟨h.1.1,?_⟩,h.2⟩
 rcases h.1.2 with k|⟨M,I,A,H,q,L,J⟩
 ·exact .inl k
 ·simp only[Value.slice.injEq,Option.some.injEq,Addr.mk.injEq,and_true,true_and] at H
  obtain⟨rfl,rfl⟩:=H
  exact .inr ⟨g,z,A,rfl,q,(K.block g D).trans L,J⟩
theorem zh9 (w:World) (e:TypeId) (base:Nat) (h:base≤w.heap.size):OwnT (w.alloc (.cells #[] e)) base e w.heap.size 0 0 []:=
 ⟨World.ownsRow_lit w #[] 0 h (by unfold maxLen;omega) rfl,rfl⟩
theorem znY {P:Program} (w:World) {K:Array Oper} {rest:List Oper} {o:Oper} {a:Act} {Q:Exit→Act→World→Prop} (M:o.guard=none) (s x:Operand) (t:TypeId)
  (ho:o.op= .call {callee:=.builtin .append,args:=#[s,x],argTypes:=#[t,t]})
  (base:Nat) (e:TypeId) (i:TypeInfo) (z:Value) (ht:P.underlying t=some (.slice e)) (hi:P.info? e=some i) (hz:i.zero=some z) (E:i.size=4) (N:i.bytes=40) (O:z.cells.size=4)
  (g n J:Nat) (ts:List Tk) (hs:a.eval s= .slice (some ⟨g,0,none⟩) n J) (D:OwnT w base e g n J ts)
  (b:Tk) (Z:Nat) (V:Z=w.heap.size) (hx:a.eval x= .slice (some ⟨Z,0,none⟩) 1 1) (hn:n+1≤1000000) (H:base≤w.heap.size)
  (h: ∀L A I,OwnT I base e L (n+1) A (ts++[b])→Below base w I→wpList P K Q rest (a.put o.dst (.slice (some ⟨L,0,none⟩) (n+1) A)) I):
  wpList P K Q (o::rest) a (w.alloc (.cells #[.int .i64 b.kind,.string b.text,.int .i64 b.num,.int .i64 b.pos] e)):=by
 subst V
 refine wpList_append_own _ M s x t ho base e i z 4 40 ht hi hz E N O (by decide) _ n _ hs (D.1.alloc _) ⟨w.heap.size,0,none⟩ 1 1 (tkL b) hx rfl ?_ ?_ ?_ ?_ ?_ ?_
 ·intro j u q
  match j,q with
  |0,q=>simp[tkL] at q;subst q;simp[Addr.add]
  |1,q=>simp[tkL] at q;subst q;simp[Addr.add]
  |2,q=>simp[tkL] at q;subst q;simp[Addr.add]
  |3,q=>simp[tkL] at q;subst q;simp[Addr.add]
  |j+4,q=>simp[tkL] at q
 ·intro u Y
  simp[tkL] at Y
  rcases Y with rfl|rfl|rfl|rfl<;>rfl
 ·unfold maxLen;omega
 ·omega
 ·simp;omega
 ·intro v' I X h2 h3
  have hb:Below base w I:=((Below.refl base w).alloc H _).grown h2 (by simp;omega) (zh8 D.1)
  rcases X.2 with ⟨hv,_⟩|⟨L,A,aa,rfl,U⟩
  ·have:=(h3.1 hv).1
   simp at this
  ·refine h L A I ⟨?_,by rw[List.length_append];have:=D.2;simp;omega⟩ hb
   rw[List.flatMap_append]
   simpa using X
end Go.Proofs.YtgcbmogmniahjaaGreat