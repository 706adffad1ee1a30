/-
 A row of tokens in memory,and appending one. No program is spoken of.
-/
import Derived.Test.YtgcbmogmniahjaaGreatCAcApp
namespace Go.Proofs.YtgcbmogmniahjaaGreat
open Go.RowKit Go.PlainAid
def tkL (t:Tk):List Value:=[.int .i64 t.kind,.string t.text,.int .i64 t.num,.int .i64 t.pos]
def OwnT (w:World) (base:Nat) (e:TypeId) (g n cap:Nat) (ts:List Tk):Prop:=w.ownsRow base e 4 (.slice (some ⟨g,0,none⟩) n cap) n (ts.flatMap tkL)∧n=ts.length
theorem zau {w:World} {base g n q:Nat} {e:TypeId} {I:List Tk} (h:OwnT w base e g n q I):g<w.heap.size∧base≤g∧n≤q:=by
 rcases h.1.2 with ⟨z,_⟩|⟨M,A,H,z,J,K,L,_⟩
 ·simp at z
 ·simp only[Value.slice.injEq,Option.some.injEq,Addr.mk.injEq,and_true,true_and] at z
  obtain⟨rfl,rfl⟩:=z
  exact⟨(Array.getElem?_eq_some_iff.1 K).1,J,L⟩
theorem zc1 {w W:World} {base g n z:Nat} {e:TypeId} {I:List Tk} (h:OwnT w base e g n z I) (M:Below w.heap.size w W):OwnT W base e g n z I:=by
 have H:=(zau h).1
 refine⟨⟨h.1.1,?_⟩,h.2⟩
 rcases h.1.2 with k|⟨O,K,A,J,q,N,L⟩
 ·exact .inl k
 ·simp only[Value.slice.injEq,Option.some.injEq,Addr.mk.injEq,and_true,true_and] at J
  obtain⟨rfl,rfl⟩:=J
  exact .inr ⟨g,z,A,rfl,q,(M.block g H).trans N,L⟩
theorem zhz (w:World) (e:TypeId) (base:Nat) (h:base≤w.heap.size):OwnT (w.alloc (.cells #[] e)) base e w.heap.size 0 0 []:=
 ⟨World.ownsRow_lit w #[] 0 h (by unfold maxLen;omega) rfl,rfl⟩
theorem znC {P:Program} (w:World) {L:Array Oper} {rest:List Oper} {o:Oper} {a:Act} {Q:Exit→Act→World→Prop} (N:o.guard=none) (s x:Operand) (t:TypeId)
  (ho:o.op= .call {callee:=.builtin .append,args:=#[s,x],argTypes:=#[t,t]})
  (base:Nat) (e:TypeId) (i:TypeInfo) (z:Value) (ht:P.underlying t=some (.slice e)) (hi:P.info? e=some i) (hz:i.zero=some z) (I:i.size=4) (O:i.bytes=40) (U:z.cells.size=4)
  (g n K:Nat) (ts:List Tk) (hs:a.eval s= .slice (some ⟨g,0,none⟩) n K) (H:OwnT w base e g n K ts)
  (b:Tk) (gx:Nat) (X:gx=w.heap.size) (hx:a.eval x= .slice (some ⟨gx,0,none⟩) 1 1) (hn:n+1≤1000000) (J:base≤w.heap.size)
  (h: ∀M A w',OwnT w' base e M (n+1) A (ts++[b])→Below base w w'→wpList P L Q rest (a.put o.dst (.slice (some ⟨M,0,none⟩) (n+1) A)) w'):
  wpList P L Q (o::rest) a (w.alloc (.cells #[.int .i64 b.kind,.string b.text,.int .i64 b.num,.int .i64 b.pos] e)):=by
 subst X
 refine wpList_append_own _ N s x t ho base e i z 4 40 ht hi hz I O U (by decide) _ n _ hs (H.1.alloc _) ⟨w.heap.size,0,none⟩ 1 1 (tkL b) hx rfl ?_ ?_ ?_ ?_ ?_ ?_
 ·intro j u q
  match j,q with
  |0,q=>simp[tkL] at q;subst q;simp[Addr.add]
  |1,q=>simp[tkL] at q;subst q;simp[Addr.add]
  |2,q=>simp[tkL] at q;subst q;simp[Addr.add]
  |3,q=>simp[tkL] at q;subst q;simp[Addr.add]
  |j+4,q=>simp[tkL] at q
 ·intro u Z
  simp[tkL] at Z
  rcases Z with rfl|rfl|rfl|rfl<;>rfl
 ·unfold maxLen;omega
 ·omega
 ·simp;omega
 ·intro v' w' Y h2 h3
  have hb:Below base w w':=((Below.refl base w).alloc J _).grown h2 (by simp;omega) (zhy H.1)
  rcases Y.2 with ⟨hv,_⟩|⟨M,A,aa,rfl,V⟩
  ·have:=(h3.1 hv).1
   simp at this
  ·refine h M A w' ⟨?_,by rw[List.length_append];have:=H.2;simp;omega⟩ hb
   rw[List.flatMap_append]
   simpa using Y
end Go.Proofs.YtgcbmogmniahjaaGreat