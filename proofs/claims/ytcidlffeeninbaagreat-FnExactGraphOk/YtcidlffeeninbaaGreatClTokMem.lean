/-
 A row of tokens in memory,and appending one. No program is spoken of.
-/
import Derived.Test.YtcidlffeeninbaaGreatClApp
namespace Go.Proofs.YtcidlffeeninbaaGreat
open Go.RowKit Go.PlainAid
def tkL (t:Tk):List Value:=[.int .i64 t.kind,.string t.text,.int .i64 t.num,.int .i64 t.pos]
def OwnT (w:World) (base:Nat) (e:TypeId) (g n cap:Nat) (ts:List Tk):Prop:=w.ownsRow base e 4 (.slice (some ⟨g,0,none⟩) n cap) n (ts.flatMap tkL)∧n=ts.length
theorem zau {w:World} {q g n z:Nat} {e:TypeId} {E:List Tk} (h:OwnT w q e g n z E):g<w.heap.size∧q≤g∧n≤z:=by
 rcases h.1.2 with ⟨A,_⟩|⟨L,D,J,A,I,H,K,_⟩
 ·simp at A
 ·simp only[Value.slice.injEq,Option.some.injEq,Addr.mk.injEq,and_true,true_and] at A
  obtain⟨rfl,rfl⟩:=A
  exact⟨(Array.getElem?_eq_some_iff.1 H).1,I,K⟩
theorem zcx {w W:World} {q g n A:Nat} {e:TypeId} {H:List Tk} (h:OwnT w q e g n A H) (L:Below w.heap.size w W):OwnT W q e g n A H:=by
 have E:=(zau h).1
 refine⟨⟨h.1.1,?_⟩,h.2⟩
 rcases h.1.2 with k|⟨N,I,D,J,z,K,M⟩
 ·exact .inl k
 ·simp only[Value.slice.injEq,Option.some.injEq,Addr.mk.injEq,and_true,true_and] at J
  obtain⟨rfl,rfl⟩:=J
  exact .inr ⟨g,A,D,rfl,z,(L.block g E).trans K,M⟩
theorem zhd (w:World) (e:TypeId) (h:Nat) (q:h≤w.heap.size):OwnT (w.alloc (.cells #[] e)) h e w.heap.size 0 0 []:=
 ⟨World.ownsRow_lit w #[] 0 q (by unfold maxLen;omega) rfl,rfl⟩
theorem zmQ {P:Program} (w:World) {K:Array Oper} {rest:List Oper} {o:Oper} {a:Act} {Q:Exit→Act→World→Prop} (U:o.guard=none) (s x:Operand) (t:TypeId)
  (ho:o.op= .call {callee:=.builtin .append,args:=#[s,x],argTypes:=#[t,t]})
  (q:Nat) (e:TypeId) (i:TypeInfo) (z:Value) (ht:P.underlying t=some (.slice e)) (hi:P.info? e=some i) (hz:i.zero=some z) (I:i.size=4) (O:i.bytes=40) (X:z.cells.size=4)
  (g n L:Nat) (ts:List Tk) (hs:a.eval s= .slice (some ⟨g,0,none⟩) n L) (E:OwnT w q e g n L ts)
  (b:Tk) (Z:Nat) (V:Z=w.heap.size) (hx:a.eval x= .slice (some ⟨Z,0,none⟩) 1 1) (hn:n+1≤1000000) (H:q≤w.heap.size)
  (h: ∀M D J,OwnT J q e M (n+1) D (ts++[b])→Below q w J→wpList P K Q rest (a.put o.dst (.slice (some ⟨M,0,none⟩) (n+1) D)) J):
  wpList P K Q (o::rest) a (w.alloc (.cells #[.int .i64 b.kind,.string b.text,.int .i64 b.num,.int .i64 b.pos] e)):=by
 subst V
 refine wpList_append_own _ U s x t ho q e i z 4 40 ht hi hz I O X (by decide) _ n _ hs (E.1.alloc _) ⟨w.heap.size,0,none⟩ 1 1 (tkL b) hx rfl ?_ ?_ ?_ ?_ ?_ ?_
 ·intro j u A
  match j,A with
  |0,A=>simp[tkL] at A;subst A;simp[Addr.add]
  |1,A=>simp[tkL] at A;subst A;simp[Addr.add]
  |2,A=>simp[tkL] at A;subst A;simp[Addr.add]
  |3,A=>simp[tkL] at A;subst A;simp[Addr.add]
  |j+4,A=>simp[tkL] at A
 ·intro u hu
  simp[tkL] at hu
  rcases hu with rfl|rfl|rfl|rfl<;>rfl
 ·unfold maxLen;omega
 ·omega
 ·simp;omega
 ·intro v' J Y h2 h3
  have hb:Below q w J:=((Below.refl q w).alloc H _).grown h2 (by simp;omega) (zhc E.1)
  rcases Y.2 with ⟨hv,_⟩|⟨M,D,aa,rfl,N⟩
  ·have:=(h3.1 hv).1
   simp at this
  ·refine h M D J ⟨?_,by rw[List.length_append];have:=E.2;simp;omega⟩ hb
   rw[List.flatMap_append]
   simpa using Y
end Go.Proofs.YtcidlffeeninbaaGreat