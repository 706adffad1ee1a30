/-
 A row of tokens in memory,and appending one. No program is spoken of.
-/
import Derived.Test.YtjdddblpfbmpaaaGreatCmApp
namespace Go.Proofs.YtjdddblpfbmpaaaGreat
open Go.RowKit Go.PlainAid
def tkL (t:Tk):List Value:=[.int .i64 t.kind,.string t.text,.int .i64 t.num,.int .i64 t.pos]
def OwnT (w:World) (base:Nat) (e:TypeId) (g n cap:Nat) (ts:List Tk):Prop:=w.ownsRow base e 4 (.slice (some ⟨g,0,none⟩) n cap) n (ts.flatMap tkL)∧n=ts.length
theorem zav {w:World} {j g n q:Nat} {e:TypeId} {I:List Tk} (h:OwnT w j e g n q I):g<w.heap.size∧j≤g∧n≤q:=by
 rcases h.1.2 with ⟨z,_⟩|⟨N,A,H,z,J,L,M,_⟩
 ·simp at z
 ·simp only[Value.slice.injEq,Option.some.injEq,Addr.mk.injEq,and_true,true_and] at z
  obtain⟨rfl,rfl⟩:=z
  exact⟨(Array.getElem?_eq_some_iff.1 L).1,J,M⟩
theorem zcv {w W:World} {j g n z:Nat} {e:TypeId} {I:List Tk} (h:OwnT w j e g n z I) (N:Below w.heap.size w W):OwnT W j e g n z I:=by
 have H:=(zav h).1
 refine⟨⟨h.1.1,?_⟩,h.2⟩
 rcases h.1.2 with k|⟨U,L,A,J,q,O,M⟩
 ·exact .inl k
 ·simp only[Value.slice.injEq,Option.some.injEq,Addr.mk.injEq,and_true,true_and] at J
  obtain⟨rfl,rfl⟩:=J
  exact .inr ⟨g,z,A,rfl,q,(N.block g H).trans O,M⟩
theorem zhs (w:World) (e:TypeId) (j:Nat) (q:j≤w.heap.size):OwnT (w.alloc (.cells #[] e)) j e w.heap.size 0 0 []:=
 ⟨World.ownsRow_lit w #[] 0 q (by unfold maxLen;omega) rfl,rfl⟩
theorem zmH {P:Program} (w:World) {ops:Array Oper} {rest:List Oper} {o:Oper} {a:Act} {Q:Exit→Act→World→Prop} (O:o.guard=none) (s x:Operand) (t:TypeId)
  (ho:o.op= .call {callee:=.builtin .append,args:=#[s,x],argTypes:=#[t,t]})
  (q:Nat) (e:TypeId) (i:TypeInfo) (z:Value) (ht:P.underlying t=some (.slice e)) (hi:P.info? e=some i) (hz:i.zero=some z) (J:i.size=4) (U:i.bytes=40) (V:z.cells.size=4)
  (g n M:Nat) (ts:List Tk) (hs:a.eval s= .slice (some ⟨g,0,none⟩) n M) (I:OwnT w q e g n M ts)
  (b:Tk) (gx:Nat) (Y:gx=w.heap.size) (hx:a.eval x= .slice (some ⟨gx,0,none⟩) 1 1) (hn:n+1≤1000000) (L:q≤w.heap.size)
  (h: ∀N H w',OwnT w' q e N (n+1) H (ts++[b])→Below q w w'→wpList P ops Q rest (a.put o.dst (.slice (some ⟨N,0,none⟩) (n+1) H)) w'):
  wpList P ops Q (o::rest) a (w.alloc (.cells #[.int .i64 b.kind,.string b.text,.int .i64 b.num,.int .i64 b.pos] e)):=by
 subst Y
 refine wpList_append_own _ O s x t ho q e i z 4 40 ht hi hz J U V (by decide) _ n _ hs (I.1.alloc _) ⟨w.heap.size,0,none⟩ 1 1 (tkL b) hx rfl ?_ ?_ ?_ ?_ ?_ ?_
 ·intro j u A
  match j,A with
  |0,A=>simp[tkL] at A;subst A;simp[Addr.add]
  |1,A=>simp[tkL] at A;subst A;simp[Addr.add]
  |2,A=>simp[tkL] at A;subst A;simp[Addr.add]
  |3,A=>simp[tkL] at A;subst A;simp[Addr.add]
  |j+4,A=>simp[tkL] at A
 ·intro u hu
  simp[tkL] at hu
  rcases hu with rfl|rfl|rfl|rfl<;>rfl
 ·unfold maxLen;omega
 ·omega
 ·simp;omega
 ·intro v' w' Z h2 h3
  have hb:Below q w w':=((Below.refl q w).alloc L _).grown h2 (by simp;omega) (zgb I.1)
  rcases Z.2 with ⟨hv,_⟩|⟨N,H,aa,rfl,X⟩
  ·have:=(h3.1 hv).1
   simp at this
  ·refine h N H w' ⟨?_,by rw[List.length_append];have:=I.2;simp;omega⟩ hb
   rw[List.flatMap_append]
   simpa using Z
end Go.Proofs.YtjdddblpfbmpaaaGreat