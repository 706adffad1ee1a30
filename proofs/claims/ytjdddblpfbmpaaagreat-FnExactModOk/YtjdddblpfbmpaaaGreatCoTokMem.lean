/-
 A row of tokens in memory,and appending one. No program is spoken of.
-/
import Derived.Test.YtjdddblpfbmpaaaGreatCoApp
namespace Go.Proofs.YtjdddblpfbmpaaaGreat
open Go.RowKit Go.PlainAid
def tkL (t:Tk):List Value:=[.int .i64 t.kind,.string t.text,.int .i64 t.num,.int .i64 t.pos]
def OwnT (w:World) (base:Nat) (e:TypeId) (g n cap:Nat) (ts:List Tk):Prop:=w.ownsRow base e 4 (.slice (some ⟨g,0,none⟩) n cap) n (ts.flatMap tkL)∧n=ts.length
theorem zaj {w:World} {j g n q:Nat} {e:TypeId} {E:List Tk} (h:OwnT w j e g n q E):g<w.heap.size∧j≤g∧n≤q:=by
 rcases h.1.2 with ⟨z,_⟩|⟨K,A,D,z,H,I,J,_⟩
 ·simp at z
 ·simp only[Value.slice.injEq,Option.some.injEq,Addr.mk.injEq,and_true,true_and] at z
  obtain⟨rfl,rfl⟩:=z
  exact⟨(Array.getElem?_eq_some_iff.1 I).1,H,J⟩
theorem zbK {w W:World} {j g n z:Nat} {e:TypeId} {E:List Tk} (h:OwnT w j e g n z E) (K:Below w.heap.size w W):OwnT W j e g n z E:=by
 have D:=(zaj h).1
 refine⟨⟨h.1.1,?_⟩,h.2⟩
 rcases h.1.2 with k|⟨M,I,A,H,q,L,J⟩
 ·exact .inl k
 ·simp only[Value.slice.injEq,Option.some.injEq,Addr.mk.injEq,and_true,true_and] at H
  obtain⟨rfl,rfl⟩:=H
  exact .inr ⟨g,z,A,rfl,q,(K.block g D).trans L,J⟩
theorem zfD (w:World) (e:TypeId) (h:Nat) (j:h≤w.heap.size):OwnT (w.alloc (.cells #[] e)) h e w.heap.size 0 0 []:=
 ⟨World.ownsRow_lit w #[] 0 j (by unfold maxLen;omega) rfl,rfl⟩
theorem zjX {P:Program} (w:World) {L:Array Oper} {rest:List Oper} {o:Oper} {a:Act} {Q:Exit→Act→World→Prop} (N:o.guard=none) (s x:Operand) (t:TypeId)
  (ho:o.op= .call {callee:=.builtin .append,args:=#[s,x],argTypes:=#[t,t]})
  (q:Nat) (e:TypeId) (i:TypeInfo) (z:Value) (ht:P.underlying t=some (.slice e)) (hi:P.info? e=some i) (hz:i.zero=some z) (H:i.size=4) (O:i.bytes=40) (U:z.cells.size=4)
  (g n K:Nat) (ts:List Tk) (hs:a.eval s= .slice (some ⟨g,0,none⟩) n K) (E:OwnT w q e g n K ts)
  (b:Tk) (gx:Nat) (X:gx=w.heap.size) (hx:a.eval x= .slice (some ⟨gx,0,none⟩) 1 1) (hn:n+1≤1000000) (I:q≤w.heap.size)
  (h: ∀M D J,OwnT J q e M (n+1) D (ts++[b])→Below q w J→wpList P L Q rest (a.put o.dst (.slice (some ⟨M,0,none⟩) (n+1) D)) J):
  wpList P L Q (o::rest) a (w.alloc (.cells #[.int .i64 b.kind,.string b.text,.int .i64 b.num,.int .i64 b.pos] e)):=by
 subst X
 refine wpList_append_own _ N s x t ho q e i z 4 40 ht hi hz H O U (by decide) _ n _ hs (E.1.alloc _) ⟨w.heap.size,0,none⟩ 1 1 (tkL b) hx rfl ?_ ?_ ?_ ?_ ?_ ?_
 ·intro j u A
  match j,A with
  |0,A=>simp[tkL] at A;subst A;simp[Addr.add]
  |1,A=>simp[tkL] at A;subst A;simp[Addr.add]
  |2,A=>simp[tkL] at A;subst A;simp[Addr.add]
  |3,A=>simp[tkL] at A;subst A;simp[Addr.add]
  |j+4,A=>simp[tkL] at A
 ·intro u Z
  simp[tkL] at Z
  rcases Z with rfl|rfl|rfl|rfl<;>rfl
 ·unfold maxLen;omega
 ·omega
 ·simp;omega
 ·intro v' J Y h2 h3
  have hb:Below q w J:=((Below.refl q w).alloc I _).grown h2 (by simp;omega) (zgK E.1)
  rcases Y.2 with ⟨hv,_⟩|⟨M,D,aa,rfl,V⟩
  ·have:=(h3.1 hv).1
   simp at this
  ·refine h M D J ⟨?_,by rw[List.length_append];have:=E.2;simp;omega⟩ hb
   rw[List.flatMap_append]
   simpa using Y
end Go.Proofs.YtjdddblpfbmpaaaGreat