/-
 'b = append(b,x)' and 'b = append(b,x,y)' of bytes onto a row of the call's own: laws at the operation. No program is spoken of.
-/
import Derived.Test.YthfeoomfiafldaaGreatCdStrToVarMath
import Derived.Deep.RegionLaw
namespace Go.Proofs.YthfeoomfiafldaaGreat
open Go.RowKit Go.PlainAid
theorem zgp {w:World} {j n:Nat} {e:TypeId} {size:Nat} {v:Value} {xs:List Value} (h:w.ownsRow j e size v n xs): ∀k,v.ownBlock=some k→j≤k:=by
 intro k o
 rcases h.2 with ⟨rfl,_⟩|⟨g,D,z,rfl,E,_⟩
 ·simp[Value.ownBlock] at o
 ·simp only[Value.ownBlock,Option.some.injEq] at o
  omega
theorem zh1 {P:Program} (w:World) {J:Array Oper} {rest:List Oper} {o:Oper} {a:Act} {Q:Exit→Act→World→Prop} (M:o.guard=none) (s x:Operand) (t:TypeId)
  (X:o.op= .call {callee:=.builtin .append,args:=#[s,x],argTypes:=#[t,t]})
  (z:Nat) (e:TypeId) (i:TypeInfo) (Z:P.underlying t=some (.slice e)) (V:P.info? e=some i) (hz:i.zero=some (.int .u8 0)) (H:i.size=1) (N:i.bytes=1)
  (v:Value) (n:Nat) (xs:List Int) (U:a.eval s=v) (D:zb6 w z e v n xs)
  (b:Int) (Y:a.eval x= .slice (some ⟨w.heap.size,0,none⟩) 1 1) (hn:n+1≤140737488355328) (E:z≤w.heap.size)
  (h: ∀K I,zb6 I z e K (n+1) (xs++[b])→Below z w I→wpList P J Q rest (a.put o.dst K) I):
  wpList P J Q (o::rest) a (w.alloc (.cells #[.int .u8 b] e)):=by
 refine wpList_append_own _ M s x t X z e i (.int .u8 0) 1 1 Z V hz H N rfl (by decide) v n _ U (World.ownsRow.alloc D _) ⟨w.heap.size,0,none⟩ 1 1 [.int .u8 b] Y rfl ?_ ?_ ?_ ?_ ?_ ?_
 ·intro j u L
  match j,L with
  |0,L=>
   simp at L
   subst L
   simp[Addr.add]
 ·intro u O
  simp at O
  subst O
  rfl
 ·unfold maxLen;omega
 ·omega
 ·simp;omega
 ·intro K I h1 h2 _
  refine h K I ?_ ?_
  ·unfold zb6;rw[List.map_append];exact h1
  ·exact ((Below.refl z w).alloc E _).grown h2 (by simp;omega) (zgp D)
end Go.Proofs.YthfeoomfiafldaaGreat