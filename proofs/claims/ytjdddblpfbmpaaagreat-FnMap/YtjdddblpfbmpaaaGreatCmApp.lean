/-
 'b = append(b,x)' and 'b = append(b,x,y)' of bytes onto a row of the call's own: laws at the operation. No program is spoken of.
-/
import Derived.Test.YtjdddblpfbmpaaaGreatCmAidToTreeMath
import Derived.Deep.RegionLaw
namespace Go.Proofs.YtjdddblpfbmpaaaGreat
open Go.RowKit Go.PlainAid
theorem zgb {w:World} {j n:Nat} {e:TypeId} {size:Nat} {v:Value} {xs:List Value} (h:w.ownsRow j e size v n xs): ∀k,v.ownBlock=some k→j≤k:=by
 intro k q
 rcases h.2 with ⟨rfl,_⟩|⟨g,A,z,rfl,H,_⟩
 ·simp[Value.ownBlock] at q
 ·simp only[Value.ownBlock,Option.some.injEq] at q
  omega
theorem zhr {P:Program} (w:World) {ops:Array Oper} {rest:List Oper} {o:Oper} {a:Act} {Q:Exit→Act→World→Prop} (L:o.guard=none) (s x:Operand) (t:TypeId)
  (O:o.op= .call {callee:=.builtin .append,args:=#[s,x],argTypes:=#[t,t]})
  (q:Nat) (e:TypeId) (i:TypeInfo) (X:P.underlying t=some (.slice e)) (Z:P.info? e=some i) (hz:i.zero=some (.int .u8 0)) (H:i.size=1) (M:i.bytes=1)
  (v:Value) (n:Nat) (xs:List Int) (Y:a.eval s=v) (z:zbz w q e v n xs)
  (b:Int) (hx:a.eval x= .slice (some ⟨w.heap.size,0,none⟩) 1 1) (hn:n+1≤140737488355328) (A:q≤w.heap.size)
  (h: ∀J w',zbz w' q e J (n+1) (xs++[b])→Below q w w'→wpList P ops Q rest (a.put o.dst J) w'):
  wpList P ops Q (o::rest) a (w.alloc (.cells #[.int .u8 b] e)):=by
 refine wpList_append_own _ L s x t O q e i (.int .u8 0) 1 1 X Z hz H M rfl (by decide) v n _ Y (World.ownsRow.alloc z _) ⟨w.heap.size,0,none⟩ 1 1 [.int .u8 b] hx rfl ?_ ?_ ?_ ?_ ?_ ?_
 ·intro j u I
  match j,I with
  |0,I=>
   simp at I
   subst I
   simp[Addr.add]
 ·intro u N
  simp at N
  subst N
  rfl
 ·unfold maxLen;omega
 ·omega
 ·simp;omega
 ·intro J w' V U _
  refine h J w' ?_ ?_
  ·unfold zbz;rw[List.map_append];exact V
  ·exact ((Below.refl q w).alloc A _).grown U (by simp;omega) (zgb z)
end Go.Proofs.YtjdddblpfbmpaaaGreat