/-
 'b = append(b,x)' and 'b = append(b,x,y)' of bytes onto a row of the call's own: laws at the operation. No program is spoken of.
-/
import Derived.Test.YticdggnnpjachaaGreatCbStrToVarMath
import Derived.Deep.RegionLaw
namespace Go.Proofs.YticdggnnpjachaaGreat
open Go.RowKit Go.PlainAid
theorem zfj {w:World} {j n:Nat} {e:TypeId} {size:Nat} {v:Value} {xs:List Value} (h:w.ownsRow j e size v n xs): ∀k,v.ownBlock=some k→j≤k:=by
 intro k o
 rcases h.2 with ⟨rfl,_⟩|⟨g,z,q,rfl,A,_⟩
 ·simp[Value.ownBlock] at o
 ·simp only[Value.ownBlock,Option.some.injEq] at o
  omega
theorem zga {P:Program} (w:World) {H:Array Oper} {rest:List Oper} {o:Oper} {a:Act} {Q:Exit→Act→World→Prop} (K:o.guard=none) (s x:Operand) (t:TypeId)
  (Y:o.op= .call {callee:=.builtin .append,args:=#[s,x],argTypes:=#[t,t]})
  (q:Nat) (e:TypeId) (i:TypeInfo) (V:P.underlying t=some (.slice e)) (N:P.info? e=some i) (O:i.zero=some (.int .u8 0)) (A:i.size=1) (L:i.bytes=1)
  (v:Value) (n:Nat) (xs:List Int) (Z:a.eval s=v) (z:zbj w q e v n xs)
  (b:Int) (X:a.eval x= .slice (some ⟨w.heap.size,0,none⟩) 1 1) (hn:n+1≤140737488355328) (D:q≤w.heap.size)
  (h: ∀J E,zbj E q e J (n+1) (xs++[b])→Below q w E→wpList P H Q rest (a.put o.dst J) E):
  wpList P H Q (o::rest) a (w.alloc (.cells #[.int .u8 b] e)):=by
 refine wpList_append_own _ K s x t Y q e i (.int .u8 0) 1 1 V N O A L rfl (by decide) v n _ Z (World.ownsRow.alloc z _) ⟨w.heap.size,0,none⟩ 1 1 [.int .u8 b] X rfl ?_ ?_ ?_ ?_ ?_ ?_
 ·intro j u I
  match j,I with
  |0,I=>
   simp at I
   subst I
   simp[Addr.add]
 ·intro u M
  simp at M
  subst M
  rfl
 ·unfold maxLen;omega
 ·omega
 ·simp;omega
 ·intro J E U h2 _
  refine h J E ?_ ?_
  ·unfold zbj;rw[List.map_append];exact U
  ·exact ((Below.refl q w).alloc D _).grown h2 (by simp;omega) (zfj z)
end Go.Proofs.YticdggnnpjachaaGreat