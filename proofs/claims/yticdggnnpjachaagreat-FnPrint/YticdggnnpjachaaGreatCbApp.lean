/-
 'b = append(b,x)' and 'b = append(b,x,y)' of bytes onto a row of the call's own: laws at the operation. No program is spoken of.
-/
import Derived.Test.YticdggnnpjachaaGreatCbStrToVarMath
import Derived.Deep.RegionLaw
namespace Go.Proofs.YticdggnnpjachaaGreat
open Go.RowKit Go.PlainAid
theorem zfj {w:World} {j n:Nat} {e:TypeId} {size:Nat} {v:Value} {xs:List Value} (h:w.ownsRow j e size v n xs): ∀k,v.ownBlock=some k→j≤k:=by
 intro k o
 rcases h.2 with ⟨rfl,_⟩|⟨g,z,q,rfl,A,_⟩
 ·simp[Value.ownBlock] at o
 ·simp only[Value.ownBlock,Option.some.injEq] at o
  omega
theorem zga {P:Program} (w:World) {E:Array Oper} {rest:List Oper} {o:Oper} {a:Act} {Q:Exit→Act→World→Prop} (L:o.guard=none) (s x:Operand) (t:TypeId)
  (N:o.op= .call {callee:=.builtin .append,args:=#[s,x],argTypes:=#[t,t]})
  (q:Nat) (e:TypeId) (i:TypeInfo) (Y:P.underlying t=some (.slice e)) (O:P.info? e=some i) (V:i.zero=some (.int .u8 0)) (A:i.size=1) (K:i.bytes=1)
  (v:Value) (n:Nat) (xs:List Int) (Z:a.eval s=v) (z:zbj w q e v n xs)
  (b:Int) (hx:a.eval x= .slice (some ⟨w.heap.size,0,none⟩) 1 1) (hn:n+1≤140737488355328) (D:q≤w.heap.size)
  (h: ∀I H,zbj H q e I (n+1) (xs++[b])→Below q w H→wpList P E Q rest (a.put o.dst I) H):
  wpList P E Q (o::rest) a (w.alloc (.cells #[.int .u8 b] e)):=by
 refine wpList_append_own _ L s x t N q e i (.int .u8 0) 1 1 Y O V A K rfl (by decide) v n _ Z (World.ownsRow.alloc z _) ⟨w.heap.size,0,none⟩ 1 1 [.int .u8 b] hx rfl ?_ ?_ ?_ ?_ ?_ ?_
 ·intro j u J
  match j,J with
  |0,J=>
   simp at J
   subst J
   simp[Addr.add]
 ·intro u M
  simp at M
  subst M
  rfl
 ·unfold maxLen;omega
 ·omega
 ·simp;omega
 ·intro I H X U _
  refine h I H ?_ ?_
  ·unfold zbj;rw[List.map_append];exact X
  ·exact ((Below.refl q w).alloc D _).grown U (by simp;omega) (zfj z)
end Go.Proofs.YticdggnnpjachaaGreat