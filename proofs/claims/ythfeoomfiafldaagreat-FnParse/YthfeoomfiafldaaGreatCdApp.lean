/-
 'b = append(b,x)' and 'b = append(b,x,y)' of bytes onto a row of the call's own: laws at the operation. No program is spoken of.
-/
import Derived.Test.YthfeoomfiafldaaGreatCdStrToVarMath
import Derived.Deep.RegionLaw
namespace Go.Proofs.YthfeoomfiafldaaGreat
open Go.RowKit Go.PlainAid
theorem zgp {w:World} {j n:Nat} {e:TypeId} {size:Nat} {v:Value} {xs:List Value} (h:w.ownsRow j e size v n xs): ∀k,v.ownBlock=some k→j≤k:=by
 intro k o
 rcases h.2 with ⟨rfl,_⟩|⟨g,D,z,rfl,E,_⟩
 ·simp[Value.ownBlock] at o
 ·simp only[Value.ownBlock,Option.some.injEq] at o
  omega
theorem zh1 {P:Program} (w:World) {I:Array Oper} {rest:List Oper} {o:Oper} {a:Act} {Q:Exit→Act→World→Prop} (M:o.guard=none) (s x:Operand) (t:TypeId)
  (Y:o.op= .call {callee:=.builtin .append,args:=#[s,x],argTypes:=#[t,t]})
  (z:Nat) (e:TypeId) (i:TypeInfo) (ht:P.underlying t=some (.slice e)) (hi:P.info? e=some i) (hz:i.zero=some (.int .u8 0)) (E:i.size=1) (N:i.bytes=1)
  (v:Value) (n:Nat) (xs:List Int) (Z:a.eval s=v) (D:zb6 w z e v n xs)
  (b:Int) (U:a.eval x= .slice (some ⟨w.heap.size,0,none⟩) 1 1) (hn:n+1≤140737488355328) (H:z≤w.heap.size)
  (h: ∀L J,zb6 J z e L (n+1) (xs++[b])→Below z w J→wpList P I Q rest (a.put o.dst L) J):
  wpList P I Q (o::rest) a (w.alloc (.cells #[.int .u8 b] e)):=by
 refine wpList_append_own _ M s x t Y z e i (.int .u8 0) 1 1 ht hi hz E N rfl (by decide) v n _ Z (World.ownsRow.alloc D _) ⟨w.heap.size,0,none⟩ 1 1 [.int .u8 b] U rfl ?_ ?_ ?_ ?_ ?_ ?_
 ·intro j u K
  match j,K with
  |0,K=>
   simp at K
   subst K
   simp[Addr.add]
 ·intro u O
  simp at O
  subst O
  rfl
 ·unfold maxLen;omega
 ·omega
 ·simp;omega
 ·intro L J X V _
  refine h L J ?_ ?_
  ·unfold zb6;rw[List.map_append];exact X
  ·exact ((Below.refl z w).alloc H _).grown V (by simp;omega) (zgp D)
end Go.Proofs.YthfeoomfiafldaaGreat