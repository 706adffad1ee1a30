/-
 'b = append(b,x)' and 'b = append(b,x,y)' of bytes onto a row of the call's own: laws at the operation. No program is spoken of.
-/
import Derived.Test.YtlnohpdiiileeaaGreatClStrToVarMath
import Derived.Deep.RegionLaw
namespace Go.Proofs.YtlnohpdiiileeaaGreat
open Go.RowKit Go.PlainAid
theorem zkn {w:World} {base n:Nat} {e:TypeId} {size:Nat} {v:Value} {xs:List Value} (h:w.ownsRow base e size v n xs): ∀k,v.ownBlock=some k→base≤k:=by
 intro k hk
 rcases h.2 with ⟨rfl,_⟩|⟨g,cap,cur,rfl,hb,_⟩
 ·simp[Value.ownBlock] at hk
 ·simp only[Value.ownBlock,Option.some.injEq] at hk
  omega
theorem zty {P:Program} (w:World) {ops:Array Oper} {rest:List Oper} {o:Oper} {a:Act} {Q:Exit→Act→World→Prop} (hgd:o.guard=none) (s x:Operand) (t:TypeId)
  (ho:o.op= .call {callee:=.builtin .append,args:=#[s,x],argTypes:=#[t,t]})
  (base:Nat) (e:TypeId) (i:TypeInfo) (ht:P.underlying t=some (.slice e)) (hi:P.info? e=some i) (hz:i.zero=some (.int .u8 0)) (hsize:i.size=1) (hby:i.bytes=1)
  (v:Value) (n:Nat) (xs:List Int) (hs:a.eval s=v) (hown:OwnB w base e v n xs)
  (b:Int) (hx:a.eval x= .slice (some ⟨w.heap.size,0,none⟩) 1 1) (hn:n+1≤140737488355328) (hbase:base≤w.heap.size)
  (h: ∀v' w',OwnB w' base e v' (n+1) (xs++[b])→Below base w w'→wpList P ops Q rest (a.put o.dst v') w'):
  wpList P ops Q (o::rest) a (w.alloc (.cells #[.int .u8 b] e)):=by
 refine wpList_append_own _ hgd s x t ho base e i (.int .u8 0) 1 1 ht hi hz hsize hby rfl (by decide) v n _ hs (World.ownsRow.alloc hown _) ⟨w.heap.size,0,none⟩ 1 1 [.int .u8 b] hx rfl ?_ ?_ ?_ ?_ ?_ ?_
 ·intro j u hj
  match j,hj with
  |0,hj=>
   simp at hj
   subst hj
   simp[Addr.add]
 ·intro u hu
  simp at hu
  subst hu
  rfl
 ·unfold maxLen;omega
 ·omega
 ·simp;omega
 ·intro v' w' h1 h2 _
  refine h v' w' ?_ ?_
  ·unfold OwnB;rw[List.map_append];exact h1
  ·exact ((Below.refl base w).alloc hbase _).grown h2 (by simp;omega) (zkn hown)
end Go.Proofs.YtlnohpdiiileeaaGreat