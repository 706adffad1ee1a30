/-
 The deferred closure of impl.Parse: of a frame that panics with a place,of one that returns: the walks.
-/
import Derived.Test.YticdggnnpjachaaGreatCcImplParseMemToBase0
import Derived.Test.YticdggnnpjachaaGreatProg
import Derived.Defers
import Derived.Recover
namespace Go.Proofs.YticdggnnpjachaaGreat
set_option maxRecDepth 100000
set_option maxHeartbeats 1600000
open Go.RowKit Go.PlainAid
theorem znF (w:World):(Instr.typeAssert .nilIface 20 55 true).run Tryz.prog w= .ok (.tuple #[.int .i64 0,.bool false]) w:=by kernel_rfl
theorem znG (p:Int) (w:World):(Instr.typeAssert (.iface 55 (.int .i64 p)) 20 55 true).run Tryz.prog w= .ok (.tuple #[.int .i64 p,.bool true]) w:=by kernel_rfl
theorem znH (j h:Nat) (w:World):
  CallsD Tryz.prog 23 #[.pointer (some ⟨j,0,none⟩),.pointer (some ⟨h,0,none⟩)] .returning w fun e o n=>e= .returned (.tuple #[])∧o= .returning∧n=w:=by
 refine callsD_of_wpS Tryz.func23 rfl fun c₀ cs hu=>?_
 apply wpS_seq
 apply wpS_region
 simp[wpOpsS,go_sem,recoverD,hu,Tryz.ntmps23,Exit.thenS,znF]
 apply wpS_seq
 apply wpS_region
 simp[wpOpsS,go_sem,Exit.thenS]
 refine wpS_cond (t:=false) (by simp[Act.eval,Array.replicate]) ?_
 simp only[Bool.false_eq_true,if_false]
 refine wpS_of_wp (wp_skip ?_)
 cases c₀
 simp_all[bodyPostS,results,Tryz.results23]
theorem znI (h j:Nat) (p:Int) (z I o H J u:Value) (w:World) (q:w.heap[h]? =some (.cells #[z,I,o,H,J] 28 (0,0))) (n:w.heap[j]? =some (.cells #[u] 3 (0,0))) (D:h≠j):
  CallsD Tryz.prog 23 #[.pointer (some ⟨h,0,none⟩),.pointer (some ⟨j,0,none⟩)] (.panicking [{v:=.iface 55 (.int .i64 p),recovered:=false}]) w fun e A E=>
   e= .returned (.tuple #[])∧A= .panicking [{v:=.iface 55 (.int .i64 p),recovered:=true}]∧E=(((((w.setCell ⟨h,0,none⟩ (.slice none 0 0)).setCell ⟨h,1,none⟩ (.slice none 0 0)).setCell ⟨h,2,none⟩ (.slice none 0 0)).setCell ⟨h,3,none⟩ (.slice none 0 0)).setCell ⟨h,4,none⟩ (.slice none 0 0)).setCell ⟨j,0,none⟩ (.int .i64 p):=by
 obtain⟨N,X,M,V,L,O⟩:=zk q
 have U:w.cell? ⟨j,0,none⟩=some u:=by simp[World.cell?,n]
 have K:w.frozen? ⟨j,0,none⟩=false:=by simp[World.frozen?,n]
 refine callsD_of_wpS Tryz.func23 rfl fun c₀ cs hu=>?_
 apply wpS_seq
 apply wpS_region
 simp[wpOpsS,go_sem,recoverD,hu,Tryz.ntmps23,Exit.thenS,znG]
 apply wpS_seq
 apply wpS_region
 simp[wpOpsS,go_sem,Exit.thenS]
 refine wpS_cond (t:=true) (by simp[Act.eval,Array.replicate]) ?_
 simp only[if_true]
 refine wpS_of_wp ?_
 go_wp2
 simp[bodyPostS,results,Tryz.results23]
end Go.Proofs.YticdggnnpjachaaGreat