/-
 The deferred closure of impl.Parse: of a frame that panics with a place,of one that returns: the walks.
-/
import Derived.Test.YthfeoomfiafldaaGreatCdImplParseMem
import Derived.Defers
import Derived.Recover
namespace Go.Proofs.YthfeoomfiafldaaGreat
set_option maxRecDepth 100000
set_option maxHeartbeats 1600000
open Go.RowKit Go.PlainAid
theorem zt7 (w:World):(Instr.typeAssert .nilIface 20 49 true).run Tryz.prog w= .ok (.tuple #[.int .i64 0,.bool false]) w:=by kernel_rfl
theorem zt8 (p:Int) (w:World):(Instr.typeAssert (.iface 49 (.int .i64 p)) 20 49 true).run Tryz.prog w= .ok (.tuple #[.int .i64 p,.bool true]) w:=by kernel_rfl
theorem zt9 (z j:Nat) (w:World):
  CallsD Tryz.prog 19 #[.pointer (some ⟨z,0,none⟩),.pointer (some ⟨j,0,none⟩)] .returning w fun e o D=>e= .returned (.tuple #[])∧o= .returning∧D=w:=by
 refine callsD_of_wpS Tryz.func19 rfl fun c₀ cs hu=>?_
 apply wpS_seq
 apply wpS_region
 simp[wpOpsS,go_sem,recoverD,hu,Tryz.ntmps19,Exit.thenS,zt7]
 apply wpS_seq
 apply wpS_region
 simp[wpOpsS,go_sem,Exit.thenS]
 refine wpS_cond (t:=false) (by simp[Act.eval,Array.replicate]) ?_
 simp only[Bool.false_eq_true,if_false]
 refine wpS_of_wp (wp_skip ?_)
 cases c₀
 simp_all[bodyPostS,results,Tryz.results19]
theorem ztA (j o:Nat) (p:Int) (N L J H E u:Value) (w:World) (D:w.heap[j]? =some (.cells #[N,L,J,H,E] 32 (0,0))) (z:w.heap[o]? =some (.cells #[u] 3 (0,0))) (M:j≠o):
  CallsD Tryz.prog 19 #[.pointer (some ⟨j,0,none⟩),.pointer (some ⟨o,0,none⟩)] (.panicking [{v:=.iface 49 (.int .i64 p),recovered:=false}]) w fun e I K=>
   e= .returned (.tuple #[])∧I= .panicking [{v:=.iface 49 (.int .i64 p),recovered:=true}]∧K=(((((w.setCell ⟨j,0,none⟩ (.slice none 0 0)).setCell ⟨j,1,none⟩ (.slice none 0 0)).setCell ⟨j,2,none⟩ (.slice none 0 0)).setCell ⟨j,3,none⟩ (.slice none 0 0)).setCell ⟨j,4,none⟩ (.slice none 0 0)).setCell ⟨o,0,none⟩ (.int .i64 p):=by
 obtain⟨X,Y,U,Q,O,V⟩:=zaa D
 have Z:w.cell? ⟨o,0,none⟩=some u:=by simp[World.cell?,z]
 have bf:w.frozen? ⟨o,0,none⟩=false:=by simp[World.frozen?,z]
 refine callsD_of_wpS Tryz.func19 rfl fun c₀ cs hu=>?_
 apply wpS_seq
 apply wpS_region
 simp[wpOpsS,go_sem,recoverD,hu,Tryz.ntmps19,Exit.thenS,zt8]
 apply wpS_seq
 apply wpS_region
 simp[wpOpsS,go_sem,Exit.thenS]
 refine wpS_cond (t:=true) (by simp[Act.eval,Array.replicate]) ?_
 simp only[if_true]
 refine wpS_of_wp ?_
 go_wp2
 simp[bodyPostS,results,Tryz.results19]
end Go.Proofs.YthfeoomfiafldaaGreat