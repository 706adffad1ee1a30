/-
 The deferred closure of impl.Parse: of a frame that panics with a place,of one that returns: the walks.
-/
import Derived.Test.YticdggnnpjachaaGreatCbImplParseMem
import Derived.Defers
import Derived.Recover
namespace Go.Proofs.YticdggnnpjachaaGreat
set_option maxRecDepth 100000
set_option maxHeartbeats 1600000
open Go.RowKit Go.PlainAid
theorem zq8 (w:World):(Instr.typeAssert .nilIface 20 55 true).run Tryz.prog w= .ok (.tuple #[.int .i64 0,.bool false]) w:=by kernel_rfl
theorem zq9 (p:Int) (w:World):(Instr.typeAssert (.iface 55 (.int .i64 p)) 20 55 true).run Tryz.prog w= .ok (.tuple #[.int .i64 p,.bool true]) w:=by kernel_rfl
theorem zqA (n o:Nat) (w:World):
  CallsD Tryz.prog 23 #[.pointer (some ⟨n,0,none⟩),.pointer (some ⟨o,0,none⟩)] .returning w fun e q j=>e= .returned (.tuple #[])∧q= .returning∧j=w:=by
 refine callsD_of_wpS Tryz.func23 rfl fun c₀ cs hu=>?_
 apply wpS_seq
 apply wpS_region
 simp[wpOpsS,go_sem,recoverD,hu,Tryz.ntmps23,Exit.thenS,zq8]
 apply wpS_seq
 apply wpS_region
 simp[wpOpsS,go_sem,Exit.thenS]
 refine wpS_cond (t:=false) (by simp[Act.eval,Array.replicate]) ?_
 simp only[Bool.false_eq_true,if_false]
 refine wpS_of_wp (wp_skip ?_)
 cases c₀
 simp_all[bodyPostS,results,Tryz.results23]
theorem zqB (j n:Nat) (p:Int) (E q D A J u:Value) (w:World) (z:w.heap[j]? =some (.cells #[E,q,D,A,J] 28 (0,0))) (o:w.heap[n]? =some (.cells #[u] 3 (0,0))) (I:j≠n):
  CallsD Tryz.prog 23 #[.pointer (some ⟨j,0,none⟩),.pointer (some ⟨n,0,none⟩)] (.panicking [{v:=.iface 55 (.int .i64 p),recovered:=false}]) w fun e H K=>
   e= .returned (.tuple #[])∧H= .panicking [{v:=.iface 55 (.int .i64 p),recovered:=true}]∧K=(((((w.setCell ⟨j,0,none⟩ (.slice none 0 0)).setCell ⟨j,1,none⟩ (.slice none 0 0)).setCell ⟨j,2,none⟩ (.slice none 0 0)).setCell ⟨j,3,none⟩ (.slice none 0 0)).setCell ⟨j,4,none⟩ (.slice none 0 0)).setCell ⟨n,0,none⟩ (.int .i64 p):=by
 obtain⟨Q,N,L,V,O,M⟩:=zl z
 have U:w.cell? ⟨n,0,none⟩=some u:=by simp[World.cell?,o]
 have X:w.frozen? ⟨n,0,none⟩=false:=by simp[World.frozen?,o]
 refine callsD_of_wpS Tryz.func23 rfl fun c₀ cs hu=>?_
 apply wpS_seq
 apply wpS_region
 simp[wpOpsS,go_sem,recoverD,hu,Tryz.ntmps23,Exit.thenS,zq9]
 apply wpS_seq
 apply wpS_region
 simp[wpOpsS,go_sem,Exit.thenS]
 refine wpS_cond (t:=true) (by simp[Act.eval,Array.replicate]) ?_
 simp only[if_true]
 refine wpS_of_wp ?_
 go_wp2
 simp[bodyPostS,results,Tryz.results23]
end Go.Proofs.YticdggnnpjachaaGreat