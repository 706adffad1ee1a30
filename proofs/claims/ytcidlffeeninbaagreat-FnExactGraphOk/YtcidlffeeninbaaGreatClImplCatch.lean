/-
 The deferred closure of impl.Parse: of a frame that panics with a place,of one that returns: the walks.
-/
import Derived.Test.YtcidlffeeninbaaGreatClImplParseMem
import Derived.Test.YtcidlffeeninbaaGreatProg
import Derived.Defers
import Derived.Recover
namespace Go.Proofs.YtcidlffeeninbaaGreat
set_option maxRecDepth 100000
set_option maxHeartbeats 1600000
open Go.RowKit Go.PlainAid
theorem zt7 (w:World):(Instr.typeAssert .nilIface 20 160 true).run Tryz.prog w= .ok (.tuple #[.int .i64 0,.bool false]) w:=by kernel_rfl
theorem zt8 (p:Int) (w:World):(Instr.typeAssert (.iface 160 (.int .i64 p)) 20 160 true).run Tryz.prog w= .ok (.tuple #[.int .i64 p,.bool true]) w:=by kernel_rfl
theorem zt9 (q A:Nat) (w:World):
  CallsD Tryz.prog 109 #[.pointer (some ⟨q,0,none⟩),.pointer (some ⟨A,0,none⟩)] .returning w fun e h z=>e= .returned (.tuple #[])∧h= .returning∧z=w:=by
 refine callsD_of_wpS Tryz.func109 rfl fun c₀ cs hu=>?_
 apply wpS_seq
 apply wpS_region
 simp[wpOpsS,go_sem,recoverD,hu,Tryz.ntmps109,Exit.thenS,zt7]
 apply wpS_seq
 apply wpS_region
 simp[wpOpsS,go_sem,Exit.thenS]
 refine wpS_cond (t:=false) (by simp[Act.eval,Array.replicate]) ?_
 simp only[Bool.false_eq_true,if_false]
 refine wpS_of_wp (wp_skip ?_)
 cases c₀
 simp_all[bodyPostS,results,Tryz.results109]
theorem ztA (h q:Nat) (p:Int) (D E I H M u:Value) (w:World) (K:w.heap[h]? =some (.cells #[D,E,I,H,M] 48 (0,0))) (z:w.heap[q]? =some (.cells #[u] 3 (0,0))) (L:h≠q):
  CallsD Tryz.prog 109 #[.pointer (some ⟨h,0,none⟩),.pointer (some ⟨q,0,none⟩)] (.panicking [{v:=.iface 160 (.int .i64 p),recovered:=false}]) w fun e J A=>
   e= .returned (.tuple #[])∧J= .panicking [{v:=.iface 160 (.int .i64 p),recovered:=true}]∧A=(((((w.setCell ⟨h,0,none⟩ (.slice none 0 0)).setCell ⟨h,1,none⟩ (.slice none 0 0)).setCell ⟨h,2,none⟩ (.slice none 0 0)).setCell ⟨h,3,none⟩ (.slice none 0 0)).setCell ⟨h,4,none⟩ (.slice none 0 0)).setCell ⟨q,0,none⟩ (.int .i64 p):=by
 obtain⟨c0,Z,O,X,V,N⟩:=zk K
 have Y:w.cell? ⟨q,0,none⟩=some u:=by simp[World.cell?,z]
 have U:w.frozen? ⟨q,0,none⟩=false:=by simp[World.frozen?,z]
 refine callsD_of_wpS Tryz.func109 rfl fun c₀ cs hu=>?_
 apply wpS_seq
 apply wpS_region
 simp[wpOpsS,go_sem,recoverD,hu,Tryz.ntmps109,Exit.thenS,zt8]
 apply wpS_seq
 apply wpS_region
 simp[wpOpsS,go_sem,Exit.thenS]
 refine wpS_cond (t:=true) (by simp[Act.eval,Array.replicate]) ?_
 simp only[if_true]
 refine wpS_of_wp ?_
 go_wp2
 simp[bodyPostS,results,Tryz.results109]
end Go.Proofs.YtcidlffeeninbaaGreat