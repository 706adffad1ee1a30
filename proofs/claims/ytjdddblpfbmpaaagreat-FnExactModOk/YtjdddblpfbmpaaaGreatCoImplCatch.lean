/-
 The deferred closure of impl.Parse: of a frame that panics with a place,of one that returns: the walks.
-/
import Derived.Test.YtjdddblpfbmpaaaGreatCoImplParseMem
import Derived.Test.YtjdddblpfbmpaaaGreatProg
import Derived.Defers
import Derived.Recover
namespace Go.Proofs.YtjdddblpfbmpaaaGreat
set_option maxRecDepth 100000
set_option maxHeartbeats 1600000
open Go.RowKit Go.PlainAid
theorem znP (w:World):(Instr.typeAssert .nilIface 20 156 true).run Tryz.prog w= .ok (.tuple #[.int .i64 0,.bool false]) w:=by kernel_rfl
theorem znQ (p:Int) (w:World):(Instr.typeAssert (.iface 156 (.int .i64 p)) 20 156 true).run Tryz.prog w= .ok (.tuple #[.int .i64 p,.bool true]) w:=by kernel_rfl
theorem znR (q n:Nat) (w:World):
  CallsD Tryz.prog 119 #[.pointer (some ⟨q,0,none⟩),.pointer (some ⟨n,0,none⟩)] .returning w fun e j h=>e= .returned (.tuple #[])∧j= .returning∧h=w:=by
 refine callsD_of_wpS Tryz.func119 rfl fun c₀ cs hu=>?_
 apply wpS_seq
 apply wpS_region
 simp[wpOpsS,go_sem,recoverD,hu,Tryz.ntmps119,Exit.thenS,znP]
 apply wpS_seq
 apply wpS_region
 simp[wpOpsS,go_sem,Exit.thenS]
 refine wpS_cond (t:=false) (by simp[Act.eval,Array.replicate]) ?_
 simp only[Bool.false_eq_true,if_false]
 refine wpS_of_wp (wp_skip ?_)
 cases c₀
 simp_all[bodyPostS,results,Tryz.results119]
theorem znS (h j:Nat) (p:Int) (v0 v1 v2 v3 v4 u:Value) (w:World) (q:w.heap[h]? =some (.cells #[v0,v1,v2,v3,v4] 36 (0,0))) (n:w.heap[j]? =some (.cells #[u] 3 (0,0))) (A:h≠j):
  CallsD Tryz.prog 119 #[.pointer (some ⟨h,0,none⟩),.pointer (some ⟨j,0,none⟩)] (.panicking [{v:=.iface 156 (.int .i64 p),recovered:=false}]) w fun e D z=>
   e= .returned (.tuple #[])∧D= .panicking [{v:=.iface 156 (.int .i64 p),recovered:=true}]∧z=(((((w.setCell ⟨h,0,none⟩ (.slice none 0 0)).setCell ⟨h,1,none⟩ (.slice none 0 0)).setCell ⟨h,2,none⟩ (.slice none 0 0)).setCell ⟨h,3,none⟩ (.slice none 0 0)).setCell ⟨h,4,none⟩ (.slice none 0 0)).setCell ⟨j,0,none⟩ (.int .i64 p):=by
 obtain⟨M,N,E,K,L,J⟩:=zi q
 have I:w.cell? ⟨j,0,none⟩=some u:=by simp[World.cell?,n]
 have H:w.frozen? ⟨j,0,none⟩=false:=by simp[World.frozen?,n]
 refine callsD_of_wpS Tryz.func119 rfl fun c₀ cs hu=>?_
 apply wpS_seq
 apply wpS_region
 simp[wpOpsS,go_sem,recoverD,hu,Tryz.ntmps119,Exit.thenS,znQ]
 apply wpS_seq
 apply wpS_region
 simp[wpOpsS,go_sem,Exit.thenS]
 refine wpS_cond (t:=true) (by simp[Act.eval,Array.replicate]) ?_
 simp only[if_true]
 refine wpS_of_wp ?_
 go_wp2
 simp[bodyPostS,results,Tryz.results119]
end Go.Proofs.YtjdddblpfbmpaaaGreat