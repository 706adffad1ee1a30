/- Facts. -/
import Derived.Test.YtegdaafmaookjaaGreatP6
import Derived.Test.YtegdaafmaookjaaGreatProg
import Derived.Defers
import Derived.Recover
namespace Go.Proofs.YtegdaafmaookjaaGreat
open Go.Proofs.Tryz
set_option maxRecDepth 100000
set_option maxHeartbeats 1600000
open Go.RowKit Go.PlainAid
variable (g b:Nat) (w:World)
theorem zww:(Instr.typeAssert .nilIface 20 218 true).run prog w= .ok (.tuple #[.int .i64 0,.bool false]) w:=by kernel_rfl
theorem zwx (p:Int) (w:World):(Instr.typeAssert (.iface 218 (.int .i64 p)) 20 218 true).run prog w= .ok (.tuple #[.int .i64 p,.bool true]) w:=by kernel_rfl
theorem zwy:
  CallsD prog 190 #[.pointer (some ⟨g,0,none⟩),.pointer (some ⟨b,0,none⟩)] .returning w fun e h w'=>e= .returned (.tuple #[])/\h= .returning/\w'=w:=by
 refine callsD_of_wpS func190 rfl fun c₀ cs hu=>?_;apply wpS_seq;apply wpS_region;simp[wpOpsS,go_sem,recoverD,hu,ntmps190,Exit.thenS,zww];apply wpS_seq;apply wpS_region;simp[wpOpsS,go_sem,Exit.thenS];refine wpS_cond (t:=false) (by simp[Act.eval,Array.replicate]) ?_;simp only[fE,if_false];refine wpS_of_wp (wp_skip ?_);cases c₀
 simp_all[bodyPostS,results,Tryz.results190]
theorem zwz (p:Int) (v0 v1 v2 v3 v4 u:Value) (w:World) (H:w.heap[g]? =some (.cells #[v0,v1,v2,v3,v4] 59 (0,0))) (A:w.heap[b]? =some (.cells #[u] 3 (0,0))) (I:g≠b):
  CallsD prog 190 #[.pointer (some ⟨g,0,none⟩),.pointer (some ⟨b,0,none⟩)] (.panicking [{v:=.iface 218 (.int .i64 p),recovered:=false}]) w fun e J w'=>
   e= .returned (.tuple #[])/\J= .panicking [{v:=.iface 218 (.int .i64 p),recovered:=true}]/\w'=(((((w.setCell ⟨g,0,none⟩ (.slice none 0 0)).setCell ⟨g,1,none⟩ (.slice none 0 0)).setCell ⟨g,2,none⟩ (.slice none 0 0)).setCell ⟨g,3,none⟩ (.slice none 0 0)).setCell ⟨g,4,none⟩ (.slice none 0 0)).setCell ⟨b,0,none⟩ (.int .i64 p):=by
 obtain⟨V,X,K,O,U,N⟩:=zl H;have M:w.cell? ⟨b,0,none⟩=some u:=by simp[World.cell?,A]
 have L:w.frozen? ⟨b,0,none⟩=false:=by simp[World.frozen?,A]
 refine callsD_of_wpS func190 rfl fun c₀ cs hu=>?_;apply wpS_seq;apply wpS_region;simp[wpOpsS,go_sem,recoverD,hu,ntmps190,Exit.thenS,zwx];apply wpS_seq;apply wpS_region;simp[wpOpsS,go_sem,Exit.thenS];refine wpS_cond (t:=true) (by simp[Act.eval,Array.replicate]) ?_;simp only[if_true];refine wpS_of_wp ?_;go_wp2;simp[bodyPostS,results,Tryz.results190]
