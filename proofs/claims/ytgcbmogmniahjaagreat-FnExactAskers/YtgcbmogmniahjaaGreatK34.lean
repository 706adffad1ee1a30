/- Facts and walks. -/
import Derived.Test.YtgcbmogmniahjaaGreatK5
import Derived.Test.YtgcbmogmniahjaaGreatProg
import Derived.Defers
import Derived.Recover
namespace Go.Proofs.YtgcbmogmniahjaaGreat
open Go.Proofs.Tryz
set_option maxRecDepth 100000
set_option maxHeartbeats 1600000
open Go.RowKit Go.PlainAid
variable (g b:Nat) (w:World)
theorem zuE:(Instr.typeAssert .nilIface 20 207 true).run prog w= .ok (.tuple #[.int .i64 0,.bool false]) w:=by kernel_rfl
theorem zuF (p:Int) (w:World):(Instr.typeAssert (.iface 207 (.int .i64 p)) 20 207 true).run prog w= .ok (.tuple #[.int .i64 p,.bool true]) w:=by kernel_rfl
theorem zuG:
  CallsD prog 168 #[.pointer (some ⟨g,0,none⟩),.pointer (some ⟨b,0,none⟩)] .returning w fun e q h=>e= .returned (.tuple #[])/\q= .returning/\h=w:=by
 refine callsD_of_wpS func168 rfl fun c₀ cs hu=>?_;apply wpS_seq;apply wpS_region;simp[wpOpsS,go_sem,recoverD,hu,ntmps168,Exit.thenS,zuE];apply wpS_seq;apply wpS_region;simp[wpOpsS,go_sem,Exit.thenS];refine wpS_cond (t:=false) (by simp[Act.eval,Array.replicate]) ?_;simp only[Bool.false_eq_true,if_false];refine wpS_of_wp (wp_skip ?_);cases c₀
 simp_all[bodyPostS,results,Tryz.results168]
theorem zuH (p:Int) (v0 v1 v2 v3 v4 u:Value) (w:World) (A:w.heap[g]? =some (.cells #[v0,v1,v2,v3,v4] 54 (0,0))) (z:w.heap[b]? =some (.cells #[u] 3 (0,0))) (E:g≠b):
  CallsD prog 168 #[.pointer (some ⟨g,0,none⟩),.pointer (some ⟨b,0,none⟩)] (.panicking [{v:=.iface 207 (.int .i64 p),recovered:=false}]) w fun e H D=>
   e= .returned (.tuple #[])/\H= .panicking [{v:=.iface 207 (.int .i64 p),recovered:=true}]/\D=(((((w.setCell ⟨g,0,none⟩ (.slice none 0 0)).setCell ⟨g,1,none⟩ (.slice none 0 0)).setCell ⟨g,2,none⟩ (.slice none 0 0)).setCell ⟨g,3,none⟩ (.slice none 0 0)).setCell ⟨g,4,none⟩ (.slice none 0 0)).setCell ⟨b,0,none⟩ (.int .i64 p):=by
 obtain⟨O,U,I,M,N,L⟩:=zj A;have K:w.cell? ⟨b,0,none⟩=some u:=by simp[World.cell?,z]
 have J:w.frozen? ⟨b,0,none⟩=false:=by simp[World.frozen?,z]
 refine callsD_of_wpS func168 rfl fun c₀ cs hu=>?_;apply wpS_seq;apply wpS_region;simp[wpOpsS,go_sem,recoverD,hu,ntmps168,Exit.thenS,zuF];apply wpS_seq;apply wpS_region;simp[wpOpsS,go_sem,Exit.thenS];refine wpS_cond (t:=true) (by simp[Act.eval,Array.replicate]) ?_;simp only[if_true];refine wpS_of_wp ?_;go_wp2;simp[bodyPostS,results,Tryz.results168]
end Go.Proofs.YtgcbmogmniahjaaGreat
