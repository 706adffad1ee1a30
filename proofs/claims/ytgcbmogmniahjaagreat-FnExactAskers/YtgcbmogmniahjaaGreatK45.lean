/- Facts and walks. -/
import Derived.DeepKeys4
import Derived.Test.YtgcbmogmniahjaaGreatK44
import Derived.Test.YtgcbmogmniahjaaGreatK19
namespace Go.Proofs.YtgcbmogmniahjaaGreat
open Go.Proofs.Tryz
set_option maxRecDepth 100000
set_option maxHeartbeats 1600000
open Go.ChangeShapes Go.WideShapes
open Go.Maps (Keyed)
abbrev mkK (p:Int×BA):Value:=.agg #[.int .i64 p.1,.string p.2]
theorem zhk (a b:Int×BA) (h:mkK a=mkK b):a=b:=by
 simp only[mkK,Value.agg.injEq,Array.mk.injEq,List.cons.injEq,Value.int.injEq,Value.string.injEq,and_true,true_and] at h;exact Prod.ext h.1 h.2
theorem Tryz.laidE:laidOutB prog=true:=by kernel_rfl
theorem Tryz.rowE:(182:TypeId)<prog.types.size:=of_decide_eq_true (by kernel_rfl)
theorem Tryz.wideE:(match prog.underlying 182 with|some (.array _ _)|some (.struct _)=>true|_=>false)=true:=by rw[underlying182]
theorem Tryz.keyE:WideMaps.KeyLaw prog 182:=deep_law_laid Tryz.laidE (m:=2) (by omega) Tryz.rowE (by kernel_rfl) Tryz.wideE
theorem Tryz.keyed:Keyed prog 182:=Keyed.of_law Tryz.keyE
theorem Tryz.zeroI (w:World):(zeroValue 3).run prog w= .ok (.int .i64 0) w:=by kernel_rfl
theorem Tryz.deepE:prog.keyType 182=true:=by kernel_rfl
theorem Tryz.cellsE:prog.cellsOf 182=2:=by kernel_rfl
theorem Tryz.cellsEI:prog.cellsOf 3=1:=by kernel_rfl
theorem Tryz.cellsES:prog.cellsOf 9=1:=by kernel_rfl
theorem Tryz.manyE:2<=prog.types.size:=of_decide_eq_true (by kernel_rfl)
theorem zvC (r:Int) (s:BA) (w:(Lit.int .i64 r).wf=true) (h:s.size<=maxLen): ∃l,keyOf prog 182 (mkK (r,s))=some l:=by
 obtain⟨n,q⟩: ∃n,prog.types.size+1=n+2:=⟨prog.types.size-1,by have:=Tryz.manyE;omega⟩;unfold keyOf;rw[underlying182];simp only[Tryz.deepE,q];simp[Value.formed,underlying182,Tryz.cellsE,Tryz.cellsEI,Tryz.cellsES,Value.cells,Program.keyLits,underlying3,underlying9,w,h]
open Go.RowKit Go.PlainAid Go.Sort
open Go.ChangeMaps (setBlock)
def RoleOk (p:Int×BA):Prop:=1<=p.1/\p.1<=3/\p.2.size<=maxLen
theorem RoleOk.key {p:Int×BA} (h:RoleOk p): ∃l,keyOf prog 182 (mkK p)=some l:=zvC p.1 p.2 (WalkArith.wf_i64 (by have:=h.1;have:=h.2.1;omega)) h.2.2
def cnt (L:List (Int×BA)) (p:Int×BA):Nat:=@List.count (Int×BA) instBEqOfDecidableEq p L
theorem zvD {L:List (Int×BA)} {p:Int×BA}:0<cnt L p↔p∈L:=zmK L p
theorem zmM (L:List (Int×BA)) (p:Int×BA):cnt L p<=L.length:=zvA L p
def CntW (w:World) (b:Nat) (L:List (Int×BA)):Prop:=∃es clock,w.heap[b]? =some (.map es clock)/\zdL mkK L es clock/\∀p∈L,RoleOk p
variable {w:World} {g:Nat}
theorem CntW.lt {L:List (Int×BA)} (h:CntW w g L):g<w.heap.size:=by
 obtain⟨A,q,z,_⟩:=h;exact (aLt z)
theorem CntW.kept {z:World} {L:List (Int×BA)} (h:CntW w g L) (H:z.heap[g]? =w.heap[g]?):CntW z g L:=by
 obtain⟨E,q,D,A⟩:=h;exact⟨E,q,H.trans D,A⟩
theorem CntW.look {L:List (Int×BA)} (h:CntW w g L) {p:Int×BA} (A:RoleOk p):(Instr.lookup 139 (.map (some g)) (.agg #[.int .i64 p.1,.string p.2]) false).run prog w= .ok (.int .i64 (cnt L p:Nat)) w:=by
 obtain⟨K,q,E,H,I⟩:=h;obtain⟨l,D⟩:=A.key;exact ziM Tryz.keyed underlying139 (Tryz.zeroI w) zhk H (fun z J=>(I z J).key) D E
theorem CntW.bump {L:List (Int×BA)} (h:CntW w g L) (p:Int×BA) (hp:RoleOk p):
  ∃(c:Nat) (v0:Value) (N:Nat) (M Y:World),c<=L.length/\(Instr.lookup 139 (.map (some g)) (.agg #[.int .i64 p.1,.string p.2]) false).run prog w.drew= .ok (.int .i64 (c:Int)) w.drew/\
   (Instr.mapEntry 139 (.map (some g)) (.agg #[.int .i64 p.1,.string p.2])).run prog w.drew= .ok (.tuple #[v0,.int .i64 (N:Int)]) M/\
   (Instr.lookup 139 (.map (some g)) (.agg #[.int .i64 p.1,.string p.2]) false).run prog M= .ok (.int .i64 (c:Int)) M/\
   (Instr.entryStore 139 (.map (some g)) (.int .i64 (N:Int)) (.int .i64 ((c:Int)+1))).run prog M= .ok () Y/\
   CntW Y g (L++[p])/\w.grownBy Y (some g):=by
 obtain⟨es,J,hb,hc,V⟩:=h;obtain⟨l,hl⟩:=hp.key;have H:w.drew.heap[g]? =some (.map es J):=hb;obtain⟨v0,N,D,C,h1,h2,E,A,h3,h4⟩:=zvB Tryz.keyed underlying139 Tryz.zeroI zhk hc (fun z Z=>(V z Z).key) hl H;have O:(setBlock w.drew g (.map D C)).heap[g]? =some (.map D C):=(MapKept.heap_set H).1;have e2:(setBlock (setBlock w.drew g (.map D C)) g (.map E A)).heap[g]? =some (.map E A):=(MapKept.heap_set O).1;have X:w.grownBy (setBlock (setBlock w.drew g (.map D C)) g (.map E A)) (some g):=by
  refine⟨rfl,rfl,rfl,by simp[setBlock],fun i _ U=>?_⟩;have I:i≠g:=fun e=>U (by rw[e]);exact ((MapKept.heap_set O).2 i I).trans ((MapKept.heap_set H).2 i I)
 refine⟨cnt L p,v0,N,_,_,zmM L p,ziM Tryz.keyed underlying139 (Tryz.zeroI _) zhk hc (fun z Z=>(V z Z).key) hl H,h1,h2 _ O,h4 _ O,⟨E,A,e2,h3,fun q K=>?_⟩,X⟩;rcases List.mem_append.1 K with K|K
 ·exact V q K
 ·rw[List.mem_singleton.1 K];exact hp
theorem zfo (b:Nat) (L:List (Int×BA)) (r:Int) (n:BA) (w:World) (h:CntW w b L) (q:RoleOk (r,n)):
  Calls prog 139 #[.map (some b),.int .i64 r,.string n] w fun e A=>e= .returned (.bool (decide (0<cnt L (r,n))))/\A=w:=by
 have z:=h.look q;generalize cnt L (r,n)=c at z ⊢;clear h;go_enter func139,ntmps139;go_wp2;go_ret;exact⟨rfl,rfl⟩
end Go.Proofs.YtgcbmogmniahjaaGreat
