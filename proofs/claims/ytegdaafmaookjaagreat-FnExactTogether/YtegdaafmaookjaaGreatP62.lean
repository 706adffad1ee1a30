/- Facts. -/
import Derived.DeepKeys4
import Derived.Test.YtegdaafmaookjaaGreatP61
import Derived.Test.YtegdaafmaookjaaGreatP19
namespace Go.Proofs.YtegdaafmaookjaaGreat
open Go.Proofs.Tryz
set_option maxRecDepth 100000
set_option maxHeartbeats 1600000
open Go.ChangeShapes Go.WideShapes
open Go.Maps (Keyed)
abbrev mkK (p:Int×BA0):Value:=.agg #[.int .i64 p.1,.string p.2]
theorem zhQ (a b:Int×BA0) (h:mkK a=mkK b):a=b:=by
 simp only[mkK,Value.agg.injEq,Array.mk.injEq,List.cons.injEq,Value.int.injEq,Value.string.injEq,and_true,true_and] at h;exact Prod.ext h.1 h.2
theorem Tryz.laidE:laidOutB prog=true:=by kernel_rfl
theorem Tryz.rowE:(206:TypeId)<prog.types.size:=of_decide_eq_true (by kernel_rfl)
theorem Tryz.wideE:(match prog.underlying 206 with|some (.array _ _)|some (.struct _)=>true|_=>false)=true:=by rw[underlying206]
theorem Tryz.keyE:WideMaps.KeyLaw prog 206:=deep_law_laid Tryz.laidE (m:=2) (by omega) Tryz.rowE (by kernel_rfl) Tryz.wideE
theorem Tryz.keyed:Keyed prog 206:=Keyed.of_law Tryz.keyE
theorem Tryz.zeroI (w:World):(zeroValue 3).run prog w= .ok (.int .i64 0) w:=by kernel_rfl
theorem Tryz.deepE:prog.keyType 206=true:=by kernel_rfl
theorem Tryz.cellsE:prog.cellsOf 206=2:=by kernel_rfl
theorem Tryz.cellsEI:prog.cellsOf 3=1:=by kernel_rfl
theorem Tryz.cellsES:prog.cellsOf 9=1:=by kernel_rfl
theorem Tryz.manyE:2<=prog.types.size:=of_decide_eq_true (by kernel_rfl)
theorem zxu (r:Int) (s:BA0) (w:(Lit.int .i64 r).wf=true) (h:s.size<=maxLen): ∃l,keyOf prog 206 (mkK (r,s))=some l:=by
 obtain⟨n,q⟩: ∃n,prog.types.size+1=n+2:=⟨prog.types.size-1,by have:=Tryz.manyE;omega⟩;unfold keyOf;rw[underlying206];simp only[Tryz.deepE,q];simp[Value.formed,underlying206,Tryz.cellsE,Tryz.cellsEI,Tryz.cellsES,Value.cells,Program.keyLits,underlying3,underlying9,w,h]
open Go.RowKit Go.PlainAid Go.Sort
open Go.ChangeMaps (setBlock)
def RoleOk (p:Int×BA0):Prop:=1<=p.1/\p.1<=3/\p.2.size<=maxLen
theorem RoleOk.key {p:Int×BA0} (h:RoleOk p): ∃l,keyOf prog 206 (mkK p)=some l:=zxu p.1 p.2 (WalkArith.wf_i64 (by have:=h.1;have:=h.2.1;omega)) h.2.2
def cnt (L:List (Int×BA0)) (p:Int×BA0):Nat:=@List.count (Int×BA0) instBEqOfDecidableEq p L
theorem zxv {L:List (Int×BA0)} {p:Int×BA0}:0<cnt L p↔p∈L:=znH L p
theorem znJ (L:List (Int×BA0)) (p:Int×BA0):cnt L p<=L.length:=zxs L p
def CntW (w:World) (b:Nat) (L:List (Int×BA0)):Prop:=∃es clock,w.heap[b]? =some (.map es clock)/\zef mkK L es clock/\∀p∈L,RoleOk p
variable {w:World} {g:Nat}
theorem CntW.lt {L:List (Int×BA0)} (h:CntW w g L):g<w.heap.size:=by
 obtain⟨H,q,A,_⟩:=h;exact (aLt A)
theorem CntW.kept {w':World} {L:List (Int×BA0)} (h:CntW w g L) (J:w'.heap[g]? =w.heap[g]?):CntW w' g L:=by
 obtain⟨I,q,H,A⟩:=h;exact⟨I,q,J.trans H,A⟩
theorem CntW.look {L:List (Int×BA0)} (h:CntW w g L) {p:Int×BA0} (A:RoleOk p):(Instr.lookup 183 (.map (some g)) (.agg #[.int .i64 p.1,.string p.2]) false).run prog w= .ok (.int .i64 (cnt L p:Nat)) w:=by
 obtain⟨N,q,I,J,K⟩:=h;obtain⟨l,H⟩:=A.key;exact zjA Tryz.keyed underlying183 (Tryz.zeroI w) zhQ J (fun z M=>(K z M).key) H I
theorem CntW.bump {L:List (Int×BA0)} (h:CntW w g L) (p:Int×BA0) (hp:RoleOk p):
  ∃(c:Nat) (v0:Value) (U:Nat) (O Wb:World),c<=L.length/\(Instr.lookup 183 (.map (some g)) (.agg #[.int .i64 p.1,.string p.2]) false).run prog w.drew= .ok (.int .i64 (c:Int)) w.drew/\
   (Instr.mapEntry 183 (.map (some g)) (.agg #[.int .i64 p.1,.string p.2])).run prog w.drew= .ok (.tuple #[v0,.int .i64 (U:Int)]) O/\
   (Instr.lookup 183 (.map (some g)) (.agg #[.int .i64 p.1,.string p.2]) false).run prog O= .ok (.int .i64 (c:Int)) O/\
   (Instr.entryStore 183 (.map (some g)) (.int .i64 (U:Int)) (.int .i64 ((c:Int)+1))).run prog O= .ok () Wb/\
   CntW Wb g (L++[p])/\w.grownBy Wb (some g):=by
 obtain⟨es,M,hb,hc,Y⟩:=h;obtain⟨l,hl⟩:=hp.key;have J:w.drew.heap[g]? =some (.map es M):=hb;obtain⟨v0,U,H,C,h1,h2,I,A,h3,h4⟩:=zxt Tryz.keyed underlying183 Tryz.zeroI zhQ hc (fun z hz=>(Y z hz).key) hl J;have V:(setBlock w.drew g (.map H C)).heap[g]? =some (.map H C):=(MapKept.heap_set J).1;have e2:(setBlock (setBlock w.drew g (.map H C)) g (.map I A)).heap[g]? =some (.map I A):=(MapKept.heap_set V).1;have Z:w.grownBy (setBlock (setBlock w.drew g (.map H C)) g (.map I A)) (some g):=by
  refine⟨rfl,rfl,rfl,by simp[setBlock],fun i _ X=>?_⟩;have K:i≠g:=fun e=>X (by rw[e]);exact ((MapKept.heap_set V).2 i K).trans ((MapKept.heap_set J).2 i K)
 refine⟨cnt L p,v0,U,_,_,znJ L p,zjA Tryz.keyed underlying183 (Tryz.zeroI _) zhQ hc (fun z hz=>(Y z hz).key) hl J,h1,h2 _ V,h4 _ V,⟨I,A,e2,h3,fun q N=>?_⟩,Z⟩;rcases List.mem_append.1 N with N|N
 ·exact Y q N
 ·rw[List.mem_singleton.1 N];exact hp
theorem zfG (b:Nat) (L:List (Int×BA0)) (r:Int) (n:BA0) (w:World) (h:CntW w b L) (q:RoleOk (r,n)):
  Calls prog 180 #[.map (some b),.int .i64 r,.string n] w fun e w'=>e= .returned (.bool (decide (0<cnt L (r,n))))/\w'=w:=by
 have A:=h.look q;generalize cnt L (r,n)=c at A ⊢;clear h;go_enter func180,ntmps180;go_wp2;go_ret;exact⟨rfl,rfl⟩
