/- Facts and walks that the theorem stands on. -/
import Derived.DeepKeys4
import Derived.Test.YtgcbmogmniahjaaGreatA44
import Derived.Test.YtgcbmogmniahjaaGreatA19
namespace Go.Proofs.YtgcbmogmniahjaaGreat
open Go.Proofs.Tryz
set_option maxRecDepth 100000
set_option maxHeartbeats 1600000
open Go.ChangeShapes Go.WideShapes
open Go.Maps (Keyed)
abbrev mkK (p:Int×BA):Value:=.agg #[.int .i64 p.1,.string p.2]
theorem zha (a b:Int×BA) (h:mkK a=mkK b):a=b:=by
 simp only[mkK,Value.agg.injEq,Array.mk.injEq,List.cons.injEq,Value.int.injEq,Value.string.injEq,and_true,true_and] at h;exact Prod.ext h.1 h.2
theorem Tryz.laidE:laidOutB prog=true:=by kernel_rfl
theorem Tryz.rowE:(182:TypeId)<prog.types.size:=of_decide_eq_true (by kernel_rfl)
theorem Tryz.wideE:(match prog.underlying 182 with|some (.array _ _)|some (.struct _)=>true|_=>false)=true:=by rw[underlying182]
theorem Tryz.keyE:WideMaps.KeyLaw prog 182:=deep_law_laid Tryz.laidE (m:=2) (by omega) Tryz.rowE (by kernel_rfl) Tryz.wideE
theorem Tryz.keyed:Keyed prog 182:=Keyed.of_law Tryz.keyE
theorem Tryz.zeroI (w:World):(zeroValue 3).run prog w= .ok (.int .i64 0) w:=by kernel_rfl
theorem Tryz.deepE:prog.keyType 182=true:=by kernel_rfl
theorem Tryz.cellsE:prog.cellsOf 182=2:=by kernel_rfl
theorem Tryz.cellsEI:prog.cellsOf 3=1:=by kernel_rfl
theorem Tryz.cellsES:prog.cellsOf 9=1:=by kernel_rfl
theorem Tryz.manyE:2<=prog.types.size:=of_decide_eq_true (by kernel_rfl)
theorem zvq (r:Int) (s:BA) (w:(Lit.int .i64 r).wf=true) (h:s.size<=maxLen): ∃l,keyOf prog 182 (mkK (r,s))=some l:=by
 obtain⟨n,q⟩: ∃n,prog.types.size+1=n+2:=⟨prog.types.size-1,by have:=Tryz.manyE;omega⟩;unfold keyOf;rw[underlying182];simp only[Tryz.deepE,q];simp[Value.formed,underlying182,Tryz.cellsE,Tryz.cellsEI,Tryz.cellsES,Value.cells,Program.keyLits,underlying3,underlying9,w,h]
open Go.RowKit Go.PlainAid Go.Sort
open Go.ChangeMaps (setBlock)
def RoleOk (p:Int×BA):Prop:=1<=p.1/\p.1<=3/\p.2.size<=maxLen
theorem RoleOk.key {p:Int×BA} (h:RoleOk p): ∃l,keyOf prog 182 (mkK p)=some l:=zvq p.1 p.2 (WalkArith.wf_i64 (by have:=h.1;have:=h.2.1;omega)) h.2.2
def cnt (L:List (Int×BA)) (p:Int×BA):Nat:=@List.count (Int×BA) instBEqOfDecidableEq p L
theorem zvr {L:List (Int×BA)} {p:Int×BA}:0<cnt L p↔p∈L:=zm5 L p
theorem zm7 (L:List (Int×BA)) (p:Int×BA):cnt L p<=L.length:=zvo L p
def CntW (w:World) (b:Nat) (L:List (Int×BA)):Prop:=∃es clock,w.heap[b]? =some (.map es clock)/\zdD mkK L es clock/\∀p∈L,RoleOk p
theorem CntW.lt {w:World} {b:Nat} {L:List (Int×BA)} (h:CntW w b L):b<w.heap.size:=by
 obtain⟨A,q,z,_⟩:=h;exact (aLt z)
theorem CntW.kept {w w':World} {b:Nat} {L:List (Int×BA)} (h:CntW w b L) (I:w'.heap[b]? =w.heap[b]?):CntW w' b L:=by
 obtain⟨H,q,A,z⟩:=h;exact⟨H,q,I.trans A,z⟩
theorem CntW.look {w:World} {b:Nat} {L:List (Int×BA)} (h:CntW w b L) {p:Int×BA} (A:RoleOk p):(Instr.lookup 139 (.map (some b)) (.agg #[.int .i64 p.1,.string p.2]) false).run prog w= .ok (.int .i64 (cnt L p:Nat)) w:=by
 obtain⟨N,q,I,J,K⟩:=h;obtain⟨l,H⟩:=A.key;exact ziD Tryz.keyed underlying139 (Tryz.zeroI w) zha J (fun z M=>(K z M).key) H I
theorem CntW.bump {W:World} {b:Nat} {L:List (Int×BA)} (h:CntW W b L) (p:Int×BA) (hp:RoleOk p):
  ∃(c:Nat) (v0:Value) (U:Nat) (O Wb:World),c<=L.length/\(Instr.lookup 139 (.map (some b)) (.agg #[.int .i64 p.1,.string p.2]) false).run prog W.drew= .ok (.int .i64 (c:Int)) W.drew/\
   (Instr.mapEntry 139 (.map (some b)) (.agg #[.int .i64 p.1,.string p.2])).run prog W.drew= .ok (.tuple #[v0,.int .i64 (U:Int)]) O/\
   (Instr.lookup 139 (.map (some b)) (.agg #[.int .i64 p.1,.string p.2]) false).run prog O= .ok (.int .i64 (c:Int)) O/\
   (Instr.entryStore 139 (.map (some b)) (.int .i64 (U:Int)) (.int .i64 ((c:Int)+1))).run prog O= .ok () Wb/\
   CntW Wb b (L++[p])/\W.grownBy Wb (some b):=by
 obtain⟨es,M,hb,hc,Y⟩:=h;obtain⟨l,hl⟩:=hp.key;have J:W.drew.heap[b]? =some (.map es M):=hb;obtain⟨v0,U,H,w,h1,h2,I,A,h3,h4⟩:=zvp Tryz.keyed underlying139 Tryz.zeroI zha hc (fun z hz=>(Y z hz).key) hl J;have V:(setBlock W.drew b (.map H w)).heap[b]? =some (.map H w):=(MapKept.heap_set J).1;have e2:(setBlock (setBlock W.drew b (.map H w)) b (.map I A)).heap[b]? =some (.map I A):=(MapKept.heap_set V).1;have Z:W.grownBy (setBlock (setBlock W.drew b (.map H w)) b (.map I A)) (some b):=by
  refine⟨rfl,rfl,rfl,by simp[setBlock],fun i _ X=>?_⟩;have K:i≠b:=fun e=>X (by rw[e]);exact ((MapKept.heap_set V).2 i K).trans ((MapKept.heap_set J).2 i K)
 refine⟨cnt L p,v0,U,_,_,zm7 L p,ziD Tryz.keyed underlying139 (Tryz.zeroI _) zha hc (fun z hz=>(Y z hz).key) hl J,h1,h2 _ V,h4 _ V,⟨I,A,e2,h3,fun q N=>?_⟩,Z⟩;rcases List.mem_append.1 N with N|N
 ·exact Y q N
 ·rw[List.mem_singleton.1 N];exact hp
theorem zfe (b:Nat) (L:List (Int×BA)) (r:Int) (n:BA) (w:World) (h:CntW w b L) (q:RoleOk (r,n)):
  Calls prog 139 #[.map (some b),.int .i64 r,.string n] w fun e w'=>e= .returned (.bool (decide (0<cnt L (r,n))))/\w'=w:=by
 have z:=h.look q;generalize cnt L (r,n)=c at z ⊢;clear h;go_enter func139,ntmps139;go_wp2;go_ret;exact⟨rfl,rfl⟩
end Go.Proofs.YtgcbmogmniahjaaGreat
