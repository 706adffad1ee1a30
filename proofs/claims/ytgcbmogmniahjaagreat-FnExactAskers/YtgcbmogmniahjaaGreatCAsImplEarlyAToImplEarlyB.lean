/-
  The map of impl.Early: what is known of its keys.
  The map of impl.Early: what a name has of a role,and one more of it.
-/
import Derived.DeepKeys4
import Derived.Test.YtgcbmogmniahjaaGreatCAsMapCount
import Derived.Test.YtgcbmogmniahjaaGreatCAsSpecTwiceToSpecEarlyA
namespace Go.Proofs.YtgcbmogmniahjaaGreat
set_option maxRecDepth 100000
set_option maxHeartbeats 1600000
open Go.ChangeShapes Go.WideShapes
open Go.Maps (Keyed)
abbrev mkK (p:Int×ByteArray):Value:=.agg #[.int .i64 p.1,.string p.2]
theorem zhk (a b:Int×ByteArray) (h:mkK a=mkK b):a=b:=by
 simp only[mkK,Value.agg.injEq,Array.mk.injEq,List.cons.injEq,Value.int.injEq,Value.string.injEq,and_true,true_and] at h
 exact Prod.ext h.1 h.2
theorem Tryz.laidE:laidOutB Tryz.prog=true:=by kernel_rfl
theorem Tryz.rowE:(182:TypeId)<Tryz.prog.types.size:=of_decide_eq_true (by kernel_rfl)
theorem Tryz.wideE:(match Tryz.prog.underlying 182 with|some (.array _ _)|some (.struct _)=>true|_=>false)=true:=by rw[Tryz.underlying182]
theorem Tryz.keyE:WideMaps.KeyLaw Tryz.prog 182:=deep_law_laid Tryz.laidE (m:=2) (by omega) Tryz.rowE (by kernel_rfl) Tryz.wideE
theorem Tryz.keyed:Keyed Tryz.prog 182:=Keyed.of_law Tryz.keyE
theorem Tryz.zeroI (w:World):(zeroValue 3).run Tryz.prog w= .ok (.int .i64 0) w:=by kernel_rfl
theorem Tryz.deepE:Tryz.prog.keyType 182=true:=by kernel_rfl
theorem Tryz.cellsE:Tryz.prog.cellsOf 182=2:=by kernel_rfl
theorem Tryz.cellsEI:Tryz.prog.cellsOf 3=1:=by kernel_rfl
theorem Tryz.cellsES:Tryz.prog.cellsOf 9=1:=by kernel_rfl
theorem Tryz.manyE:2≤Tryz.prog.types.size:=of_decide_eq_true (by kernel_rfl)
theorem zvC (r:Int) (s:ByteArray) (w:(Lit.int .i64 r).wf=true) (h:s.size≤maxLen): ∃l,keyOf Tryz.prog 182 (mkK (r,s))=some l:=by
 obtain⟨n,q⟩: ∃n,Tryz.prog.types.size+1=n+2:=⟨Tryz.prog.types.size-1,by have:=Tryz.manyE;omega⟩
 unfold keyOf
 rw[Tryz.underlying182]
 simp only[Tryz.deepE,q]
 simp[Value.formed,Tryz.underlying182,Tryz.cellsE,Tryz.cellsEI,Tryz.cellsES,Value.cells,Program.keyLits,Tryz.underlying3,Tryz.underlying9,w,h]
open Go.RowKit Go.PlainAid Go.Sort
open Go.ChangeMaps (setBlock)
def RoleOk (p:Int×ByteArray):Prop:=1≤p.1∧p.1≤3∧p.2.size≤maxLen
theorem RoleOk.key {p:Int×ByteArray} (h:RoleOk p): ∃l,keyOf Tryz.prog 182 (mkK p)=some l:=zvC p.1 p.2 (WalkArith.wf_i64 (by have:=h.1;have:=h.2.1;omega)) h.2.2
def cnt (L:List (Int×ByteArray)) (p:Int×ByteArray):Nat:=@List.count (Int×ByteArray) instBEqOfDecidableEq p L
theorem zvD {L:List (Int×ByteArray)} {p:Int×ByteArray}:0<cnt L p↔p∈L:=zmK L p
theorem zmM (L:List (Int×ByteArray)) (p:Int×ByteArray):cnt L p≤L.length:=zvA L p
def CntW (w:World) (b:Nat) (L:List (Int×ByteArray)):Prop:=∃es clock,w.heap[b]? =some (.map es clock)∧zdL mkK L es clock∧∀p∈L,RoleOk p
theorem CntW.lt {w:World} {b:Nat} {L:List (Int×ByteArray)} (h:CntW w b L):b<w.heap.size:=by
 obtain⟨A,q,z,_⟩:=h
 exact (Array.getElem?_eq_some_iff.1 z).1
theorem CntW.kept {w z:World} {b:Nat} {L:List (Int×ByteArray)} (h:CntW w b L) (H:z.heap[b]? =w.heap[b]?):CntW z b L:=by
 obtain⟨E,q,D,A⟩:=h
 exact⟨E,q,H.trans D,A⟩
theorem CntW.look {w:World} {b:Nat} {L:List (Int×ByteArray)} (h:CntW w b L) {p:Int×ByteArray} (A:RoleOk p):(Instr.lookup 139 (.map (some b)) (.agg #[.int .i64 p.1,.string p.2]) false).run Tryz.prog w= .ok (.int .i64 (cnt L p:Nat)) w:=by
 obtain⟨K,q,E,H,I⟩:=h
 obtain⟨l,D⟩:=A.key
 exact ziM Tryz.keyed Tryz.underlying139 (Tryz.zeroI w) zhk H (fun z J=>(I z J).key) D E
theorem CntW.bump {W:World} {b:Nat} {L:List (Int×ByteArray)} (h:CntW W b L) (p:Int×ByteArray) (hp:RoleOk p):
  ∃(c:Nat) (v0:Value) (N:Nat) (M Y:World),c≤L.length∧(Instr.lookup 139 (.map (some b)) (.agg #[.int .i64 p.1,.string p.2]) false).run Tryz.prog W.drew= .ok (.int .i64 (c:Int)) W.drew∧
   (Instr.mapEntry 139 (.map (some b)) (.agg #[.int .i64 p.1,.string p.2])).run Tryz.prog W.drew= .ok (.tuple #[v0,.int .i64 (N:Int)]) M∧
   (Instr.lookup 139 (.map (some b)) (.agg #[.int .i64 p.1,.string p.2]) false).run Tryz.prog M= .ok (.int .i64 (c:Int)) M∧
   (Instr.entryStore 139 (.map (some b)) (.int .i64 (N:Int)) (.int .i64 ((c:Int)+1))).run Tryz.prog M= .ok () Y∧
   CntW Y b (L++[p])∧W.grownBy Y (some b):=by
 obtain⟨es,J,hb,hc,V⟩:=h
 obtain⟨l,hl⟩:=hp.key
 have H:W.drew.heap[b]? =some (.map es J):=hb
 obtain⟨v0,N,D,w,h1,h2,E,A,h3,h4⟩:=zvB Tryz.keyed Tryz.underlying139 Tryz.zeroI zhk hc (fun z Z=>(V z Z).key) hl H
 have O:(setBlock W.drew b (.map D w)).heap[b]? =some (.map D w):=(MapKept.heap_set H).1
 have e2:(setBlock (setBlock W.drew b (.map D w)) b (.map E A)).heap[b]? =some (.map E A):=(MapKept.heap_set O).1
 have X:W.grownBy (setBlock (setBlock W.drew b (.map D w)) b (.map E A)) (some b):=by
  refine⟨rfl,rfl,rfl,by simp[setBlock],fun i _ U=>?_⟩
  have I:i≠b:=fun e=>U (by rw[e])
  exact ((MapKept.heap_set O).2 i I).trans ((MapKept.heap_set H).2 i I)
 refine⟨cnt L p,v0,N,_,_,zmM L p,ziM Tryz.keyed Tryz.underlying139 (Tryz.zeroI _) zhk hc (fun z Z=>(V z Z).key) hl H,h1,h2 _ O,h4 _ O,⟨E,A,e2,h3,fun q K=>?_⟩,X⟩
 rcases List.mem_append.1 K with K|K
 ·exact V q K
 ·rw[List.mem_singleton.1 K]
  exact hp
theorem zfo (b:Nat) (L:List (Int×ByteArray)) (r:Int) (n:ByteArray) (w:World) (h:CntW w b L) (q:RoleOk (r,n)):
  Calls Tryz.prog 139 #[.map (some b),.int .i64 r,.string n] w fun e A=>e= .returned (.bool (decide (0<cnt L (r,n))))∧A=w:=by
 have z:=h.look q
 generalize cnt L (r,n)=c at z ⊢
 clear h
 go_enter Tryz.func139,Tryz.ntmps139
 go_wp2
 go_ret
 exact⟨rfl,rfl⟩
end Go.Proofs.YtgcbmogmniahjaaGreat
