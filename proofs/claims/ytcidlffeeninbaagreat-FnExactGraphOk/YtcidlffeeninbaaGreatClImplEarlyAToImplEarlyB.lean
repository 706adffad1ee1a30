/-
  The map of impl.Early: what is known of its keys.
  The map of impl.Early: what a name has of a role,and one more of it.
-/
import Derived.DeepKeys4
import Derived.Test.YtcidlffeeninbaaGreatClMapCount
import Derived.Test.YtcidlffeeninbaaGreatClSpecTwiceToSpecEarlyA
namespace Go.Proofs.YtcidlffeeninbaaGreat
set_option maxRecDepth 100000
set_option maxHeartbeats 1600000
open Go.ChangeShapes Go.WideShapes
open Go.Maps (Keyed)
abbrev mkK (p:Int×ByteArray):Value:=.agg #[.int .i64 p.1,.string p.2]
theorem zgL (a b:Int×ByteArray) (h:mkK a=mkK b):a=b:=by
 simp only[mkK,Value.agg.injEq,Array.mk.injEq,List.cons.injEq,Value.int.injEq,Value.string.injEq,and_true,true_and] at h
 exact Prod.ext h.1 h.2
theorem Tryz.laidE:laidOutB Tryz.prog=true:=by kernel_rfl
theorem Tryz.rowE:(170:TypeId)<Tryz.prog.types.size:=of_decide_eq_true (by kernel_rfl)
theorem Tryz.wideE:(match Tryz.prog.underlying 170 with|some (.array _ _)|some (.struct _)=>true|_=>false)=true:=by rw[Tryz.underlying170]
theorem Tryz.keyE:WideMaps.KeyLaw Tryz.prog 170:=deep_law_laid Tryz.laidE (m:=2) (by omega) Tryz.rowE (by kernel_rfl) Tryz.wideE
theorem Tryz.keyed:Keyed Tryz.prog 170:=Keyed.of_law Tryz.keyE
theorem Tryz.zeroI (w:World):(zeroValue 3).run Tryz.prog w= .ok (.int .i64 0) w:=by kernel_rfl
theorem Tryz.deepE:Tryz.prog.keyType 170=true:=by kernel_rfl
theorem Tryz.cellsE:Tryz.prog.cellsOf 170=2:=by kernel_rfl
theorem Tryz.cellsEI:Tryz.prog.cellsOf 3=1:=by kernel_rfl
theorem Tryz.cellsES:Tryz.prog.cellsOf 9=1:=by kernel_rfl
theorem Tryz.manyE:2≤Tryz.prog.types.size:=of_decide_eq_true (by kernel_rfl)
theorem zu3 (r:Int) (s:ByteArray) (w:(Lit.int .i64 r).wf=true) (q:s.size≤maxLen): ∃l,keyOf Tryz.prog 170 (mkK (r,s))=some l:=by
 obtain⟨n,h⟩: ∃n,Tryz.prog.types.size+1=n+2:=⟨Tryz.prog.types.size-1,by have:=Tryz.manyE;omega⟩
 unfold keyOf
 rw[Tryz.underlying170]
 simp only[Tryz.deepE,h]
 simp[Value.formed,Tryz.underlying170,Tryz.cellsE,Tryz.cellsEI,Tryz.cellsES,Value.cells,Program.keyLits,Tryz.underlying3,Tryz.underlying9,w,q]
open Go.RowKit Go.PlainAid Go.Sort
open Go.ChangeMaps (setBlock)
def RoleOk (p:Int×ByteArray):Prop:=1≤p.1∧p.1≤3∧p.2.size≤maxLen
theorem RoleOk.key {p:Int×ByteArray} (h:RoleOk p): ∃l,keyOf Tryz.prog 170 (mkK p)=some l:=zu3 p.1 p.2 (WalkArith.wf_i64 (by have:=h.1;have:=h.2.1;omega)) h.2.2
def cnt (L:List (Int×ByteArray)) (p:Int×ByteArray):Nat:=@List.count (Int×ByteArray) instBEqOfDecidableEq p L
theorem zu4 {L:List (Int×ByteArray)} {p:Int×ByteArray}:0<cnt L p↔p∈L:=zlZ L p
theorem zmb (L:List (Int×ByteArray)) (p:Int×ByteArray):cnt L p≤L.length:=zu1 L p
def CntW (w:World) (b:Nat) (L:List (Int×ByteArray)):Prop:=∃es clock,w.heap[b]? =some (.map es clock)∧zd5 mkK L es clock∧∀p∈L,RoleOk p
theorem CntW.lt {w:World} {b:Nat} {L:List (Int×ByteArray)} (h:CntW w b L):b<w.heap.size:=by
 obtain⟨A,q,z,_⟩:=h
 exact (Array.getElem?_eq_some_iff.1 z).1
theorem CntW.kept {w z:World} {b:Nat} {L:List (Int×ByteArray)} (h:CntW w b L) (H:z.heap[b]? =w.heap[b]?):CntW z b L:=by
 obtain⟨A,q,D,E⟩:=h
 exact⟨A,q,H.trans D,E⟩
theorem CntW.look {w:World} {b:Nat} {L:List (Int×ByteArray)} (h:CntW w b L) {p:Int×ByteArray} (A:RoleOk p):(Instr.lookup 117 (.map (some b)) (.agg #[.int .i64 p.1,.string p.2]) false).run Tryz.prog w= .ok (.int .i64 (cnt L p:Nat)) w:=by
 obtain⟨K,q,H,E,J⟩:=h
 obtain⟨l,D⟩:=A.key
 exact zio Tryz.keyed Tryz.underlying117 (Tryz.zeroI w) zgL E (fun z I=>(J z I).key) D H
theorem CntW.bump {W:World} {b:Nat} {L:List (Int×ByteArray)} (h:CntW W b L) (p:Int×ByteArray) (hp:RoleOk p):
  ∃(c:Nat) (U:Value) (O:Nat) (M X:World),c≤L.length∧(Instr.lookup 117 (.map (some b)) (.agg #[.int .i64 p.1,.string p.2]) false).run Tryz.prog W.drew= .ok (.int .i64 (c:Int)) W.drew∧
   (Instr.mapEntry 117 (.map (some b)) (.agg #[.int .i64 p.1,.string p.2])).run Tryz.prog W.drew= .ok (.tuple #[U,.int .i64 (O:Int)]) M∧
   (Instr.lookup 117 (.map (some b)) (.agg #[.int .i64 p.1,.string p.2]) false).run Tryz.prog M= .ok (.int .i64 (c:Int)) M∧
   (Instr.entryStore 117 (.map (some b)) (.int .i64 (O:Int)) (.int .i64 ((c:Int)+1))).run Tryz.prog M= .ok () X∧
   CntW X b (L++[p])∧W.grownBy X (some b):=by
 obtain⟨es,J,hb,hc,hL⟩:=h
 obtain⟨l,hl⟩:=hp.key
 have D:W.drew.heap[b]? =some (.map es J):=hb
 obtain⟨U,O,E,w,h1,h2,H,A,h3,h4⟩:=zu2 Tryz.keyed Tryz.underlying117 Tryz.zeroI zgL hc (fun z V=>(hL z V).key) hl D
 have N:(setBlock W.drew b (.map E w)).heap[b]? =some (.map E w):=(MapKept.heap_set D).1
 have e2:(setBlock (setBlock W.drew b (.map E w)) b (.map H A)).heap[b]? =some (.map H A):=(MapKept.heap_set N).1
 have Y:W.grownBy (setBlock (setBlock W.drew b (.map E w)) b (.map H A)) (some b):=by
  refine⟨rfl,rfl,rfl,by simp[setBlock],fun i _ Z=>?_⟩
  have I:i≠b:=fun e=>Z (by rw[e])
  exact ((MapKept.heap_set N).2 i I).trans ((MapKept.heap_set D).2 i I)
 refine⟨cnt L p,U,O,_,_,zmb L p,zio Tryz.keyed Tryz.underlying117 (Tryz.zeroI _) zgL hc (fun z V=>(hL z V).key) hl D,h1,h2 _ N,h4 _ N,⟨H,A,e2,h3,fun q K=>?_⟩,Y⟩
 rcases List.mem_append.1 K with K|K
 ·exact hL q K
 ·rw[List.mem_singleton.1 K]
  exact hp
theorem zct (b:Nat) (L:List (Int×ByteArray)) (r:Int) (n:ByteArray) (w:World) (h:CntW w b L) (q:RoleOk (r,n)):
  Calls Tryz.prog 120 #[.map (some b),.int .i64 r,.string n] w fun e A=>e= .returned (.bool (decide (0<cnt L (r,n))))∧A=w:=by
 have z:=h.look q
 generalize cnt L (r,n)=c at z ⊢
 clear h
 go_enter Tryz.func120,Tryz.ntmps120
 go_wp2
 go_ret
 exact⟨rfl,rfl⟩
end Go.Proofs.YtcidlffeeninbaaGreat
