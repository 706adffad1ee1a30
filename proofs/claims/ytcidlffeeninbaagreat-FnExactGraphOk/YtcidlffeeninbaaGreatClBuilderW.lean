/-
 What a strings.Builder's copyCheck and WriteString answer in this program: the walks.
-/
import Derived.Test.YtcidlffeeninbaaGreatClModOkSpecToUpMath
import Derived.OwnWalk
import Derived.Deep.CutBlock
import Derived.Lib.Builder
import Derived.Lib.AppendStr
import Derived.Laws.Externs
namespace Go.Proofs.YtcidlffeeninbaaGreat
set_option maxRecDepth 100000
set_option maxHeartbeats 2000000
open Go.RowKit Go.PlainAid Go.Sort
theorem zkX {w:World} {b c i:Nat} {u:Value} (h:b≠c):(w.setCell ⟨c,i,none⟩ u).heap[b]? =w.heap[b]?:=Below.heap_setCell w ⟨c,i,none⟩ u b h
theorem Tryz.sizeBld:(Tryz.prog.info? 154).map (·.size)=some 2:=by kernel_rfl
theorem Tryz.liesBld:liesAt Tryz.prog Tryz.prog.depth 154 (2/Tryz.prog.cellsOf 154) 0 154 1=true:=by kernel_rfl
theorem zse (b:Nat) (w:World) (h:w.cell? ⟨b,0,none⟩=some (.pointer (some ⟨b,0,none⟩))):
  Calls Tryz.prog 143 #[.pointer (some ⟨b,0,none⟩)] w fun e q=>e= .returned (.tuple #[])∧q=w:=by
 obtain⟨j,z,_⟩:=Option.map_eq_some_iff.1 Tryz.sizeBld
 go_enter Tryz.func143,Tryz.ntmps143
 go_wp2
 rw[Lib.run_neq_ptr_same w _ Tryz.underlying151 z]
 go_wp2
 go_end0
 exact⟨rfl,rfl⟩
theorem zsf (b:Nat) (w:World) (E:w.cell? ⟨b,0,none⟩=some (.pointer none)) (h:w.shape? b=some (154,2)) (A:w.frozen? ⟨b,0,none⟩=false):
  Calls Tryz.prog 143 #[.pointer (some ⟨b,0,none⟩)] w fun e D=>e= .returned (.tuple #[])∧D=w.setCell ⟨b,0,none⟩ (.pointer (some ⟨b,0,none⟩)):=by
 obtain⟨j,z,q⟩:=Option.map_eq_some_iff.1 Tryz.sizeBld
 go_enter Tryz.func143,Tryz.ntmps143
 go_wp2
 rw[Lib.run_to_unsafe w ⟨b,0,none⟩ Tryz.underlying151 Tryz.underlying205 z (by rw[q];decide) h (Nat.zero_lt_succ 1)]
 simp only[Result.andThen]
 rw[Oper.upon_value]
 go_wp2
 rw[run_callFunc_extern Tryz.func169 (by kernel_rfl) (by kernel_rfl) (by kernel_rfl) (e:=Extern.AbiNoEscape.same) (by kernel_rfl)]
 rw[Lib.run_noEscape]
 simp only[Result.andThen]
 rw[Oper.upon_value]
 go_wp2
 rw[Lib.run_from_unsafe w ⟨b,0,none⟩ Tryz.underlying205 Tryz.underlying151 z h Tryz.liesBld]
 simp only[Result.andThen]
 rw[Oper.upon_value]
 go_wp2
 go_end0
 exact⟨rfl,rfl⟩
theorem zsg (B b:Nat) (z:List Value) (w:World) (h:Lib.IsBuilder 154 5 B b z w):
  Calls Tryz.prog 143 #[.pointer (some ⟨b,0,none⟩)] w fun e q=>e= .returned (.tuple #[])∧Lib.BuilderAt 154 5 B b (.pointer (some ⟨b,0,none⟩)) z q∧Below B w q∧∀k,k≠b→q.heap[k]? =w.heap[k]?:=by
 rcases h with h|h
 ·refine (zsf b w h.cell0 h.shape h.frozen0).mono ?_
  rintro e q ⟨rfl,rfl⟩
  exact⟨rfl,h.used _,(Below.refl B w).setCell (p:=⟨b,0,none⟩) h.1 _,fun k A=>zkX A⟩
 ·refine (zse b w h.cell0).mono ?_
  rintro e q ⟨rfl,rfl⟩
  exact⟨rfl,h,Below.refl B _,fun k _=>rfl⟩
def zsh (B b:Nat) (bs:List Value) (w w':World):Prop:=Lib.BuilderAt 154 5 B b (.pointer (some ⟨b,0,none⟩)) bs w'∧Below B w w'∧∀(k:Nat) (cur:Array Value) (t:TypeId) (fz:Nat×Nat),w.heap[k]? =some (.cells cur t fz)→k≠b→t≠5→w'.heap[k]? =w.heap[k]?
theorem Tryz.infoByte1:(Tryz.prog.info? 5).map (fun i=>(i.zero,i.size,i.bytes))=some (some (.int .u8 0),1,1):=by kernel_rfl
theorem zsi {w:World} {B k:Nat} {e:TypeId} {v:Value} {n:Nat} {xs:List Value} (h:w.ownsRow B e 1 v n xs) (q:some k=v.ownBlock): ∃c,w.heap[k]? =some (.cells c e (0,0)):=by
 rcases h.2 with ⟨z,_⟩|⟨g,E,A,z,_,D,_⟩
 ·rw[z] at q
  cases q
 ·rw[z] at q
  simp only[Value.ownBlock,Option.some.injEq] at q
  rw[q]
  exact⟨A,D⟩
theorem zsj (B b:Nat) (K:List Value) (s:ByteArray) (w:World) (h:Lib.IsBuilder 154 5 B b K w) (ab:K.length+s.size≤140737488355328) (ac:B≤w.heap.size):
  Calls Tryz.prog 104 #[.pointer (some ⟨b,0,none⟩),.string s] w fun e w'=>e= .returned (.tuple #[.int .i64 s.size,.nilIface])∧zsh B b (K++Lib.strCells s) w w':=by
 obtain⟨i0,hi,Z,Y,X⟩:=info_parts Tryz.infoByte1
 go_enter Tryz.func104,Tryz.ntmps104
 go_wp2_with fail
 refine (zsg B b K _ h).mono ?_
 rintro e w1 ⟨rfl,h1,I,V⟩
 obtain⟨hB,v,D,z,aa⟩:=h1
 have c0:w1.cell? ⟨b,0,none⟩=some (.pointer (some ⟨b,0,none⟩)):=by rw[Lib.cell_of_heap D];rfl
 have c1:w1.cell? ⟨b,1,none⟩=some v:=by rw[Lib.cell_of_heap D];rfl
 go_wp2_with (at_builtin;refine Lib.wpList_append_own_string _ rfl _ _ 152 9 rfl B 5 i0 Tryz.underlying152 Tryz.underlying9 hi Z Y X _ _ _ rfl z s rfl ?c3 ?c4 ?c5 ?_)
 case c3=>unfold maxLen;omega
 case c4=>omega
 case c5=>have:=I.size;omega
 intro v' M A q _
 have U:b<w1.heap.size:=(Array.getElem?_eq_some_iff.1 D).1
 have E:M.heap[b]? =some (.cells #[.pointer (some ⟨b,0,none⟩),v] 154 (0,0)):=(q.block b U (fun e=>aa e.symm)).trans D
 have d0:M.cell? ⟨b,0,none⟩=some (.pointer (some ⟨b,0,none⟩)):=by rw[Lib.cell_of_heap E];rfl
 have d1:M.cell? ⟨b,1,none⟩=some v:=by rw[Lib.cell_of_heap E];rfl
 have f1:M.frozen? ⟨b,1,none⟩=false:=Lib.frozen_of_heap E 1
 obtain⟨ao,n',H,rfl⟩: ∃ao n' H,v'= .slice ao n' H:=by
  rcases A.2 with ⟨J,_⟩|⟨g,H,O,J,_⟩
  ·exact⟨_,_,_,J⟩
  ·exact⟨_,_,_,J⟩
 go_wp2
 go_ret2
 refine⟨rfl,Lib.BuilderAt.put (T:=154) (e:=5) hB E (bs':=K++Lib.strCells s) (by simpa [Lib.strCells_length] using A) (by decide),(I.grown q (by have:=I.size;omega) (fun k N=>(z.lt k N).1)).setCell (p:=⟨b,1,none⟩) hB _,?_⟩
 intro k O t fz N L ht
 have e1:=V k L
 rw[zkX L,q.block k (Array.getElem?_eq_some_iff.1 (e1.trans N)).1 ?_,e1]
 intro J
 obtain⟨c,hc⟩:=zsi z J
 rw[e1,N] at hc
 simp only[Option.some.injEq,Obj.cells.injEq] at hc
 exact ht hc.2.1
end Go.Proofs.YtcidlffeeninbaaGreat