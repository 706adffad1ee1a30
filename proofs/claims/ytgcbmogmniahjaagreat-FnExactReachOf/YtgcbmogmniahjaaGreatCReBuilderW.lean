/-
 What a strings.Builder's copyCheck and WriteString answer in this program: the walks.
-/
import Derived.Test.YtgcbmogmniahjaaGreatCReModOkSpecToUpMath
import Derived.OwnWalk
import Derived.Deep.CutBlock
import Derived.Lib.Builder
import Derived.Lib.AppendStr
import Derived.Laws.Externs
namespace Go.Proofs.YtgcbmogmniahjaaGreat
set_option maxRecDepth 100000
set_option maxHeartbeats 2000000
open Go.RowKit Go.PlainAid Go.Sort
theorem zlI {w:World} {b c i:Nat} {u:Value} (h:b≠c):(w.setCell ⟨c,i,none⟩ u).heap[b]? =w.heap[b]?:=Below.heap_setCell w ⟨c,i,none⟩ u b h
theorem Tryz.sizeBld:(Tryz.prog.info? 175).map (·.size)=some 2:=by kernel_rfl
theorem Tryz.liesBld:liesAt Tryz.prog Tryz.prog.depth 175 (2/Tryz.prog.cellsOf 175) 0 175 1=true:=by kernel_rfl
theorem ztl (b:Nat) (w:World) (h:w.cell? ⟨b,0,none⟩=some (.pointer (some ⟨b,0,none⟩))):
  Calls Tryz.prog 164 #[.pointer (some ⟨b,0,none⟩)] w fun e q=>e= .returned (.tuple #[])∧q=w:=by
 obtain⟨j,z,_⟩:=Option.map_eq_some_iff.1 Tryz.sizeBld
 go_enter Tryz.func164,Tryz.ntmps164
 go_wp2
 rw[Lib.run_neq_ptr_same w _ Tryz.underlying173 z]
 go_wp2
 go_end0
 exact⟨rfl,rfl⟩
theorem ztm (b:Nat) (w:World) (E:w.cell? ⟨b,0,none⟩=some (.pointer none)) (h:w.shape? b=some (175,2)) (D:w.frozen? ⟨b,0,none⟩=false):
  Calls Tryz.prog 164 #[.pointer (some ⟨b,0,none⟩)] w fun e A=>e= .returned (.tuple #[])∧A=w.setCell ⟨b,0,none⟩ (.pointer (some ⟨b,0,none⟩)):=by
 obtain⟨j,z,q⟩:=Option.map_eq_some_iff.1 Tryz.sizeBld
 go_enter Tryz.func164,Tryz.ntmps164
 go_wp2
 rw[Lib.run_to_unsafe w ⟨b,0,none⟩ Tryz.underlying173 Tryz.underlying218 z (by rw[q];decide) h (Nat.zero_lt_succ 1)]
 simp only[Result.andThen]
 rw[Oper.upon_value]
 go_wp2
 rw[run_callFunc_extern Tryz.func182 (by kernel_rfl) (by kernel_rfl) (by kernel_rfl) (e:=Extern.AbiNoEscape.same) (by kernel_rfl)]
 rw[Lib.run_noEscape]
 simp only[Result.andThen]
 rw[Oper.upon_value]
 go_wp2
 rw[Lib.run_from_unsafe w ⟨b,0,none⟩ Tryz.underlying218 Tryz.underlying173 z h Tryz.liesBld]
 simp only[Result.andThen]
 rw[Oper.upon_value]
 go_wp2
 go_end0
 exact⟨rfl,rfl⟩
theorem ztn (B b:Nat) (z:List Value) (w:World) (h:Lib.IsBuilder 175 5 B b z w):
  Calls Tryz.prog 164 #[.pointer (some ⟨b,0,none⟩)] w fun e q=>e= .returned (.tuple #[])∧Lib.BuilderAt 175 5 B b (.pointer (some ⟨b,0,none⟩)) z q∧Below B w q∧∀k,k≠b→q.heap[k]? =w.heap[k]?:=by
 rcases h with h|h
 ·refine (ztm b w h.cell0 h.shape h.frozen0).mono ?_
  rintro e q ⟨rfl,rfl⟩
  exact⟨rfl,h.used _,(Below.refl B w).setCell (p:=⟨b,0,none⟩) h.1 _,fun k A=>zlI A⟩
 ·refine (ztl b w h.cell0).mono ?_
  rintro e q ⟨rfl,rfl⟩
  exact⟨rfl,h,Below.refl B _,fun k _=>rfl⟩
def zto (B b:Nat) (bs:List Value) (w w':World):Prop:=Lib.BuilderAt 175 5 B b (.pointer (some ⟨b,0,none⟩)) bs w'∧Below B w w'∧∀(k:Nat) (cur:Array Value) (t:TypeId) (fz:Nat×Nat),w.heap[k]? =some (.cells cur t fz)→k≠b→t≠5→w'.heap[k]? =w.heap[k]?
theorem Tryz.infoByte1:(Tryz.prog.info? 5).map (fun i=>(i.zero,i.size,i.bytes))=some (some (.int .u8 0),1,1):=by kernel_rfl
theorem ztp {w:World} {B k:Nat} {e:TypeId} {v:Value} {n:Nat} {xs:List Value} (h:w.ownsRow B e 1 v n xs) (q:some k=v.ownBlock): ∃c,w.heap[k]? =some (.cells c e (0,0)):=by
 rcases h.2 with ⟨A,_⟩|⟨g,D,z,A,_,E,_⟩
 ·rw[A] at q
  cases q
 ·rw[A] at q
  simp only[Value.ownBlock,Option.some.injEq] at q
  rw[q]
  exact⟨z,E⟩
theorem ztq (B b:Nat) (J:List Value) (s:ByteArray) (w:World) (h:Lib.IsBuilder 175 5 B b J w) (ac:J.length+s.size≤140737488355328) (ad:B≤w.heap.size):
  Calls Tryz.prog 131 #[.pointer (some ⟨b,0,none⟩),.string s] w fun e w'=>e= .returned (.tuple #[.int .i64 s.size,.nilIface])∧zto B b (J++Lib.strCells s) w w':=by
 obtain⟨i0,hi,Y,Z,aa⟩:=info_parts Tryz.infoByte1
 go_enter Tryz.func131,Tryz.ntmps131
 go_wp2_with fail
 refine (ztn B b J _ h).mono ?_
 rintro e O ⟨rfl,h1,I,X⟩
 obtain⟨hB,v,D,z,V⟩:=h1
 have c0:O.cell? ⟨b,0,none⟩=some (.pointer (some ⟨b,0,none⟩)):=by rw[Lib.cell_of_heap D];rfl
 have c1:O.cell? ⟨b,1,none⟩=some v:=by rw[Lib.cell_of_heap D];rfl
 go_wp2_with (at_builtin;refine Lib.wpList_append_own_string _ rfl _ _ 147 9 rfl B 5 i0 Tryz.underlying147 Tryz.underlying9 hi Y Z aa _ _ _ rfl z s rfl ?c3 ?c4 ?c5 ?_)
 case c3=>unfold maxLen;omega
 case c4=>omega
 case c5=>have:=I.size;omega
 intro v' N A q _
 have U:b<O.heap.size:=(Array.getElem?_eq_some_iff.1 D).1
 have E:N.heap[b]? =some (.cells #[.pointer (some ⟨b,0,none⟩),v] 175 (0,0)):=(q.block b U (fun e=>V e.symm)).trans D
 have d0:N.cell? ⟨b,0,none⟩=some (.pointer (some ⟨b,0,none⟩)):=by rw[Lib.cell_of_heap E];rfl
 have d1:N.cell? ⟨b,1,none⟩=some v:=by rw[Lib.cell_of_heap E];rfl
 have f1:N.frozen? ⟨b,1,none⟩=false:=Lib.frozen_of_heap E 1
 obtain⟨ao,n',H,rfl⟩: ∃ao n' H,v'= .slice ao n' H:=by
  rcases A.2 with ⟨L,_⟩|⟨g,H,ab,L,_⟩
  ·exact⟨_,_,_,L⟩
  ·exact⟨_,_,_,L⟩
 go_wp2
 go_ret2
 refine⟨rfl,Lib.BuilderAt.put (T:=175) (e:=5) hB E (bs':=J++Lib.strCells s) (by simpa [Lib.strCells_length] using A) (by decide),(I.grown q (by have:=I.size;omega) (fun k M=>(z.lt k M).1)).setCell (p:=⟨b,1,none⟩) hB _,?_⟩
 intro k ab t fz M K ht
 have e1:=X k K
 rw[zlI K,q.block k (Array.getElem?_eq_some_iff.1 (e1.trans M)).1 ?_,e1]
 intro L
 obtain⟨c,hc⟩:=ztp z L
 rw[e1,M] at hc
 simp only[Option.some.injEq,Obj.cells.injEq] at hc
 exact ht hc.2.1
end Go.Proofs.YtgcbmogmniahjaaGreat