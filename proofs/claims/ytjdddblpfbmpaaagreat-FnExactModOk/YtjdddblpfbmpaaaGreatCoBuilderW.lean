/-
 What a strings.Builder's copyCheck and WriteString answer in this program: the walks.
-/
import Derived.Test.YtjdddblpfbmpaaaGreatCoImplTreeToUpMath
import Derived.Below
import Derived.OwnWalk
import Derived.Deep.CutBlock
import Derived.Lib.Builder
import Derived.Lib.AppendStr
import Derived.Laws.Externs
namespace Go.Proofs.YtjdddblpfbmpaaaGreat
set_option maxRecDepth 100000
set_option maxHeartbeats 2000000
open Go.RowKit Go.PlainAid Go.Sort
theorem zhZ {w:World} {b c i:Nat} {u:Value} (h:b≠c):(w.setCell ⟨c,i,none⟩ u).heap[b]? =w.heap[b]?:=Below.heap_setCell w ⟨c,i,none⟩ u b h
theorem Tryz.sizeBld:(Tryz.prog.info? 163).map (·.size)=some 2:=by kernel_rfl
theorem Tryz.liesBld:liesAt Tryz.prog Tryz.prog.depth 163 (2/Tryz.prog.cellsOf 163) 0 163 1=true:=by kernel_rfl
theorem zmw (b:Nat) (w:World) (h:w.cell? ⟨b,0,none⟩=some (.pointer (some ⟨b,0,none⟩))):
  Calls Tryz.prog 170 #[.pointer (some ⟨b,0,none⟩)] w fun e q=>e= .returned (.tuple #[])∧q=w:=by
 obtain⟨j,n,_⟩:=Option.map_eq_some_iff.1 Tryz.sizeBld
 go_enter Tryz.func170,Tryz.ntmps170
 go_wp2
 rw[Lib.run_neq_ptr_same w _ Tryz.underlying161 n]
 go_wp2
 go_end0
 exact⟨rfl,rfl⟩
theorem zmx (b:Nat) (w:World) (D:w.cell? ⟨b,0,none⟩=some (.pointer none)) (h:w.shape? b=some (163,2)) (A:w.frozen? ⟨b,0,none⟩=false):
  Calls Tryz.prog 170 #[.pointer (some ⟨b,0,none⟩)] w fun e z=>e= .returned (.tuple #[])∧z=w.setCell ⟨b,0,none⟩ (.pointer (some ⟨b,0,none⟩)):=by
 obtain⟨j,q,n⟩:=Option.map_eq_some_iff.1 Tryz.sizeBld
 go_enter Tryz.func170,Tryz.ntmps170
 go_wp2
 rw[Lib.run_to_unsafe w ⟨b,0,none⟩ Tryz.underlying161 Tryz.underlying213 q (by rw[n];decide) h (Nat.zero_lt_succ 1)]
 simp only[Result.andThen]
 rw[Oper.upon_value]
 go_wp2
 rw[run_callFunc_extern Tryz.func199 (by kernel_rfl) (by kernel_rfl) (by kernel_rfl) (e:=Extern.AbiNoEscape.same) (by kernel_rfl)]
 rw[Lib.run_noEscape]
 simp only[Result.andThen]
 rw[Oper.upon_value]
 go_wp2
 rw[Lib.run_from_unsafe w ⟨b,0,none⟩ Tryz.underlying213 Tryz.underlying161 q h Tryz.liesBld]
 simp only[Result.andThen]
 rw[Oper.upon_value]
 go_wp2
 go_end0
 exact⟨rfl,rfl⟩
theorem zmy (B b:Nat) (n:List Value) (w:World) (h:Lib.IsBuilder 163 5 B b n w):
  Calls Tryz.prog 170 #[.pointer (some ⟨b,0,none⟩)] w fun e j=>e= .returned (.tuple #[])∧Lib.BuilderAt 163 5 B b (.pointer (some ⟨b,0,none⟩)) n j∧Below B w j∧∀k,k≠b→j.heap[k]? =w.heap[k]?:=by
 rcases h with h|h
 ·refine (zmx b w h.cell0 h.shape h.frozen0).mono ?_
  rintro e j ⟨rfl,rfl⟩
  exact⟨rfl,h.used _,(Below.refl B w).setCell (p:=⟨b,0,none⟩) h.1 _,fun k q=>zhZ q⟩
 ·refine (zmw b w h.cell0).mono ?_
  rintro e j ⟨rfl,rfl⟩
  exact⟨rfl,h,Below.refl B _,fun k _=>rfl⟩
def zmz (B b:Nat) (bs:List Value) (w w':World):Prop:=Lib.BuilderAt 163 5 B b (.pointer (some ⟨b,0,none⟩)) bs w'∧Below B w w'∧∀(k:Nat) (cur:Array Value) (t:TypeId) (fz:Nat×Nat),w.heap[k]? =some (.cells cur t fz)→k≠b→t≠5→w'.heap[k]? =w.heap[k]?
theorem Tryz.infoByte1:(Tryz.prog.info? 5).map (fun i=>(i.zero,i.size,i.bytes))=some (some (.int .u8 0),1,1):=by kernel_rfl
theorem zm0 {w:World} {B k:Nat} {e:TypeId} {v:Value} {n:Nat} {xs:List Value} (h:w.ownsRow B e 1 v n xs) (j:some k=v.ownBlock): ∃c,w.heap[k]? =some (.cells c e (0,0)):=by
 rcases h.2 with ⟨z,_⟩|⟨g,A,q,z,_,D,_⟩
 ·rw[z] at j
  cases j
 ·rw[z] at j
  simp only[Value.ownBlock,Option.some.injEq] at j
  rw[j]
  exact⟨q,D⟩
theorem zm1 (B b:Nat) (H:List Value) (s:ByteArray) (w:World) (h:Lib.IsBuilder 163 5 B b H w) (aa:H.length+s.size≤140737488355328) (ab:B≤w.heap.size):
  Calls Tryz.prog 123 #[.pointer (some ⟨b,0,none⟩),.string s] w fun e w'=>e= .returned (.tuple #[.int .i64 s.size,.nilIface])∧zmz B b (H++Lib.strCells s) w w':=by
 obtain⟨i0,hi,V,X,Y⟩:=info_parts Tryz.infoByte1
 go_enter Tryz.func123,Tryz.ntmps123
 go_wp2_with fail
 refine (zmy B b H _ h).mono ?_
 rintro e M ⟨rfl,h1,E,U⟩
 obtain⟨hB,v,z,n,O⟩:=h1
 have c0:M.cell? ⟨b,0,none⟩=some (.pointer (some ⟨b,0,none⟩)):=by rw[Lib.cell_of_heap z];rfl
 have c1:M.cell? ⟨b,1,none⟩=some v:=by rw[Lib.cell_of_heap z];rfl
 go_wp2_with (at_builtin;refine Lib.wpList_append_own_string _ rfl _ _ 50 9 rfl B 5 i0 Tryz.underlying50 Tryz.underlying9 hi V X Y _ _ _ rfl n s rfl ?c3 ?c4 ?c5 ?_)
 case c3=>unfold maxLen;omega
 case c4=>omega
 case c5=>have:=E.size;omega
 intro v' L q j _
 have N:b<M.heap.size:=(Array.getElem?_eq_some_iff.1 z).1
 have A:L.heap[b]? =some (.cells #[.pointer (some ⟨b,0,none⟩),v] 163 (0,0)):=(j.block b N (fun e=>O e.symm)).trans z
 have d0:L.cell? ⟨b,0,none⟩=some (.pointer (some ⟨b,0,none⟩)):=by rw[Lib.cell_of_heap A];rfl
 have d1:L.cell? ⟨b,1,none⟩=some v:=by rw[Lib.cell_of_heap A];rfl
 have f1:L.frozen? ⟨b,1,none⟩=false:=Lib.frozen_of_heap A 1
 obtain⟨ao,n',D,rfl⟩: ∃ao n' D,v'= .slice ao n' D:=by
  rcases q.2 with ⟨J,_⟩|⟨g,D,Z,J,_⟩
  ·exact⟨_,_,_,J⟩
  ·exact⟨_,_,_,J⟩
 go_wp2
 go_ret2
 refine⟨rfl,Lib.BuilderAt.put (T:=163) (e:=5) hB A (bs':=H++Lib.strCells s) (by simpa [Lib.strCells_length] using q) (by decide),(E.grown j (by have:=E.size;omega) (fun k K=>(n.lt k K).1)).setCell (p:=⟨b,1,none⟩) hB _,?_⟩
 intro k Z t fz K I ht
 have e1:=U k I
 rw[zhZ I,j.block k (Array.getElem?_eq_some_iff.1 (e1.trans K)).1 ?_,e1]
 intro J
 obtain⟨c,hc⟩:=zm0 n J
 rw[e1,K] at hc
 simp only[Option.some.injEq,Obj.cells.injEq] at hc
 exact ht hc.2.1
end Go.Proofs.YtjdddblpfbmpaaaGreat