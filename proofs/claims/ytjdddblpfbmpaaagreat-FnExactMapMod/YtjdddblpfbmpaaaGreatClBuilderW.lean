/-
 What a strings.Builder's copyCheck and WriteString answer in this program: the walks.
-/
import Derived.Test.YtjdddblpfbmpaaaGreatClTwoModToLawMark
import Derived.Below
import Derived.OwnWalk
import Derived.Deep.CutBlock
import Derived.Lib.Builder
import Derived.Lib.AppendStr
import Derived.Laws.Externs
namespace Go.Proofs.YtjdddblpfbmpaaaGreat
set_option maxRecDepth 100000
set_option maxHeartbeats 2000000
open Go.RowKit Go.PlainAid Go.Sort
theorem zk9 {w:World} {b c i:Nat} {u:Value} (h:b≠c):(w.setCell ⟨c,i,none⟩ u).heap[b]? =w.heap[b]?:=Below.heap_setCell w ⟨c,i,none⟩ u b h
theorem Tryz.sizeBld:(Tryz.prog.info? 163).map (·.size)=some 2:=by kernel_rfl
theorem Tryz.liesBld:liesAt Tryz.prog Tryz.prog.depth 163 (2/Tryz.prog.cellsOf 163) 0 163 1=true:=by kernel_rfl
theorem zsd (b:Nat) (w:World) (h:w.cell? ⟨b,0,none⟩=some (.pointer (some ⟨b,0,none⟩))):
  Calls Tryz.prog 170 #[.pointer (some ⟨b,0,none⟩)] w fun e w'=>e= .returned (.tuple #[])∧w'=w:=by
 obtain⟨j,z,_⟩:=Option.map_eq_some_iff.1 Tryz.sizeBld
 go_enter Tryz.func170,Tryz.ntmps170
 go_wp2
 rw[Lib.run_neq_ptr_same w _ Tryz.underlying161 z]
 go_wp2
 go_end0
 exact⟨rfl,rfl⟩
theorem zse (b:Nat) (w:World) (I:w.cell? ⟨b,0,none⟩=some (.pointer none)) (h:w.shape? b=some (163,2)) (H:w.frozen? ⟨b,0,none⟩=false):
  Calls Tryz.prog 170 #[.pointer (some ⟨b,0,none⟩)] w fun e w'=>e= .returned (.tuple #[])∧w'=w.setCell ⟨b,0,none⟩ (.pointer (some ⟨b,0,none⟩)):=by
 obtain⟨j,A,z⟩:=Option.map_eq_some_iff.1 Tryz.sizeBld
 go_enter Tryz.func170,Tryz.ntmps170
 go_wp2
 rw[Lib.run_to_unsafe w ⟨b,0,none⟩ Tryz.underlying161 Tryz.underlying213 A (by rw[z];decide) h (Nat.zero_lt_succ 1)]
 simp only[Result.andThen]
 rw[Oper.upon_value]
 go_wp2
 rw[run_callFunc_extern Tryz.func199 (by kernel_rfl) (by kernel_rfl) (by kernel_rfl) (e:=Extern.AbiNoEscape.same) (by kernel_rfl)]
 rw[Lib.run_noEscape]
 simp only[Result.andThen]
 rw[Oper.upon_value]
 go_wp2
 rw[Lib.run_from_unsafe w ⟨b,0,none⟩ Tryz.underlying213 Tryz.underlying161 A h Tryz.liesBld]
 simp only[Result.andThen]
 rw[Oper.upon_value]
 go_wp2
 go_end0
 exact⟨rfl,rfl⟩
theorem zsf (B b:Nat) (j:List Value) (w:World) (h:Lib.IsBuilder 163 5 B b j w):
  Calls Tryz.prog 170 #[.pointer (some ⟨b,0,none⟩)] w fun e w'=>e= .returned (.tuple #[])∧Lib.BuilderAt 163 5 B b (.pointer (some ⟨b,0,none⟩)) j w'∧Below B w w'∧∀k,k≠b→w'.heap[k]? =w.heap[k]?:=by
 rcases h with h|h
 ·refine (zse b w h.cell0 h.shape h.frozen0).mono ?_
  rintro e w' ⟨rfl,rfl⟩
  exact⟨rfl,h.used _,(Below.refl B w).setCell (p:=⟨b,0,none⟩) h.1 _,fun k z=>zk9 z⟩
 ·refine (zsd b w h.cell0).mono ?_
  rintro e w' ⟨rfl,rfl⟩
  exact⟨rfl,h,Below.refl B _,fun k _=>rfl⟩
def zsg (B b:Nat) (bs:List Value) (w w':World):Prop:=Lib.BuilderAt 163 5 B b (.pointer (some ⟨b,0,none⟩)) bs w'∧Below B w w'∧∀(k:Nat) (cur:Array Value) (t:TypeId) (fz:Nat×Nat),w.heap[k]? =some (.cells cur t fz)→k≠b→t≠5→w'.heap[k]? =w.heap[k]?
theorem Tryz.infoByte1:(Tryz.prog.info? 5).map (fun i=>(i.zero,i.size,i.bytes))=some (some (.int .u8 0),1,1):=by kernel_rfl
theorem zsh {w:World} {B k:Nat} {e:TypeId} {v:Value} {n:Nat} {xs:List Value} (h:w.ownsRow B e 1 v n xs) (j:some k=v.ownBlock): ∃c,w.heap[k]? =some (.cells c e (0,0)):=by
 rcases h.2 with ⟨A,_⟩|⟨g,H,z,A,_,I,_⟩
 ·rw[A] at j
  cases j
 ·rw[A] at j
  simp only[Value.ownBlock,Option.some.injEq] at j
  rw[j]
  exact⟨z,I⟩
theorem zsi (B b:Nat) (M:List Value) (s:ByteArray) (w:World) (h:Lib.IsBuilder 163 5 B b M w) (af:M.length+s.size≤140737488355328) (ag:B≤w.heap.size):
  Calls Tryz.prog 123 #[.pointer (some ⟨b,0,none⟩),.string s] w fun e w'=>e= .returned (.tuple #[.int .i64 s.size,.nilIface])∧zsg B b (M++Lib.strCells s) w w':=by
 obtain⟨i0,hi,ab,ac,ad⟩:=info_parts Tryz.infoByte1
 go_enter Tryz.func123,Tryz.ntmps123
 go_wp2_with fail
 refine (zsf B b M _ h).mono ?_
 rintro e X ⟨rfl,h1,L,aa⟩
 obtain⟨hB,v,H,z,Z⟩:=h1
 have c0:X.cell? ⟨b,0,none⟩=some (.pointer (some ⟨b,0,none⟩)):=by rw[Lib.cell_of_heap H];rfl
 have c1:X.cell? ⟨b,1,none⟩=some v:=by rw[Lib.cell_of_heap H];rfl
 go_wp2_with (at_builtin;refine Lib.wpList_append_own_string _ rfl _ _ 50 9 rfl B 5 i0 Tryz.underlying50 Tryz.underlying9 hi ab ac ad _ _ _ rfl z s rfl ?c3 ?c4 ?c5 ?_)
 case c3=>unfold maxLen;omega
 case c4=>omega
 case c5=>have:=L.size;omega
 intro v' V A j _
 have Y:b<X.heap.size:=(Array.getElem?_eq_some_iff.1 H).1
 have I:V.heap[b]? =some (.cells #[.pointer (some ⟨b,0,none⟩),v] 163 (0,0)):=(j.block b Y (fun e=>Z e.symm)).trans H
 have d0:V.cell? ⟨b,0,none⟩=some (.pointer (some ⟨b,0,none⟩)):=by rw[Lib.cell_of_heap I];rfl
 have d1:V.cell? ⟨b,1,none⟩=some v:=by rw[Lib.cell_of_heap I];rfl
 have f1:V.frozen? ⟨b,1,none⟩=false:=Lib.frozen_of_heap I 1
 obtain⟨ao,n',J,rfl⟩: ∃ao n' J,v'= .slice ao n' J:=by
  rcases A.2 with ⟨O,_⟩|⟨g,J,ae,O,_⟩
  ·exact⟨_,_,_,O⟩
  ·exact⟨_,_,_,O⟩
 go_wp2
 go_ret2
 refine⟨rfl,Lib.BuilderAt.put (T:=163) (e:=5) hB I (bs':=M++Lib.strCells s) (by simpa [Lib.strCells_length] using A) (by decide),(L.grown j (by have:=L.size;omega) (fun k U=>(z.lt k U).1)).setCell (p:=⟨b,1,none⟩) hB _,?_⟩
 intro k ae t fz U N ht
 have e1:=aa k N
 rw[zk9 N,j.block k (Array.getElem?_eq_some_iff.1 (e1.trans U)).1 ?_,e1]
 intro O
 obtain⟨c,hc⟩:=zsh z O
 rw[e1,U] at hc
 simp only[Option.some.injEq,Obj.cells.injEq] at hc
 exact ht hc.2.1
end Go.Proofs.YtjdddblpfbmpaaaGreat