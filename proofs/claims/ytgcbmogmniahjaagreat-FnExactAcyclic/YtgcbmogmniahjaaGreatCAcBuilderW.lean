/-
 What a strings.Builder's copyCheck and WriteString answer in this program: the walks.
-/
import Derived.Test.YtgcbmogmniahjaaGreatCAcModOkSpecToUpMath
import Derived.OwnWalk
import Derived.Deep.CutBlock
import Derived.Lib.Builder
import Derived.Lib.AppendStr
import Derived.Laws.Externs
namespace Go.Proofs.YtgcbmogmniahjaaGreat
set_option maxRecDepth 100000
set_option maxHeartbeats 2000000
open Go.RowKit Go.PlainAid Go.Sort
theorem zl3 {w:World} {b c i:Nat} {u:Value} (h:b≠c):(w.setCell ⟨c,i,none⟩ u).heap[b]? =w.heap[b]?:=Below.heap_setCell w ⟨c,i,none⟩ u b h
theorem Tryz.sizeBld:(Tryz.prog.info? 175).map (·.size)=some 2:=by kernel_rfl
theorem Tryz.liesBld:liesAt Tryz.prog Tryz.prog.depth 175 (2/Tryz.prog.cellsOf 175) 0 175 1=true:=by kernel_rfl
theorem zsP (b:Nat) (w:World) (h:w.cell? ⟨b,0,none⟩=some (.pointer (some ⟨b,0,none⟩))):
  Calls Tryz.prog 164 #[.pointer (some ⟨b,0,none⟩)] w fun e w'=>e= .returned (.tuple #[])∧w'=w:=by
 obtain⟨j,q,_⟩:=Option.map_eq_some_iff.1 Tryz.sizeBld
 go_enter Tryz.func164,Tryz.ntmps164
 go_wp2
 rw[Lib.run_neq_ptr_same w _ Tryz.underlying173 q]
 go_wp2
 go_end0
 exact⟨rfl,rfl⟩
theorem zsQ (b:Nat) (w:World) (H:w.cell? ⟨b,0,none⟩=some (.pointer none)) (h:w.shape? b=some (175,2)) (A:w.frozen? ⟨b,0,none⟩=false):
  Calls Tryz.prog 164 #[.pointer (some ⟨b,0,none⟩)] w fun e w'=>e= .returned (.tuple #[])∧w'=w.setCell ⟨b,0,none⟩ (.pointer (some ⟨b,0,none⟩)):=by
 obtain⟨j,z,q⟩:=Option.map_eq_some_iff.1 Tryz.sizeBld
 go_enter Tryz.func164,Tryz.ntmps164
 go_wp2
 rw[Lib.run_to_unsafe w ⟨b,0,none⟩ Tryz.underlying173 Tryz.underlying218 z (by rw[q];decide) h (Nat.zero_lt_succ 1)]
 simp only[Result.andThen]
 rw[Oper.upon_value]
 go_wp2
 rw[run_callFunc_extern Tryz.func182 (by kernel_rfl) (by kernel_rfl) (by kernel_rfl) (e:=Extern.AbiNoEscape.same) (by kernel_rfl)]
 rw[Lib.run_noEscape]
 simp only[Result.andThen]
 rw[Oper.upon_value]
 go_wp2
 rw[Lib.run_from_unsafe w ⟨b,0,none⟩ Tryz.underlying218 Tryz.underlying173 z h Tryz.liesBld]
 simp only[Result.andThen]
 rw[Oper.upon_value]
 go_wp2
 go_end0
 exact⟨rfl,rfl⟩
theorem zsR (B b:Nat) (q:List Value) (w:World) (h:Lib.IsBuilder 175 5 B b q w):
  Calls Tryz.prog 164 #[.pointer (some ⟨b,0,none⟩)] w fun e w'=>e= .returned (.tuple #[])∧Lib.BuilderAt 175 5 B b (.pointer (some ⟨b,0,none⟩)) q w'∧Below B w w'∧∀k,k≠b→w'.heap[k]? =w.heap[k]?:=by
 rcases h with h|h
 ·refine (zsQ b w h.cell0 h.shape h.frozen0).mono ?_
  rintro e w' ⟨rfl,rfl⟩
  exact⟨rfl,h.used _,(Below.refl B w).setCell (p:=⟨b,0,none⟩) h.1 _,fun k z=>zl3 z⟩
 ·refine (zsP b w h.cell0).mono ?_
  rintro e w' ⟨rfl,rfl⟩
  exact⟨rfl,h,Below.refl B _,fun k _=>rfl⟩
def zsS (B b:Nat) (bs:List Value) (w w':World):Prop:=Lib.BuilderAt 175 5 B b (.pointer (some ⟨b,0,none⟩)) bs w'∧Below B w w'∧∀(k:Nat) (cur:Array Value) (t:TypeId) (fz:Nat×Nat),w.heap[k]? =some (.cells cur t fz)→k≠b→t≠5→w'.heap[k]? =w.heap[k]?
theorem Tryz.infoByte1:(Tryz.prog.info? 5).map (fun i=>(i.zero,i.size,i.bytes))=some (some (.int .u8 0),1,1):=by kernel_rfl
theorem zsT {w:World} {B k:Nat} {e:TypeId} {v:Value} {n:Nat} {xs:List Value} (h:w.ownsRow B e 1 v n xs) (q:some k=v.ownBlock): ∃c,w.heap[k]? =some (.cells c e (0,0)):=by
 rcases h.2 with ⟨A,_⟩|⟨g,H,z,A,_,I,_⟩
 ·rw[A] at q
  cases q
 ·rw[A] at q
  simp only[Value.ownBlock,Option.some.injEq] at q
  rw[q]
  exact⟨z,I⟩
theorem zsU (B b:Nat) (L:List Value) (s:ByteArray) (w:World) (h:Lib.IsBuilder 175 5 B b L w) (ae:L.length+s.size≤140737488355328) (af:B≤w.heap.size):
  Calls Tryz.prog 131 #[.pointer (some ⟨b,0,none⟩),.string s] w fun e w'=>e= .returned (.tuple #[.int .i64 s.size,.nilIface])∧zsS B b (L++Lib.strCells s) w w':=by
 obtain⟨i0,hi,aa,ab,ac⟩:=info_parts Tryz.infoByte1
 go_enter Tryz.func131,Tryz.ntmps131
 go_wp2_with fail
 refine (zsR B b L _ h).mono ?_
 rintro e V ⟨rfl,h1,K,Z⟩
 obtain⟨hB,v,H,z,Y⟩:=h1
 have c0:V.cell? ⟨b,0,none⟩=some (.pointer (some ⟨b,0,none⟩)):=by rw[Lib.cell_of_heap H];rfl
 have c1:V.cell? ⟨b,1,none⟩=some v:=by rw[Lib.cell_of_heap H];rfl
 go_wp2_with (at_builtin;refine Lib.wpList_append_own_string _ rfl _ _ 147 9 rfl B 5 i0 Tryz.underlying147 Tryz.underlying9 hi aa ab ac _ _ _ rfl z s rfl ?c3 ?c4 ?c5 ?_)
 case c3=>unfold maxLen;omega
 case c4=>omega
 case c5=>have:=K.size;omega
 intro v' U A q _
 have X:b<V.heap.size:=(Array.getElem?_eq_some_iff.1 H).1
 have I:U.heap[b]? =some (.cells #[.pointer (some ⟨b,0,none⟩),v] 175 (0,0)):=(q.block b X (fun e=>Y e.symm)).trans H
 have d0:U.cell? ⟨b,0,none⟩=some (.pointer (some ⟨b,0,none⟩)):=by rw[Lib.cell_of_heap I];rfl
 have d1:U.cell? ⟨b,1,none⟩=some v:=by rw[Lib.cell_of_heap I];rfl
 have f1:U.frozen? ⟨b,1,none⟩=false:=Lib.frozen_of_heap I 1
 obtain⟨ao,n',J,rfl⟩: ∃ao n' J,v'= .slice ao n' J:=by
  rcases A.2 with ⟨N,_⟩|⟨g,J,ad,N,_⟩
  ·exact⟨_,_,_,N⟩
  ·exact⟨_,_,_,N⟩
 go_wp2
 go_ret2
 refine⟨rfl,Lib.BuilderAt.put (T:=175) (e:=5) hB I (bs':=L++Lib.strCells s) (by simpa [Lib.strCells_length] using A) (by decide),(K.grown q (by have:=K.size;omega) (fun k O=>(z.lt k O).1)).setCell (p:=⟨b,1,none⟩) hB _,?_⟩
 intro k ad t fz O M ht
 have e1:=Z k M
 rw[zl3 M,q.block k (Array.getElem?_eq_some_iff.1 (e1.trans O)).1 ?_,e1]
 intro N
 obtain⟨c,hc⟩:=zsT z N
 rw[e1,O] at hc
 simp only[Option.some.injEq,Obj.cells.injEq] at hc
 exact ht hc.2.1
end Go.Proofs.YtgcbmogmniahjaaGreat