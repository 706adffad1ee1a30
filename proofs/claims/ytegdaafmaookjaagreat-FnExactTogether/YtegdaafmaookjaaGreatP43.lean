/- Facts. -/
import Derived.Test.YtegdaafmaookjaaGreatP0
import Derived.Test.YtegdaafmaookjaaGreatProg
import Derived.WalkLawsBesides
import Derived.OwnWalk
import Derived.Lib.QuietBelow
import Derived.BigQuiet
import Derived.Deep.CutBlock
import Derived.Lib.Builder
import Derived.Lib.AppendStr
import Derived.Laws.Externs
namespace Go.Proofs.YtegdaafmaookjaaGreat
open Go.Proofs.Tryz
set_option maxRecDepth 100000
set_option maxHeartbeats 2000000
open Go.RowKit Go.PlainAid Go.Sort
variable (g b:Nat) (w:World) {W:World} {c:Nat} {C:Value}
theorem zmF {S i:Nat} (h:c≠S):(W.setCell ⟨S,i,none⟩ C).heap[c]? =W.heap[c]?:=Below.heap_setCell W ⟨S,i,none⟩ C c h
theorem Tryz.sizeBld:(prog.info? 174).map (·.size)=some 2:=by kernel_rfl
theorem Tryz.liesBld:liesAt prog prog.depth 174 (2/prog.cellsOf 174) 0 174 1=true:=by kernel_rfl
theorem zuT (h:w.cell? ⟨g,0,none⟩=some (.pointer (some ⟨g,0,none⟩))):
  Calls prog 173 #[.pointer (some ⟨g,0,none⟩)] w fun e w'=>e= .returned (.tuple #[])/\w'=w:=by
 obtain⟨j,q,_⟩:=Option.map_eq_some_iff.1 Tryz.sizeBld;go_enter func173,ntmps173;go_wp2;rw[Lib.run_neq_ptr_same w _ underlying172 q];go_wp2;go_end0;exact⟨rfl,rfl⟩
theorem zuU (I:w.cell? ⟨g,0,none⟩=some (.pointer none)) (h:w.shape? g=some (174,2)) (H:w.frozen? ⟨g,0,none⟩=false):
  Calls prog 173 #[.pointer (some ⟨g,0,none⟩)] w fun e w'=>e= .returned (.tuple #[])/\w'=w.setCell ⟨g,0,none⟩ (.pointer (some ⟨g,0,none⟩)):=by
 obtain⟨j,A,q⟩:=Option.map_eq_some_iff.1 Tryz.sizeBld;go_enter func173,ntmps173;go_wp2;rw[Lib.run_to_unsafe w ⟨g,0,none⟩ underlying172 underlying215 A (by rw[q];decide) h (Nat.zero_lt_succ 1)];simp only[Result.andThen];rw[Oper.upon_value];go_wp2;rw[run_callFunc_extern func186 (by kernel_rfl) (by kernel_rfl) (by kernel_rfl) (e:=Extern.AbiNoEscape.same) (by kernel_rfl)];rw[Lib.run_noEscape];simp only[Result.andThen];rw[Oper.upon_value];go_wp2;rw[Lib.run_from_unsafe w ⟨g,0,none⟩ underlying215 underlying172 A h Tryz.liesBld];simp only[Result.andThen];rw[Oper.upon_value];go_wp2;go_end0;exact⟨rfl,rfl⟩
theorem zuV (q:List Value) (w:World) (h:Lib.IsBuilder 174 5 g b q w):
  Calls prog 173 #[.pointer (some ⟨b,0,none⟩)] w fun e w'=>e= .returned (.tuple #[])/\Lib.BuilderAt 174 5 g b (.pointer (some ⟨b,0,none⟩)) q w'/\Below g w w'/\∀k,k≠b->w'.heap[k]? =w.heap[k]?:=by
 rcases h with h|h
 ·refine (zuU b w h.cell0 h.shape h.frozen0).mono ?_;rintro e w' ⟨rfl,rfl⟩;exact⟨rfl,h.used _,(Below.refl g w).setCell (p:=⟨b,0,none⟩) h.1 _,fun k A=>zmF A⟩
 ·refine (zuT b w h.cell0).mono ?_;rintro e w' ⟨rfl,rfl⟩;exact⟨rfl,h,Below.refl g _,fun k _=>rfl⟩
def zuW (B b:Nat) (bs:List Value) (w w':World):Prop:=Lib.BuilderAt 174 5 B b (.pointer (some ⟨b,0,none⟩)) bs w'/\Below B w w'/\∀(k:Nat) (cur:Array Value) (t:TypeId) (fz:Nat×Nat),w.heap[k]? =some (.cells cur t fz)->k≠b->t≠5->w'.heap[k]? =w.heap[k]?
theorem Tryz.infoByte1:(prog.info? 5).map (fun i=>(i.zero,i.size,i.bytes))=some (some (.int .u8 0),1,1):=by kernel_rfl
theorem zuX {k:Nat} {e:TypeId} {n:Nat} {xs:List Value} (h:W.ownsRow c e 1 C n xs) (q:some k=C.ownBlock): ∃S,W.heap[k]? =some (.cells S e (0,0)):=by
 rcases h.2 with ⟨H,_⟩|⟨g,I,A,H,_,J,_⟩
 ·rw[H] at q;cases q
 ·rw[H] at q;simp only[Value.ownBlock,sI0] at q;rw[q];exact⟨A,J⟩
theorem zuY (M:List Value) (s:BA0) (w:World) (h:Lib.IsBuilder 174 5 g b M w) (af:M.length+s.size<=140737488355328) (ag:g<=w.heap.size):
  Calls prog 141 #[.pointer (some ⟨b,0,none⟩),.string s] w fun e w'=>e= .returned (.tuple #[.int .i64 s.size,.nilIface])/\zuW g b (M++Lib.strCells s) w w':=by
 obtain⟨i0,hi,ab,ac,ad⟩:=info_parts Tryz.infoByte1;go_enter func141,ntmps141;go_wp2_with fail;refine (zuV g b M _ h).mono ?_;rintro e X ⟨rfl,h1,L,aa⟩;obtain⟨hB,v,I,A,Z⟩:=h1;have c0:X.cell? ⟨b,0,none⟩=some (.pointer (some ⟨b,0,none⟩)):=by rw[Lib.cell_of_heap I];rfl
 have c1:X.cell? ⟨b,1,none⟩=some v:=by rw[Lib.cell_of_heap I];rfl
 go_wp2_with (at_builtin;refine Lib.wpList_append_own_string _ rfl _ _ 146 9 rfl g 5 i0 underlying146 underlying9 hi ab ac ad _ _ _ rfl A s rfl ?c3 ?c4 ?c5 ?_)
 case c3=>unfold maxLen;omega
 case c4=>omega
 case c5=>have:=L.size;omega
 intro v' V H q _;have Y:b<X.heap.size:=(aLt I);have J:V.heap[b]? =some (.cells #[.pointer (some ⟨b,0,none⟩),v] 174 (0,0)):=(q.block b Y (fun e=>Z e.symm)).trans I;have d0:V.cell? ⟨b,0,none⟩=some (.pointer (some ⟨b,0,none⟩)):=by rw[Lib.cell_of_heap J];rfl
 have d1:V.cell? ⟨b,1,none⟩=some v:=by rw[Lib.cell_of_heap J];rfl
 have f1:V.frozen? ⟨b,1,none⟩=false:=Lib.frozen_of_heap J 1;obtain⟨ao,n',K,rfl⟩: ∃ao n' K,v'= .slice ao n' K:=by
  rcases H.2 with ⟨O,_⟩|⟨S,K,ae,O,_⟩
  ·exact⟨_,_,_,O⟩
  ·exact⟨_,_,_,O⟩
 go_wp2;go_ret2;refine⟨rfl,Lib.BuilderAt.put (T:=174) (e:=5) hB J (bs':=M++Lib.strCells s) (by simpa [Lib.strCells_length] using H) (by decide),(L.grown q (by have:=L.size;omega) (fun k U=>(A.lt k U).1)).setCell (p:=⟨b,1,none⟩) hB _,?_⟩;intro k ae t fz U N ht;have e1:=aa k N;rw[zmF N,q.block k (aLt (e1.trans U)) ?_,e1];intro O;obtain⟨c,hc⟩:=zuX A O;rw[e1,U] at hc;simp only[sI0,Obj.cells.injEq] at hc;exact ht hc.2.1
