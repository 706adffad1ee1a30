/-
 A map that counts,by a key of any comparable kind: what a look,an entry and a store do. No program is spoken of.
-/
import Derived.Maps.Own
import Derived.Maps.RangeRun
import Derived.WideKeyEntry
import Derived.Test.YtcidlffeeninbaaGreatClAidToTreeMath
namespace Go.Proofs.YtcidlffeeninbaaGreat
open Go.ChangeShapes Go.WideShapes Go.MapKept Go.ChangeMaps
open Go.Maps (Keyed)
open Go.WideElems (findIdx_born findIdx_arr modify_last set_self)
def zd5 {α:Type} [DecidableEq α] (mk:α→Value) (L:List α) (es:Array MapEntry) (clock:Nat):Prop:=
 Stamped es clock∧∃ks:List α,es.toList.map (·.key)=ks.map mk∧es.toList.map (·.val)=ks.map (fun x=>.int .i64 (L.count x:Nat))∧∀x,x∈ks↔x∈L
section
variable {α:Type} [DecidableEq α] {P:Program} {t k e:TypeId} {mk:α→Value} {L:List α} {es:Array MapEntry} {clock b:Nat} {w:World} {x:α} {l:Lit}
theorem zu0 (h:α→Value):zd5 h [] #[] 0:=⟨stamped_empty 0,[],rfl,rfl,fun _=>Iff.rfl⟩
theorem zin (h:zd5 mk L es clock) {j:Nat} {y:MapEntry} (J:es.toList[j]? =some y): ∃z,z∈L∧y.key=mk z∧y.val= .int .i64 (L.count z:Nat):=by
 obtain⟨_,D,H,I,E⟩:=h
 have q:=congrArg (·[j]?) H
 have w:=congrArg (·[j]?) I
 simp only[List.getElem?_map,J,Option.map_some] at q w
 cases A:D[j]? with
 |none=>rw[A] at q;cases q
 |some z=>
  rw[A] at q w
  simp only[Option.map_some,Option.some.injEq] at q w
  exact⟨z,(E z).1 (List.mem_of_getElem? A),q,w⟩
theorem zlW (h:zd5 mk L es clock) (E:x∈L): ∃y∈es.toList,y.key=mk x∧y.val= .int .i64 (L.count x:Nat):=by
 obtain⟨_,K,H,I,D⟩:=h
 obtain⟨j,J,A⟩:=List.mem_iff_getElem.1 ((D x).2 E)
 have q:=congrArg (·[j]?) H
 have w:=congrArg (·[j]?) I
 simp only[List.getElem?_map,List.getElem?_eq_getElem J,A,Option.map_some] at q w
 cases z:es.toList[j]? with
 |none=>rw[z] at q;cases q
 |some y=>
  rw[z] at q w
  simp only[Option.map_some,Option.some.injEq] at q w
  exact⟨y,List.mem_of_getElem? z,q,w⟩
theorem zlX (h:zd5 mk L es clock) (E: ∀z∈L,∃l,keyOf P k (mk z)=some l): ∀y∈es.toList,∃l,keyOf P k y.key=some l:=by
 intro y q
 obtain⟨j,w,rfl⟩:=List.mem_iff_getElem.1 q
 obtain⟨z,A,D,_⟩:=zin h (List.getElem?_eq_getElem w)
 rw[D]
 exact E z A
theorem zlY (K:Keyed P k) (N: ∀a b,mk a=mk b→a=b) (h:zd5 mk L es clock) (U: ∀z∈L,∃l,keyOf P k (mk z)=some l) (I:keyOf P k (mk x)=some l) (w:World):
  ((Instr.findKey k (mk x) es.toList).run P w= .ok none w∧x∉L∧∀y∈es.toList,y.key≠mk x)∨∃j y,(Instr.findKey k (mk x) es.toList).run P w= .ok (some (j,.int .i64 (L.count x:Nat))) w∧es.toList[j]? =some y∧y.key=mk x∧y.val= .int .i64 (L.count x:Nat)∧x∈L:=by
 rcases K.find w I es.toList (zlX h U) with ⟨A,q⟩|⟨j,y,A,q,D⟩
 ·refine .inl ⟨A,fun O=>?_,q⟩
  obtain⟨y,J,e,_⟩:=zlW h O
  exact q y J e
 ·obtain⟨z,M,H,E⟩:=zin h q
  rw[D] at H
  obtain rfl:=N _ _ H
  rw[E] at A
  exact .inr ⟨j,y,A,q,D,E,M⟩
theorem zio (K:Keyed P k) (D:P.underlying t=some (.map k e)) (I:(zeroValue e).run P w= .ok (.int .i64 0) w) (J: ∀a b,mk a=mk b→a=b) (h:zd5 mk L es clock) (M: ∀z∈L,∃l,keyOf P k (mk z)=some l) (q:keyOf P k (mk x)=some l) (E:w.heap[b]? =some (.map es clock)):
  (Instr.lookup t (.map (some b)) (mk x) false).run P w= .ok (.int .i64 (L.count x:Nat)) w:=by
 rcases zlY K J h M q w with ⟨A,H,_⟩|⟨j,y,A,_⟩
 ·rw[List.count_eq_zero_of_not_mem H]
  simp[Instr.lookup,run_underlying D,MapKept.run_getObj_map E,K.check w _ q,A,I,Result.andThen]
 ·simp[Instr.lookup,run_underlying D,MapKept.run_getObj_map E,K.check w _ q,A,Result.andThen]
theorem zlZ (L:List α) (x:α):0<L.count x↔x∈L:=List.count_pos_iff
theorem zu1 (L:List α) (x:α):L.count x≤L.length:=List.count_le_length
theorem zma (l1 h:List α) (x:α):(l1++h).count x=l1.count x+h.count x:=List.count_append
theorem ziq (L:List α) (x y:α):(L++[x]).count y=L.count y+if x=y then 1 else 0:=by
 rw[List.count_append,List.count_singleton]
 by_cases h:x=y<;>simp[h]
theorem zu2 (K:Keyed P k) (ht:P.underlying t=some (.map k e)) (hz: ∀u:World,(zeroValue e).run P u= .ok (.int .i64 0) u) (hi: ∀a b,mk a=mk b→a=b) (h:zd5 mk L es clock) (hL: ∀z∈L,∃l,keyOf P k (mk z)=some l) (N:keyOf P k (mk x)=some l) (hb:w.heap[b]? =some (.map es clock)):
  ∃(v0:Value) (st:Nat) (ab:Array MapEntry) (D:Nat),(Instr.mapEntry t (.map (some b)) (mk x)).run P w= .ok (.tuple #[v0,goInt st]) (setBlock w b (.map ab D))∧
   (∀H:World,H.heap[b]? =some (.map ab D)→(Instr.lookup t (.map (some b)) (mk x) false).run P H= .ok (.int .i64 (L.count x:Nat)) H)∧
   ∃ae E,zd5 mk (L++[x]) ae E∧∀H:World,H.heap[b]? =some (.map ab D)→(Instr.entryStore t (.map (some b)) (goInt st) (.int .i64 ((L.count x:Nat)+1:Int))).run P H= .ok () (setBlock H b (.map ae E)):=by
 have Y:=h.1
 obtain⟨s1,s2,_⟩:=h.1
 rcases zlY K hi h hL N w with ⟨h1,O,h3⟩|⟨j,y,h1,O,h3,h4,h5⟩
 ·have c0:=List.count_eq_zero_of_not_mem O
  refine⟨.int .i64 0,clock,es.push ⟨mk x,.int .i64 0,clock⟩,clock+1,?_,?_,es.push ⟨mk x,.int .i64 1,clock⟩,clock+1,?_,?_⟩
  ·simp[Instr.mapEntry,run_underlying ht,MapKept.run_getObj_map hb,K.check w false N,h1,hz,MapKept.run_setObj_map _ hb,Result.andThen,setBlock]
  ·intro H A
   rcases K.find H N (es.push ⟨mk x,.int .i64 0,clock⟩).toList (fun y U=>by
    rw[Array.toList_push,List.mem_append,List.mem_singleton] at U
    rcases U with U|rfl
    ·exact zlX h hL y U
    ·exact⟨_,N⟩) with ⟨_,k2⟩|⟨j,y,X,k2,k3⟩
   ·exact absurd rfl (k2 ⟨mk x,.int .i64 0,clock⟩ (by simp))
   ·have U:=List.mem_of_getElem? k2
    rw[Array.toList_push,List.mem_append,List.mem_singleton] at U
    rcases U with U|rfl
    ·exact absurd k3 (h3 y U)
    ·rw[Array.toList_push] at X
     rw[c0]
     simp[Instr.lookup,run_underlying ht,MapKept.run_getObj_map A,K.check H _ N,X,Result.andThen]
  ·refine⟨stamped_push Y h3,?_⟩
   obtain⟨_,M,X,k2,k3⟩:=h
   refine⟨M++[x],?_,?_,fun z=>?_⟩
   ·rw[Array.toList_push,List.map_append,List.map_append,X]
    rfl
   ·rw[Array.toList_push,List.map_append,List.map_append,k2]
    have V:M.map (fun z=>Value.int .i64 ((L++[x]).count z:Nat))=M.map (fun z=>Value.int .i64 (L.count z:Nat)):=List.map_congr_left fun z aa=>by
     have J: ¬x=z:=fun e=>O (by rw[e];exact (k3 z).1 aa)
     rw[ziq,if_neg J]
     rfl
    rw[V]
    simp[c0]
   ·rw[List.mem_append,List.mem_append,k3]
  ·intro H A
   have I:(es.push ⟨mk x,.int .i64 0,clock⟩).findIdx? (fun e=>((e.born:Nat):Int)==((clock:Nat):Int))=some es.size:=by
    rw[findIdx_arr]
    exact findIdx_born (l:=(es.push ⟨mk x,.int .i64 0,clock⟩).toList) (j:=es.size) (e0:=⟨mk x,.int .i64 0,clock⟩) (by
     simp only[Array.toList_push,List.map_append,List.map_cons,List.map_nil]
     refine List.nodup_append.2 ⟨s2,by simp,fun a ha c hc V=>?_⟩
     simp only[List.mem_singleton] at hc
     obtain⟨x,N,rfl⟩:=List.mem_map.1 ha
     have:=s1 x N
     omega) (by simp)
   have ad:(es.push ⟨mk x,.int .i64 0,clock⟩).modify es.size (fun e=>{e with val:=.int .i64 1})=es.push ⟨mk x,.int .i64 1,clock⟩:=by
    apply Array.ext'
    rw[Array.toList_modify,Array.toList_push,Array.toList_push,←Array.length_toList,modify_last]
   rw[c0]
   simp[Instr.entryStore,MapKept.run_getObj_map A,asInt,asIntOf,goInt,I,ad,MapKept.run_setObj_map _ A,Result.andThen,setBlock]
 ·have hj:es[j]? =some y:=by simpa using O
  have Z:es.modify j (fun e=>{e with key:=mk x})=es:=by
   apply Array.ext'
   rw[Array.toList_modify,modify_eq_set _ _ _ _ O]
   have:({y with key:=mk x}:MapEntry)=y:=by rw[←h3]
   rw[this]
   exact set_self _ _ _ O
  refine⟨y.val,y.born,es,clock,?_,fun H A=>zio K ht (hz H) hi h hL N A,es.modify j (fun e'=>{e' with val:=.int .i64 ((L.count x:Nat)+1:Int)}),clock,?_,?_⟩
  ·simp[Instr.mapEntry,run_underlying ht,MapKept.run_getObj_map hb,K.check w false N,h1,hj,h3,K.stays w N,Z,MapKept.run_setObj_map _ hb,Result.andThen,setBlock,h4]
  ·refine⟨stamped_modify Y j _ (fun _ _=>rfl) (fun _ _ _=>rfl),?_⟩
   obtain⟨_,M,X,k2,k3⟩:=h
   have ag:M.Nodup:=by
    have:=Y.2.2
    rw[X] at this
    exact (List.pairwise_map.1 this).imp fun J e=>J (by rw[e])
   have ac:M[j]? =some x:=by
    have V:=congrArg (·[j]?) X
    simp only[List.getElem?_map,O,Option.map_some] at V
    cases hk:M[j]? with
    |none=>rw[hk] at V;cases V
    |some z=>
     rw[hk] at V
     simp only[Option.map_some,Option.some.injEq,h3] at V
     rw[hi _ _ V]
   refine⟨M,?_,?_,fun z=>?_⟩
   ·rw[←X]
    exact modify_keys j (fun e'=>{e' with val:=.int .i64 ((L.count x:Nat)+1:Int)}) (fun _ _=>rfl)
   ·rw[Array.toList_modify,modify_eq_set _ _ _ _ O,List.map_set,k2]
    refine List.ext_getElem? fun i=>?_
    rw[List.getElem?_set,List.getElem?_map,List.getElem?_map]
    by_cases e:j=i
    ·subst e
     have af:j<(M.map fun x=>Value.int .i64 (L.count x:Nat)).length:=by rw[List.length_map];exact (List.getElem?_eq_some_iff.1 ac).1
     rw[if_pos rfl,if_pos af,ac]
     simp
    ·rw[if_neg e]
     cases hk:M[i]? with
     |none=>rfl
     |some z=>
      have J:x≠z:=fun e2=>by
       obtain⟨ha,hA⟩:=List.getElem?_eq_some_iff.1 ac
       obtain⟨ah,hB⟩:=List.getElem?_eq_some_iff.1 hk
       exact e ((List.getElem_inj ag).1 (by rw[hA,hB,e2]))
      simp[J]
   ·rw[k3,List.mem_append,List.mem_singleton]
    exact⟨.inl,fun aa=>aa.elim id (fun e=>e▸h5)⟩
  ·intro H A
   have I:es.findIdx? (fun e=>((e.born:Nat):Int)==((y.born:Nat):Int))=some j:=by
    rw[findIdx_arr]
    exact findIdx_born s2 O
   simp[Instr.entryStore,MapKept.run_getObj_map A,asInt,asIntOf,goInt,I,MapKept.run_setObj_map _ A,Result.andThen,setBlock]
end
end Go.Proofs.YtcidlffeeninbaaGreat