/- Facts and walks. -/
import Derived.Maps.Own
import Derived.Maps.RangeRun
import Derived.WideKeyEntry
import Derived.Test.YtgcbmogmniahjaaGreatK1
namespace Go.Proofs.YtgcbmogmniahjaaGreat
open List (getElem?_map mem_append mem_singleton map_append)
open Go.ChangeShapes Go.WideShapes Go.MapKept Go.ChangeMaps
open Go.Maps (Keyed)
open Go.WideElems (findIdx_born findIdx_arr modify_last set_self)
def zdL {α:Type} [DecidableEq α] (mk:α->Value) (L:List α) (es:Array MapEntry) (clock:Nat):Prop:=
 Stamped es clock/\∃ks:List α,es.toList.map (·.key)=ks.map mk/\es.toList.map (·.val)=ks.map (fun x=>.int .i64 (L.count x:Nat))/\∀x,x∈ks↔x∈L
section
variable {α:Type} [DecidableEq α] {P:Program} {t k e:TypeId} {mk:α->Value} {L:List α} {es:Array MapEntry} {clock b:Nat} {w:World} {x:α} {l:Lit}
theorem zv9 (mk:α->Value):zdL mk [] #[] 0:=⟨stamped_empty 0,[],rfl,rfl,fun _=>Iff.rfl⟩
theorem ziL (h:zdL mk L es clock) {j:Nat} {y:MapEntry} (D:es.toList[j]? =some y): ∃z,z∈L/\y.key=mk z/\y.val= .int .i64 (L.count z:Nat):=by
 obtain⟨_,J,H,E,I⟩:=h;have q:=congrArg (·[j]?) H;have w:=congrArg (·[j]?) E;simp only[getElem?_map,D,Option.map_some] at q w;cases A:J[j]? with
 |none=>rw[A] at q;cases q
 |some z=>
  rw[A] at q w;simp only[Option.map_some,Option.some.injEq] at q w;exact⟨z,(I z).1 (List.mem_of_getElem? A),q,w⟩
theorem zmH (h:zdL mk L es clock) (J:x∈L): ∃y∈es.toList,y.key=mk x/\y.val= .int .i64 (L.count x:Nat):=by
 obtain⟨_,K,H,E,I⟩:=h;obtain⟨j,D,A⟩:=List.mem_iff_getElem.1 ((I x).2 J);have q:=congrArg (·[j]?) H;have w:=congrArg (·[j]?) E;simp only[getElem?_map,List.getElem?_eq_getElem D,A,Option.map_some] at q w;cases z:es.toList[j]? with
 |none=>rw[z] at q;cases q
 |some y=>
  rw[z] at q w;simp only[Option.map_some,Option.some.injEq] at q w;exact⟨y,List.mem_of_getElem? z,q,w⟩
theorem zmI (h:zdL mk L es clock) (D: ∀z∈L,∃l,keyOf P k (mk z)=some l): ∀y∈es.toList,∃l,keyOf P k y.key=some l:=by
 intro y A;obtain⟨j,w,rfl⟩:=List.mem_iff_getElem.1 A;obtain⟨z,E,q,_⟩:=ziL h (List.getElem?_eq_getElem w);rw[q];exact D z E
theorem zmJ (K:Keyed P k) (N: ∀a b,mk a=mk b->a=b) (h:zdL mk L es clock) (M: ∀z∈L,∃l,keyOf P k (mk z)=some l) (O:keyOf P k (mk x)=some l) (w:World):
  ((Instr.findKey k (mk x) es.toList).run P w= .ok none w/\x∉L/\∀y∈es.toList,y.key≠mk x)∨∃j y,(Instr.findKey k (mk x) es.toList).run P w= .ok (some (j,.int .i64 (L.count x:Nat))) w/\es.toList[j]? =some y/\y.key=mk x/\y.val= .int .i64 (L.count x:Nat)/\x∈L:=by
 rcases K.find w O es.toList (zmI h M) with ⟨A,q⟩|⟨j,y,A,q,H⟩
 ·refine .inl ⟨A,fun I=>?_,q⟩;obtain⟨y,J,e,_⟩:=zmH h I;exact q y J e
 ·obtain⟨z,U,D,E⟩:=ziL h q;rw[H] at D;obtain rfl:=N _ _ D;rw[E] at A;exact .inr ⟨j,y,A,q,H,E,U⟩
theorem ziM (K:Keyed P k) (D:P.underlying t=some (.map k e)) (M:(zeroValue e).run P w= .ok (.int .i64 0) w) (J: ∀a b,mk a=mk b->a=b) (h:zdL mk L es clock) (I: ∀z∈L,∃l,keyOf P k (mk z)=some l) (A:keyOf P k (mk x)=some l) (E:w.heap[b]? =some (.map es clock)):
  (Instr.lookup t (.map (some b)) (mk x) false).run P w= .ok (.int .i64 (L.count x:Nat)) w:=by
 rcases zmJ K J h I A w with ⟨q,H,_⟩|⟨j,y,q,_⟩
 ·rw[List.count_eq_zero_of_not_mem H];simp[Instr.lookup,run_underlying D,MapKept.run_getObj_map E,K.check w _ A,q,M,Result.andThen]
 ·simp[Instr.lookup,run_underlying D,MapKept.run_getObj_map E,K.check w _ A,q,Result.andThen]
theorem zmK (L:List α) (x:α):0<L.count x↔x∈L:=List.count_pos_iff
theorem zvA (L:List α) (x:α):L.count x<=L.length:=List.count_le_length
theorem zmL (l1 h:List α) (x:α):(l1++h).count x=l1.count x+h.count x:=List.count_append
theorem ziN (L:List α) (x y:α):(L++[x]).count y=L.count y+if x=y then 1 else 0:=by
 rw[List.count_append,List.count_singleton];by_cases h:x=y<;>simp[h]
theorem zvB (K:Keyed P k) (ht:P.underlying t=some (.map k e)) (hz: ∀u:World,(zeroValue e).run P u= .ok (.int .i64 0) u) (hi: ∀a b,mk a=mk b->a=b) (h:zdL mk L es clock) (hL: ∀z∈L,∃l,keyOf P k (mk z)=some l) (M:keyOf P k (mk x)=some l) (hb:w.heap[b]? =some (.map es clock)):
  ∃(v0:Value) (st:Nat) (Z:Array MapEntry) (q:Nat),(Instr.mapEntry t (.map (some b)) (mk x)).run P w= .ok (.tuple #[v0,goInt st]) (setBlock w b (.map Z q))/\
   (∀E:World,E.heap[b]? =some (.map Z q)->(Instr.lookup t (.map (some b)) (mk x) false).run P E= .ok (.int .i64 (L.count x:Nat)) E)/\
   ∃ad D,zdL mk (L++[x]) ad D/\∀E:World,E.heap[b]? =some (.map Z q)->(Instr.entryStore t (.map (some b)) (goInt st) (.int .i64 ((L.count x:Nat)+1:Int))).run P E= .ok () (setBlock E b (.map ad D)):=by
 have Y:=h.1;obtain⟨s1,s2,_⟩:=h.1;rcases zmJ K hi h hL M w with ⟨h1,N,h3⟩|⟨j,y,h1,N,h3,h4,h5⟩
 ·have c0:=List.count_eq_zero_of_not_mem N;refine⟨.int .i64 0,clock,es.push ⟨mk x,.int .i64 0,clock⟩,clock+1,?_,?_,es.push ⟨mk x,.int .i64 1,clock⟩,clock+1,?_,?_⟩
  ·simp[Instr.mapEntry,run_underlying ht,MapKept.run_getObj_map hb,K.check w false M,h1,hz,MapKept.run_setObj_map _ hb,Result.andThen,setBlock]
  ·intro E A
   rcases K.find E M (es.push ⟨mk x,.int .i64 0,clock⟩).toList (fun y O=>by
    rw[Array.toList_push,mem_append,mem_singleton] at O;rcases O with O|rfl
    ·exact zmI h hL y O
    ·exact⟨_,M⟩) with ⟨_,k2⟩|⟨j,y,V,k2,k3⟩
   ·exact absurd rfl (k2 ⟨mk x,.int .i64 0,clock⟩ (by simp))
   ·have O:=List.mem_of_getElem? k2;rw[Array.toList_push,mem_append,mem_singleton] at O;rcases O with O|rfl
    ·exact absurd k3 (h3 y O)
    ·rw[Array.toList_push] at V;rw[c0];simp[Instr.lookup,run_underlying ht,MapKept.run_getObj_map A,K.check E _ M,V,Result.andThen]
  ·refine⟨stamped_push Y h3,?_⟩;obtain⟨_,J,V,k2,k3⟩:=h;refine⟨J++[x],?_,?_,fun z=>?_⟩
   ·rw[Array.toList_push,map_append,map_append,V];rfl
   ·rw[Array.toList_push,map_append,map_append,k2];have U:J.map (fun z=>Value.int .i64 ((L++[x]).count z:Nat))=J.map (fun z=>Value.int .i64 (L.count z:Nat)):=List.map_congr_left fun z ab=>by
     have H: ¬x=z:=fun e=>N (by rw[e];exact (k3 z).1 ab);rw[ziN,if_neg H];rfl
    rw[U];simp[c0]
   ·rw[mem_append,mem_append,k3]
  ·intro E A;have I:(es.push ⟨mk x,.int .i64 0,clock⟩).findIdx? (fun e=>((e.born:Nat):Int)==((clock:Nat):Int))=some es.size:=by
    rw[findIdx_arr]
    exact findIdx_born (l:=(es.push ⟨mk x,.int .i64 0,clock⟩).toList) (j:=es.size) (e0:=⟨mk x,.int .i64 0,clock⟩) (by
     simp only[Array.toList_push,map_append,List.map_cons,List.map_nil];refine List.nodup_append.2 ⟨s2,by simp,fun a ha c hc U=>?_⟩;simp only[mem_singleton] at hc;obtain⟨x,M,rfl⟩:=List.mem_map.1 ha;have:=s1 x M
     omega) (by simp)
   have ac:(es.push ⟨mk x,.int .i64 0,clock⟩).modify es.size (fun e=>{e with val:=.int .i64 1})=es.push ⟨mk x,.int .i64 1,clock⟩:=by
    apply Array.ext';rw[Array.toList_modify,Array.toList_push,Array.toList_push,<-Array.length_toList,modify_last]
   rw[c0];simp[Instr.entryStore,MapKept.run_getObj_map A,asInt,asIntOf,goInt,I,ac,MapKept.run_setObj_map _ A,Result.andThen,setBlock]
 ·have hj:es[j]? =some y:=by simpa using N
  have aa:es.modify j (fun e=>{e with key:=mk x})=es:=by
   apply Array.ext';rw[Array.toList_modify,modify_eq_set _ _ _ _ N];have:({y with key:=mk x}:MapEntry)=y:=by rw[<-h3]
   rw[this];exact set_self _ _ _ N
  refine⟨y.val,y.born,es,clock,?_,fun E A=>ziM K ht (hz E) hi h hL M A,es.modify j (fun e'=>{e' with val:=.int .i64 ((L.count x:Nat)+1:Int)}),clock,?_,?_⟩
  ·simp[Instr.mapEntry,run_underlying ht,MapKept.run_getObj_map hb,K.check w false M,h1,hj,h3,K.stays w M,aa,MapKept.run_setObj_map _ hb,Result.andThen,setBlock,h4]
  ·refine⟨stamped_modify Y j _ (fun _ _=>rfl) (fun _ _ _=>rfl),?_⟩;obtain⟨_,J,V,k2,k3⟩:=h;have af:J.Nodup:=by
    have:=Y.2.2;rw[V] at this;exact (List.pairwise_map.1 this).imp fun H e=>H (by rw[e])
   have X:J[j]? =some x:=by
    have U:=congrArg (·[j]?) V;simp only[getElem?_map,N,Option.map_some] at U;cases hk:J[j]? with
    |none=>rw[hk] at U;cases U
    |some z=>
     rw[hk] at U;simp only[Option.map_some,Option.some.injEq,h3] at U;rw[hi _ _ U]
   refine⟨J,?_,?_,fun z=>?_⟩
   ·rw[<-V];exact modify_keys j (fun e'=>{e' with val:=.int .i64 ((L.count x:Nat)+1:Int)}) (fun _ _=>rfl)
   ·rw[Array.toList_modify,modify_eq_set _ _ _ _ N,List.map_set,k2];refine List.ext_getElem? fun i=>?_;rw[List.getElem?_set,getElem?_map,getElem?_map];by_cases e:j=i
    ·subst e;have ae:j<(J.map fun x=>Value.int .i64 (L.count x:Nat)).length:=by rw[List.length_map];exact (List.getElem?_eq_some_iff.1 X).1
     rw[if_pos rfl,if_pos ae,X];simp
    ·rw[if_neg e];cases hk:J[i]? with
     |none=>rfl
     |some z=>
      have H:x≠z:=fun e2=>by
       obtain⟨ha,hA⟩:=List.getElem?_eq_some_iff.1 X;obtain⟨ag,hB⟩:=List.getElem?_eq_some_iff.1 hk;exact e ((List.getElem_inj af).1 (by rw[hA,hB,e2]))
      simp[H]
   ·rw[k3,mem_append,mem_singleton];exact⟨.inl,fun ab=>ab.elim id (fun e=>e▸h5)⟩
  ·intro E A;have I:es.findIdx? (fun e=>((e.born:Nat):Int)==((y.born:Nat):Int))=some j:=by
    rw[findIdx_arr];exact findIdx_born s2 N
   simp[Instr.entryStore,MapKept.run_getObj_map A,asInt,asIntOf,goInt,I,MapKept.run_setObj_map _ A,Result.andThen,setBlock]
end
end Go.Proofs.YtgcbmogmniahjaaGreat
