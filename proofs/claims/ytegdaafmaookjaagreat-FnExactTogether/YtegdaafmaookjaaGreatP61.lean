/- Facts. -/
import Derived.Maps.Own
import Derived.Maps.RangeRun
import Derived.WideKeyEntry
import Derived.Test.YtegdaafmaookjaaGreatP0
namespace Go.Proofs.YtegdaafmaookjaaGreat
open List (getElem?_map mem_append mem_singleton map_append)
open Go.ChangeShapes Go.WideShapes Go.MapKept Go.ChangeMaps
open Go.Maps (Keyed)
open Go.WideElems (findIdx_born findIdx_arr modify_last set_self)
def zef {α:Type} [DecidableEq α] (mk:α->Value) (L:List α) (es:Array MapEntry) (clock:Nat):Prop:=
 Stamped es clock/\∃ks:List α,es.toList.map (·.key)=ks.map mk/\es.toList.map (·.val)=ks.map (fun x=>.int .i64 (L.count x:Nat))/\∀x,x∈ks↔x∈L
section
variable {α:Type} [DecidableEq α] {P:Program} {t k e:TypeId} {mk:α->Value} {L:List α} {es:Array MapEntry} {clock b:Nat} {w:World} {x:α} {l:Lit}
theorem zxr (mk:α->Value):zef mk [] #[] 0:=⟨stamped_empty 0,[],rfl,rfl,fun _=>Iff.rfl⟩
theorem zj9 (h:zef mk L es clock) {j:Nat} {y:MapEntry} (H:es.toList[j]? =some y): ∃z,z∈L/\y.key=mk z/\y.val= .int .i64 (L.count z:Nat):=by
 obtain⟨_,M,J,I,K⟩:=h;have q:=congrArg (·[j]?) J;have w:=congrArg (·[j]?) I;simp only[getElem?_map,H,Option.map_some] at q w;cases A:M[j]? with
 |none=>rw[A] at q;cases q
 |some z=>
  rw[A] at q w;simp only[Option.map_some,sI0] at q w;exact⟨z,(K z).1 (List.mem_of_getElem? A),q,w⟩
theorem znE (h:zef mk L es clock) (N:x∈L): ∃y∈es.toList,y.key=mk x/\y.val= .int .i64 (L.count x:Nat):=by
 obtain⟨_,O,K,J,M⟩:=h;obtain⟨j,I,H⟩:=List.mem_iff_getElem.1 ((M x).2 N);have q:=congrArg (·[j]?) K;have w:=congrArg (·[j]?) J;simp only[getElem?_map,gE I,H,Option.map_some] at q w;cases A:es.toList[j]? with
 |none=>rw[A] at q;cases q
 |some y=>
  rw[A] at q w;simp only[Option.map_some,sI0] at q w;exact⟨y,List.mem_of_getElem? A,q,w⟩
theorem znF (h:zef mk L es clock) (H: ∀z∈L,∃l,keyOf P k (mk z)=some l): ∀y∈es.toList,∃l,keyOf P k y.key=some l:=by
 intro y A;obtain⟨j,w,rfl⟩:=List.mem_iff_getElem.1 A;obtain⟨z,I,q,_⟩:=zj9 h (gE w);rw[q];exact H z I
theorem znG (K:Keyed P k) (U: ∀a b,mk a=mk b->a=b) (h:zef mk L es clock) (O: ∀z∈L,∃l,keyOf P k (mk z)=some l) (V:keyOf P k (mk x)=some l) (w:World):
  ((Instr.findKey k (mk x) es.toList).run P w= .ok none w/\x∉L/\∀y∈es.toList,y.key≠mk x)∨∃j y,(Instr.findKey k (mk x) es.toList).run P w= .ok (some (j,.int .i64 (L.count x:Nat))) w/\es.toList[j]? =some y/\y.key=mk x/\y.val= .int .i64 (L.count x:Nat)/\x∈L:=by
 rcases K.find w V es.toList (znF h O) with ⟨A,q⟩|⟨j,y,A,q,J⟩
 ·refine .inl ⟨A,fun M=>?_,q⟩;obtain⟨y,N,e,_⟩:=znE h M;exact q y N e
 ·obtain⟨z,X,H,I⟩:=zj9 h q;rw[J] at H;obtain rfl:=U _ _ H;rw[I] at A;exact .inr ⟨j,y,A,q,J,I,X⟩
theorem zjA (K:Keyed P k) (H:P.underlying t=some (.map k e)) (O:(zeroValue e).run P w= .ok (.int .i64 0) w) (N: ∀a b,mk a=mk b->a=b) (h:zef mk L es clock) (M: ∀z∈L,∃l,keyOf P k (mk z)=some l) (A:keyOf P k (mk x)=some l) (I:w.heap[b]? =some (.map es clock)):
  (Instr.lookup t (.map (some b)) (mk x) false).run P w= .ok (.int .i64 (L.count x:Nat)) w:=by
 rcases znG K N h M A w with ⟨q,J,_⟩|⟨j,y,q,_⟩
 ·rw[List.count_eq_zero_of_not_mem J];simp[Instr.lookup,run_underlying H,MapKept.run_getObj_map I,K.check w _ A,q,O,Result.andThen]
 ·simp[Instr.lookup,run_underlying H,MapKept.run_getObj_map I,K.check w _ A,q,Result.andThen]
theorem znH (L:List α) (x:α):0<L.count x↔x∈L:=List.count_pos_iff
theorem zxs (L:List α) (x:α):L.count x<=L.length:=List.count_le_length
theorem znI (l1 h:List α) (x:α):(l1++h).count x=l1.count x+h.count x:=List.count_append
theorem zjB (L:List α) (x y:α):(L++[x]).count y=L.count y+if x=y then 1 else 0:=by
 rw[List.count_append,List.count_singleton];by_cases h:x=y<;>simp[h]
theorem zxt (K:Keyed P k) (ht:P.underlying t=some (.map k e)) (hz: ∀u:World,(zeroValue e).run P u= .ok (.int .i64 0) u) (hi: ∀a b,mk a=mk b->a=b) (h:zef mk L es clock) (hL: ∀z∈L,∃l,keyOf P k (mk z)=some l) (O:keyOf P k (mk x)=some l) (hb:w.heap[b]? =some (.map es clock)):
  ∃(v0:Value) (st:Nat) (ab:Array MapEntry) (q:Nat),(Instr.mapEntry t (.map (some b)) (mk x)).run P w= .ok (.tuple #[v0,goInt st]) (setBlock w b (.map ab q))/\
   (∀I:World,I.heap[b]? =some (.map ab q)->(Instr.lookup t (.map (some b)) (mk x) false).run P I= .ok (.int .i64 (L.count x:Nat)) I)/\
   ∃af H,zef mk (L++[x]) af H/\∀I:World,I.heap[b]? =some (.map ab q)->(Instr.entryStore t (.map (some b)) (goInt st) (.int .i64 ((L.count x:Nat)+1:Int))).run P I= .ok () (setBlock I b (.map af H)):=by
 have aa:=h.1;obtain⟨s1,s2,_⟩:=h.1;rcases znG K hi h hL O w with ⟨h1,U,h3⟩|⟨j,y,h1,U,h3,h4,h5⟩
 ·have c0:=List.count_eq_zero_of_not_mem U;refine⟨.int .i64 0,clock,es.push ⟨mk x,.int .i64 0,clock⟩,clock+1,?_,?_,es.push ⟨mk x,.int .i64 1,clock⟩,clock+1,?_,?_⟩
  ·simp[Instr.mapEntry,run_underlying ht,MapKept.run_getObj_map hb,K.check w false O,h1,hz,MapKept.run_setObj_map _ hb,Result.andThen,setBlock]
  ·intro I A
   rcases K.find I O (es.push ⟨mk x,.int .i64 0,clock⟩).toList (fun y V=>by
    rw[Array.toList_push,mem_append,mem_singleton] at V;rcases V with V|rfl
    ·exact znF h hL y V
    ·exact⟨_,O⟩) with ⟨_,k2⟩|⟨j,y,Y,k2,k3⟩
   ·exact absurd rfl (k2 ⟨mk x,.int .i64 0,clock⟩ (by simp))
   ·have V:=List.mem_of_getElem? k2;rw[Array.toList_push,mem_append,mem_singleton] at V;rcases V with V|rfl
    ·exact absurd k3 (h3 y V)
    ·rw[Array.toList_push] at Y;rw[c0];simp[Instr.lookup,run_underlying ht,MapKept.run_getObj_map A,K.check I _ O,Y,Result.andThen]
  ·refine⟨stamped_push aa h3,?_⟩;obtain⟨_,N,Y,k2,k3⟩:=h;refine⟨N++[x],?_,?_,fun z=>?_⟩
   ·rw[Array.toList_push,map_append,map_append,Y];rfl
   ·rw[Array.toList_push,map_append,map_append,k2];have X:N.map (fun z=>Value.int .i64 ((L++[x]).count z:Nat))=N.map (fun z=>Value.int .i64 (L.count z:Nat)):=List.map_congr_left fun z ad=>by
     have J: ¬x=z:=fun e=>U (by rw[e];exact (k3 z).1 ad);rw[zjB,if_neg J];rfl
    rw[X];simp[c0]
   ·rw[mem_append,mem_append,k3]
  ·intro I A;have M:(es.push ⟨mk x,.int .i64 0,clock⟩).findIdx? (fun e=>((e.born:Nat):Int)==((clock:Nat):Int))=some es.size:=by
    rw[findIdx_arr]
    exact findIdx_born (l:=(es.push ⟨mk x,.int .i64 0,clock⟩).toList) (j:=es.size) (e0:=⟨mk x,.int .i64 0,clock⟩) (by
     simp only[Array.toList_push,map_append,List.map_cons,List.map_nil];refine List.nodup_append.2 ⟨s2,by simp,fun a ha c hc X=>?_⟩;simp only[mem_singleton] at hc;obtain⟨x,O,rfl⟩:=List.mem_map.1 ha;have:=s1 x O
     omega) (by simp)
   have ae:(es.push ⟨mk x,.int .i64 0,clock⟩).modify es.size (fun e=>{e with val:=.int .i64 1})=es.push ⟨mk x,.int .i64 1,clock⟩:=by
    apply Array.ext';rw[Array.toList_modify,Array.toList_push,Array.toList_push,<-Array.length_toList,modify_last]
   rw[c0];simp[Instr.entryStore,MapKept.run_getObj_map A,asInt,asIntOf,goInt,M,ae,MapKept.run_setObj_map _ A,Result.andThen,setBlock]
 ·have hj:es[j]? =some y:=by simpa using U
  have ac:es.modify j (fun e=>{e with key:=mk x})=es:=by
   apply Array.ext';rw[Array.toList_modify,modify_eq_set _ _ _ _ U];have:({y with key:=mk x}:MapEntry)=y:=by rw[<-h3]
   rw[this];exact set_self _ _ _ U
  refine⟨y.val,y.born,es,clock,?_,fun I A=>zjA K ht (hz I) hi h hL O A,es.modify j (fun e'=>{e' with val:=.int .i64 ((L.count x:Nat)+1:Int)}),clock,?_,?_⟩
  ·simp[Instr.mapEntry,run_underlying ht,MapKept.run_getObj_map hb,K.check w false O,h1,hj,h3,K.stays w O,ac,MapKept.run_setObj_map _ hb,Result.andThen,setBlock,h4]
  ·refine⟨stamped_modify aa j _ (fun _ _=>rfl) (fun _ _ _=>rfl),?_⟩;obtain⟨_,N,Y,k2,k3⟩:=h;have ah:N.Nodup:=by
    have:=aa.2.2;rw[Y] at this;exact (List.pairwise_map.1 this).imp fun J e=>J (by rw[e])
   have Z:N[j]? =some x:=by
    have X:=congrArg (·[j]?) Y;simp only[getElem?_map,U,Option.map_some] at X;cases hk:N[j]? with
    |none=>rw[hk] at X;cases X
    |some z=>
     rw[hk] at X;simp only[Option.map_some,sI0,h3] at X;rw[hi _ _ X]
   refine⟨N,?_,?_,fun z=>?_⟩
   ·rw[<-Y];exact modify_keys j (fun e'=>{e' with val:=.int .i64 ((L.count x:Nat)+1:Int)}) (fun _ _=>rfl)
   ·rw[Array.toList_modify,modify_eq_set _ _ _ _ U,List.map_set,k2];refine List.ext_getElem? fun i=>?_;rw[List.getElem?_set,getElem?_map,getElem?_map];by_cases e:j=i
    ·subst e;have ag:j<(N.map fun x=>Value.int .i64 (L.count x:Nat)).length:=by rw[List.length_map];exact (List.getElem?_eq_some_iff.1 Z).1
     rw[if_pos rfl,if_pos ag,Z];simp
    ·rw[if_neg e];cases hk:N[i]? with
     |none=>rfl
     |some z=>
      have J:x≠z:=fun e2=>by
       obtain⟨ha,hA⟩:=List.getElem?_eq_some_iff.1 Z;obtain⟨ai,hB⟩:=List.getElem?_eq_some_iff.1 hk;exact e ((List.getElem_inj ah).1 (by rw[hA,hB,e2]))
      simp[J]
   ·rw[k3,mem_append,mem_singleton];exact⟨.inl,fun ad=>ad.elim id (fun e=>e▸h5)⟩
  ·intro I A;have M:es.findIdx? (fun e=>((e.born:Nat):Int)==((y.born:Nat):Int))=some j:=by
    rw[findIdx_arr];exact findIdx_born s2 U
   simp[Instr.entryStore,MapKept.run_getObj_map A,asInt,asIntOf,goInt,M,MapKept.run_setObj_map _ A,Result.andThen,setBlock]
end
