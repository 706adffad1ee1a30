/- Facts and walks. -/
import Derived.Test.YtgcbmogmniahjaaGreatK1
import Derived.RangeFuncNested
import Derived.RangeFuncLeaves
import Derived.Maps.AppendAt
import Derived.OwnWalkIn
namespace Go.Proofs.YtgcbmogmniahjaaGreat
set_option maxHeartbeats 1600000
open Go.RowKit
structure Hd (C:Nat->Prop) (W:World) (C':Nat->Prop) (W':World):Prop where
 os:W'.os=W.os
 tape:W'.tape=W.tape
 output:W'.output=W.output
 size:W.heap.size<=W'.heap.size
 same: ∀k,k<W.heap.size->¬C k->W'.heap[k]? =W.heap[k]?
 sub: ∀k,C' k->C k∨W.heap.size<=k
 lt: ∀k,C' k->k<W'.heap.size
variable {w:World} {g:Nat} {C:FuncId} {S:Array Value}
theorem Hd.refl {C:Nat->Prop} (h: ∀k,C k->k<w.heap.size):Hd C w C w:=⟨rfl,rfl,rfl,Nat.le_refl _,fun _ _ _=>rfl,fun _ h=>.inl h,h⟩
theorem Hd.trans {C A z:Nat->Prop} {E H:World} (h:Hd C w A E) (k:Hd A E z H):Hd C w z H:=
 ⟨k.os.trans h.os,k.tape.trans h.tape,k.output.trans h.output,Nat.le_trans h.size k.size,
  fun i s D=>(k.same i (Nat.lt_of_lt_of_le s h.size) (fun q=>(h.sub i q).elim D (fun I=>by omega))).trans (h.same i s D),
  fun i s=>(k.sub i s).elim (fun q=>h.sub i q) (fun q=>.inr (Nat.le_trans h.size q)),k.lt⟩
theorem Hd.below {C:Nat->Prop} {z:World} (h: ∀k,C k->k<w.heap.size) (b:Bw w z):Hd C w C z:=
 ⟨b.os,b.tape,b.output,b.size,fun k q _=>b.block k q,fun _ h=>.inl h,fun k q=>Nat.lt_of_lt_of_le (h k q) b.size⟩
theorem Hd.old {C s:Nat->Prop} {q:World} (h:Hd C w s q) (E:g<=w.heap.size) (A: ∀k,C k->g<=k):Below g w q:=
 ⟨h.os,h.tape,h.output,h.size,fun k D=>h.same k (by omega) (fun z=>by have:=A k z;omega)⟩
def Loc {β:Type} (J:β->(Nat->Prop)->World->Prop):Prop:=∀pre C W W',J pre C W->(∀k,C k->W'.heap[k]? =W.heap[k]?)->J pre C W'
theorem Hd.put {C s:Nat->Prop} {z:World} (h:Hd C w s z) (D:w.heap.size<=g) (o:Obj):Hd C w s (z.putObj g o):=
 ⟨h.os,h.tape,h.output,by rw[World.putObj_size];exact h.size,fun k q A=>(World.putObj_heap_other (by omega)).trans (h.same k q A),h.sub,fun k q=>by rw[World.putObj_size];exact h.lt k q⟩
theorem Hd.more {C z R:Nat->Prop} {A:World} (h:Hd C w z A) (E: ∀k,R k->k<w.heap.size):Hd (fun k=>C k∨R k) w (fun k=>z k∨R k) A:=
 ⟨h.os,h.tape,h.output,h.size,fun k s H=>h.same k s (fun q=>H (.inl q)),fun k s=>s.elim (fun q=>(h.sub k q).elim (fun D=>.inl (.inl D)) .inr) (fun q=>.inl (.inr q)),fun k s=>s.elim (h.lt k) (fun q=>Nat.lt_of_lt_of_le (E k q) h.size)⟩
theorem Hd.congr {C s D q:Nat->Prop} {z:World} (h:Hd C w s z) (e: ∀k,C k↔D k) (A: ∀k,s k↔q k):Hd D w q z:=by
 obtain rfl:C=D:=funext fun k=>propext (e k);obtain rfl:s=q:=funext fun k=>propext (A k);exact h
def zmT (P:Program) (gf:Nat) (lb:Array Value) (xs:List BA) (H:World->Prop) (B:Nat->Prop):Prop:=
 ∀(n l:Nat) (J Jx:List BA->(Nat->Prop)->World->Prop) (C:Nat->Prop) (W:World),H W->(∀k,B k->¬C k)->Loc J->Loc Jx->(∀k,C k->k<W.heap.size)->J [] C W->
  (∀(m:Nat) (pre:List BA) (x:BA) (rest:List BA) (C1:Nat->Prop) (W1:World),xs=pre++x::rest->Hd C W C1 W1->J pre C1 W1->YieldAt Fence.wide m P l #[.string x] W1 fun e W'=>
   ∃C',Hd C1 W1 C' W'/\((e= .returned (.bool true)/\J (pre++[x]) C' W')∨(e= .returned (.bool false)/\Jx (pre++[x]) C' W')))->
  CallsIn Fence.wide n P gf (#[.func (.yield l) #[] #[]]++lb) W fun e W'=>(∃v,e= .returned v)/\∃C',Hd C W C' W'/\(J xs C' W'∨∃pre,pre<+:xs/\Jx pre C' W')
theorem zhp:Fence.wide.depth.isSome=true->1<=g:=fun h=>(by cases h)
theorem zmU {k:Nat} {P:Program} {R z:Ending->World->Prop} (h:Calls P C S w R) (A: ∀e q,R e q->z e q):Fence.wide.fn C/\(Fence.wide.depth.isSome=true->1<=k)/\CallsIn Fence.wide g P C S w z:=⟨trivial,zhp,(callsIn_wide.2 h).mono A⟩
def zwa (I:List BA->(Nat->Prop)->World->Prop) (Ix:Code->List BA->(Nat->Prop)->World->Prop) (xs:List BA) (C:Nat->Prop) (W:World):Exit->Act->World->Prop
 | .normal,_,W'=>∃C',Hd C W C' W'/\I xs C' W'
 | .ret,_,W'=>∃C',Hd C W C' W'/\Ix .ret xs C' W'
 | .exit id,_,W'=>∃C',Hd C W C' W'/\Ix (.exit id) xs C' W'
 | .goto t,_,W'=>∃C',Hd C W C' W'/\Ix (.goto t) xs C' W'
 | .panic _,_,_=>False
 | .outgrown,_,_=>False
theorem zmV {o:Obj} {C:Nat->Prop} (h: ¬C g): ∀k,C k->(w.putObj g o).heap[k]? =w.heap[k]?:=fun _ q=>World.putObj_heap_other (fun e=>h (e▸q))
theorem zwb {P:Program} {s:Operand} {ps:Array Tmp} {assign body:Code} {Q:Exit->Act->World->Prop} {a:Act} {gf:Nat} (hg:a.eval s= .func (.func gf) #[] S) (eg: ∀args w,(callFunc gf args).run P w= .ok (.enter gf args) w) {xs:List BA} {H:World->Prop} {B:Nat->Prop} (av:zmT P gf S xs H B) (hH: ∀W,(∀k,B k->W.heap[k]? =w.heap[k]?)->H W) (aq: ∀k,B k->k<w.heap.size) (aA:ps.size=1) (I:List BA->(Nat->Prop)->World->Prop) (Ix:Code->List BA->(Nat->Prop)->World->Prop) (hI:Loc I) (ac: ∀c,Loc (Ix c)) (C:Nat->Prop) (aw: ∀k,B k->¬C k) (hC: ∀k,C k->k<w.heap.size) (h0:I [] C w) (a₁:BA->Act) (ad: ∀(l m:Nat) (x:BA) (W:World) (K:Act->World->Prop),K (a₁ x) W->
   assign.wpIn (Fence.wide.inRound l) m P (Exit.then K (fun _ _ _=>False)) {tmps:=(ps.zip #[Value.string x]).foldl (fun t (p,v)=>t.setIfInBounds p v) a.tmps,defers:=[]} W) (ag: ∀(l m:Nat) (A:List BA) (x:BA) (rest:List BA) (z:Nat->Prop) (W:World),xs=A++x::rest->Hd C w z W->I A z W->body.wpIn (Fence.wide.inRound l) m P (zwa I Ix (A++[x]) z W) (a₁ x) W) (ah: ∀(D:Nat) (z:Nat->Prop) (W:World),w.heap.size<=D->Hd C w z W->¬z D->I xs z W->W.heap[D]? =some (.deferred (some []))->Q .normal {a with defers:={target:=.collected D,args:=#[]}::a.defers} W) (al: ∀(D:Nat) (c:Code) (A:List BA) (z:Nat->Prop) (W:World),w.heap.size<=D->A<+:xs->Hd C w z W->¬z D->Ix c A z W->W.heap[D]? =some (.deferred (some []))->c.wpIn Fence.wide g P Q {a with defers:={target:=.collected D,args:=#[]}::a.defers} W):
  (Code.rangeFunc s ps assign body).wpIn Fence.wide g P Q a w:=by
 refine wpIn_rangeFunc ?_;intro fn aD;show ∃l aG,_;obtain⟨J,E⟩: ∃J:LoopState->Option Code->Loop,J=fun st pe=>{state:=st,pending:=pe,fn,tmps:=a.tmps,params:=ps,assign,body,defers:=w.heap.size}:=⟨_,rfl⟩;obtain⟨W1,ae⟩: ∃W1,(w.alloc (.deferred (some []))).alloc (.loop (J .ready none))=W1:=⟨_,rfl⟩;have ap:W1.heap[w.heap.size+1]? =some (.loop (J .ready none)):=by
  rw[<-ae];have:=World.alloc_heap_new (w.alloc (.deferred (some []))) (.loop (J .ready none));rwa[World.size_alloc] at this
 have ao:W1.heap[w.heap.size]? =some (.deferred (some [])):=by
  rw[<-ae];exact (Below.heap_alloc _ _ _ (by simp)).trans (World.alloc_heap_new w _)
 have aH:W1.heap.size=w.heap.size+2:=by rw[<-ae];simp
 have ab:Bw w W1:=by
  rw[<-ae];exact ((Below.refl _ w).alloc (Nat.le_refl _) _).alloc (by simp) _
 obtain⟨D,hD⟩: ∃D,w.heap.size=D:=⟨_,rfl⟩;obtain⟨l,ax⟩: ∃l,w.heap.size+1=l:=⟨_,rfl⟩;have aB: ¬C D:=fun h=>by have:=hC D h;omega
 have aE: ¬C l:=fun h=>by have:=hC l h;omega
 -- what the iterator sees of the body: what it holds,the record and the block for deferred calls
 have ak: ∀z W,¬z D->¬z l->Hd (fun k=>C k∨k=D∨k=l) W1 (fun k=>z k∨k=D∨k=l) W->Hd C w z W:=fun z W Z O h=>
  ⟨h.os.trans ab.os,h.tape.trans ab.tape,h.output.trans ab.output,Nat.le_trans ab.size h.size,
   fun k q hc=>(h.same k (by omega) (fun h3=>h3.elim hc (fun h4=>by omega))).trans (ab.block k q),
   fun k q=>(h.sub k (.inl q)).elim (fun h3=>h3.elim .inl (fun h4=>h4.elim (fun X=>absurd (X▸q) Z) (fun X=>absurd (X▸q) O))) (fun h3=>.inr (by omega)),
   fun k q=>h.lt k (.inl q)⟩
 refine⟨w.heap.size+1,[{target:=.collected w.heap.size,args:=#[]}],W1,{target:=.fn (.func gf) S,args:=#[.func (.yield (w.heap.size+1)) #[] #[]]},W1,gf,
  #[.func (.yield (w.heap.size+1)) #[] #[]]++S,W1,?_,?_,?_,?_,fun h=>(by cases h),?_⟩
 ·rw[<-ae,E];exact run_enterLoop_outer ..
 ·simp only[resolve,hg];simp[go_sem]
 ·intro f' _;trivial
 ·simp[invoke,go_sem,eg]
 ·rw[ax] at ap ⊢;rw[hD] at ao ⊢
  refine (av (g-1) l
   (fun A Cx W=>∃z,Cx=(fun k=>z k∨k=D∨k=l)/\¬z D/\¬z l/\I A z W/\W.heap[l]? =some (.loop (J .ready none))/\W.heap[D]? =some (.deferred (some [])))
   (fun A Cx W=>∃z c,Cx=(fun k=>z k∨k=D∨k=l)/\¬z D/\¬z l/\Ix c A z W/\W.heap[l]? =some (.loop (J .done (some c)))/\W.heap[D]? =some (.deferred (some [])))
   (fun k=>C k∨k=D∨k=l) W1 (hH W1 (fun k q=>ab.block k (by have:=aq k q;omega))) ?_ ?_ ?_ ?_ ?_ ?_).mono ?_
  ·intro k q h;have:=aq k q;rcases h with h|h|h
   ·exact aw k q h
   ·omega
   ·omega
  ·rintro A Cx W W' ⟨z,rfl,Z,O,h3,h4,X⟩ hs;exact⟨z,rfl,Z,O,hI _ _ _ _ h3 (fun k q=>hs k (.inl q)),(hs l (.inr (.inr rfl))).trans h4,(hs D (.inr (.inl rfl))).trans X⟩
  ·rintro A Cx W W' ⟨z,c,rfl,Z,O,h3,h4,X⟩ hs;exact⟨z,c,rfl,Z,O,ac c _ _ _ _ h3 (fun k q=>hs k (.inl q)),(hs l (.inr (.inr rfl))).trans h4,(hs D (.inr (.inl rfl))).trans X⟩
  ·rintro k (h|h|h)
   ·have:=hC k h;omega
   ·omega
   ·omega
  ·exact⟨C,rfl,aB,aE,hI _ _ _ _ h0 (fun k q=>ab.block k (by have:=hC k q;omega)),ap,ao⟩
  ·--one round
   rintro m A x rest Cx W hx af ⟨z,rfl,Z,O,hi,hl,q⟩;have hF:=ak z W Z O af;have ay:l<W.heap.size:=(aLt hl);have aJ:D<W.heap.size:=(aLt q);have hy:=run_yield (P:=P) (args:=#[Value.string x]) hl (by rw[E];exact aA.symm);rw[E] at hy;refine⟨fn,_,assign,body,hy,roundIn_of_wpIn aD (ad l m x W _ ⟨_,run_beginRound hl (by rw[E]),?_⟩)⟩;clear hy;obtain⟨Y,N⟩: ∃Y,W.putObj l (.loop {J .ready none with state:=.busy})=Y:=⟨_,rfl⟩;have aC:Y.heap[l]? =some (.loop {J .ready none with state:=.busy}):=by rw[<-N];exact World.putObj_heap_same ay
   have az:Y.heap[D]? =some (.deferred (some [])):=by rw[<-N];exact (World.putObj_heap_other (by omega)).trans q
   have am:Y.heap.size=W.heap.size:=by rw[<-N];simp
   have aj: ∀k,k≠l->Y.heap[k]? =W.heap[k]?:=fun j hj=>by rw[<-N];exact World.putObj_heap_other hj
   have aF:Hd C w z Y:=⟨by rw[<-hF.os,<-N];rfl,by rw[<-hF.tape,<-N];rfl,by rw[<-hF.output,<-N];rfl,by rw[am];exact hF.size,fun k q hc=>(aj k (by omega)).trans (hF.same k q hc),hF.sub,fun k q=>by rw[am];exact hF.lt k q⟩;have ai:Y.os=W.os/\Y.tape=W.tape/\Y.output=W.output:=by rw[<-N];exact⟨rfl,rfl,rfl⟩
   rw[N];refine wpIn_mono (ag l m A x rest z Y hx aF (hI _ _ _ _ hi (fun k q=>aj k (fun e=>O (e▸q))))) ?_;have V: ∀(L:Option Code) (U:Nat->Prop) (W3:World),Hd z Y U W3->∃W4,
     (Instr.endRound l L).run P W3= .ok (.bool L.isNone) W4/\(∀k,k≠l->W4.heap[k]? =W3.heap[k]?)/\W4.heap[l]? =some (.loop (J (if L.isNone then .ready else .done) L))/\W4.heap[D]? =some (.deferred (some []))/\¬U D/\¬U l/\Hd (fun k=>z k∨k=D∨k=l) W (fun k=>U k∨k=D∨k=l) W4:=fun L U W3 M=>by
    have ar:=(M.same l (by omega) O).trans aC;have au:=(M.same D (by omega) Z).trans az;have:=run_endRound (P:=P) L ar;have an:l<W3.heap.size:=(aLt ar);have aI:D<W3.heap.size:=(aLt au);refine⟨_,this,fun k q=>World.putObj_heap_other q,?_,(World.putObj_heap_other (by omega)).trans au,fun h=>(M.sub D h).elim Z (fun h=>by omega),fun h=>(M.sub l h).elim O (fun h=>by omega),?_⟩
    ·rw[E];exact World.putObj_heap_same an
    ·refine⟨M.os.trans ai.1,M.tape.trans ai.2.1,M.output.trans ai.2.2,by rw[World.putObj_size];have:=M.size;omega,fun k q hc=>?_,fun k q=>?_,fun k q=>?_⟩
     ·exact (World.putObj_heap_other (fun e=>hc (.inr (.inr e)))).trans ((M.same k (by omega) (fun h=>hc (.inl h))).trans (aj k (fun e=>hc (.inr (.inr e)))))
     ·rcases q with h|h|h
      ·exact (M.sub k h).elim (fun h=>.inl (.inl h)) (fun h=>.inr (by omega))
      ·exact .inl (.inr (.inl h))
      ·exact .inl (.inr (.inr h))
     ·rw[World.putObj_size];rcases q with h|h|h
      ·exact M.lt k h
      ·omega
      ·omega
   rintro e a3 W3 hp;cases e with
   |normal=>
    obtain⟨U,M,aa⟩:=hp;obtain⟨W4,hr,ho,h4,X,h6,h7,h8⟩:=V none U W3 M;exact⟨_,_,hr,_,h8,.inl ⟨rfl,U,rfl,h6,h7,hI _ _ _ _ aa (fun k q=>ho k (fun e=>h7 (e▸q))),h4,X⟩⟩
   |ret=>
    obtain⟨U,M,aa⟩:=hp;obtain⟨W4,hr,ho,h4,X,h6,h7,h8⟩:=V (some .ret) U W3 M;exact⟨_,_,hr,_,h8,.inr ⟨rfl,U,.ret,rfl,h6,h7,ac _ _ _ _ _ aa (fun k q=>ho k (fun e=>h7 (e▸q))),h4,X⟩⟩
   |exit id=>
    obtain⟨U,M,aa⟩:=hp;obtain⟨W4,hr,ho,h4,X,h6,h7,h8⟩:=V (some (.exit id)) U W3 M;exact⟨_,_,hr,_,h8,.inr ⟨rfl,U,.exit id,rfl,h6,h7,ac _ _ _ _ _ aa (fun k q=>ho k (fun e=>h7 (e▸q))),h4,X⟩⟩
   |goto t=>
    obtain⟨U,M,aa⟩:=hp;obtain⟨W4,hr,ho,h4,X,h6,h7,h8⟩:=V (some (.goto t)) U W3 M;exact⟨_,_,hr,_,h8,.inr ⟨rfl,U,.goto t,rfl,h6,h7,ac _ _ _ _ _ aa (fun k q=>ho k (fun e=>h7 (e▸q))),h4,X⟩⟩
   |panic ch=>exact hp.elim
   |outgrown=>exact hp.elim
  ·--behind the iterator
   have V: ∀(z:Nat->Prop) (W:World) (o:Obj),¬z l->Hd C w z W->Hd C w z (W.putObj l o):=fun z W o hn h=>
    ⟨h.os,h.tape,h.output,by rw[World.putObj_size];exact h.size,fun k q hc=>(World.putObj_heap_other (by omega)).trans (h.same k q hc),h.sub,fun k q=>by rw[World.putObj_size];exact h.lt k q⟩
   rintro e Y ⟨⟨v,rfl⟩,Cx,af,(⟨z,rfl,Z,O,hi,hl,q⟩|⟨A,hp,z,c,rfl,Z,O,hi,hl,q⟩)⟩
   ·have hF:=ak z Y Z O af;exact⟨none,_,by have:=run_endLoop (P:=P) hl (by rw[E];simp);rw[E] at this;exact this,ah D z _ (by omega) (V _ _ _ O hF) Z (hI _ _ _ _ hi (zmV O)) ((World.putObj_heap_other (by omega)).trans q)⟩
   ·have hF:=ak z Y Z O af;exact⟨some c,_,by have:=run_endLoop (P:=P) hl (by rw[E];simp);rw[E] at this;exact this,al D c A z _ (by omega) hp (V _ _ _ O hF) Z (ac c _ _ _ _ hi (zmV O)) ((World.putObj_heap_other (by omega)).trans q)⟩
theorem ziV {e:Ending} {A B:Prop} (h:(e= .returned (.bool true)/\A)∨(e= .returned (.bool false)/\B)): ∃b,e= .returned (.bool b)/\((b=true/\A)∨(b=false/\B)):=by
 rcases h with ⟨q,w⟩|⟨q,w⟩
 ·exact⟨true,q,.inl ⟨rfl,w⟩⟩
 ·exact⟨false,q,.inr ⟨rfl,w⟩⟩
theorem zwc {k l:Nat} {P:Program} {R z:Ending->World->Prop} (h:Calls P C S w R) (A: ∀e q,R e q->z e q):(Fence.wide.inRound l).fn C/\((Fence.wide.inRound l).depth.isSome=true->1<=k)/\CallsIn (Fence.wide.inRound l) g P C S w z:=⟨trivial,fun h=>(by cases h),CallsIn.inRound l ((callsIn_wide.2 h).mono A)⟩
end Go.Proofs.YtgcbmogmniahjaaGreat
