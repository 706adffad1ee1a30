/- Facts. -/
import Derived.Test.YtegdaafmaookjaaGreatP0
import Derived.RangeFuncNested
import Derived.RangeFuncLeaves
import Derived.OwnWalkIn
namespace Go.Proofs.YtegdaafmaookjaaGreat
set_option maxHeartbeats 1600000
open Go.RowKit
structure Hd (C:Nat->Prop) (W:World) (C':Nat->Prop) (W':World):Prop where
 os:W'.os=W.os
 tape:W'.tape=W.tape
 output:W'.output=W.output
 size:W.heap.size<=W'.heap.size
 same: ∀k,k<W.heap.size->¬C k->W'.heap[k]? =W.heap[k]?
 sub: ∀k,C' k->C k∨W.heap.size<=k
 lt: ∀k,C' k->k<W'.heap.size
variable {w:World} {g:Nat} {C:FuncId} {S:Array Value}
theorem Hd.refl {C:Nat->Prop} (h: ∀k,C k->k<w.heap.size):Hd C w C w:=⟨rfl,rfl,rfl,Nat.le_refl _,fun _ _ _=>rfl,fun _ h=>.inl h,h⟩
theorem Hd.trans {C H A:Nat->Prop} {J K:World} (h:Hd C w H J) (k:Hd H J A K):Hd C w A K:=
 ⟨k.os.trans h.os,k.tape.trans h.tape,k.output.trans h.output,Nat.le_trans h.size k.size,
  fun i z I=>(k.same i (Nat.lt_of_lt_of_le z h.size) (fun q=>(h.sub i q).elim I (fun L=>by omega))).trans (h.same i z I),
  fun i z=>(k.sub i z).elim (fun q=>h.sub i q) (fun q=>.inr (Nat.le_trans h.size q)),k.lt⟩
theorem Hd.below {C:Nat->Prop} {z:World} (h: ∀k,C k->k<w.heap.size) (b:Bw w z):Hd C w C z:=
 ⟨b.os,b.tape,b.output,b.size,fun k q _=>b.block k q,fun _ h=>.inl h,fun k q=>Nat.lt_of_lt_of_le (h k q) b.size⟩
theorem Hd.old {C z:Nat->Prop} {q:World} (h:Hd C w z q) (J:g<=w.heap.size) (H: ∀k,C k->g<=k):Below g w q:=
 ⟨h.os,h.tape,h.output,h.size,fun k I=>h.same k (by omega) (fun A=>by have:=H k A;omega)⟩
def Loc {β:Type} (J:β->(Nat->Prop)->World->Prop):Prop:=∀pre C W W',J pre C W->(∀k,C k->W'.heap[k]? =W.heap[k]?)->J pre C W'
theorem Hd.put {C z:Nat->Prop} {A:World} (h:Hd C w z A) (I:w.heap.size<=g) (o:Obj):Hd C w z (A.putObj g o):=
 ⟨h.os,h.tape,h.output,by rw[World.putObj_size];exact h.size,fun k q H=>(World.putObj_heap_other (by omega)).trans (h.same k q H),h.sub,fun k q=>by rw[World.putObj_size];exact h.lt k q⟩
theorem Hd.more {C A R:Nat->Prop} {H:World} (h:Hd C w A H) (J: ∀k,R k->k<w.heap.size):Hd (fun k=>C k∨R k) w (fun k=>A k∨R k) H:=
 ⟨h.os,h.tape,h.output,h.size,fun k z K=>h.same k z (fun q=>K (.inl q)),fun k z=>z.elim (fun q=>(h.sub k q).elim (fun I=>.inl (.inl I)) .inr) (fun q=>.inl (.inr q)),fun k z=>z.elim (h.lt k) (fun q=>Nat.lt_of_lt_of_le (J k q) h.size)⟩
theorem Hd.congr {C z D q:Nat->Prop} {A:World} (h:Hd C w z A) (e: ∀k,C k↔D k) (H: ∀k,z k↔q k):Hd D w q A:=by
 obtain rfl:C=D:=funext fun k=>propext (e k);obtain rfl:z=q:=funext fun k=>propext (H k);exact h
def znQ (P:Program) (gf:Nat) (lb:Array Value) (xs:List BA0) (H:World->Prop) (B:Nat->Prop):Prop:=
 ∀(n l:Nat) (J Jx:List BA0->(Nat->Prop)->World->Prop) (C:Nat->Prop) (W:World),H W->(∀k,B k->¬C k)->Loc J->Loc Jx->(∀k,C k->k<W.heap.size)->J [] C W->
  (∀(m:Nat) (pre:List BA0) (x:BA0) (rest:List BA0) (C1:Nat->Prop) (W1:World),xs=pre++x::rest->Hd C W C1 W1->J pre C1 W1->YieldAt Fence.wide m P l #[.string x] W1 fun e W'=>
   ∃C',Hd C1 W1 C' W'/\((e= .returned (.bool true)/\J (pre++[x]) C' W')∨(e= .returned (.bool false)/\Jx (pre++[x]) C' W')))->
  CallsIn Fence.wide n P gf (#[.func (.yield l) #[] #[]]++lb) W fun e W'=>(∃v,e= .returned v)/\∃C',Hd C W C' W'/\(J xs C' W'∨∃pre,pre<+:xs/\Jx pre C' W')
theorem zhV:Fence.wide.depth.isSome=true->1<=g:=fun h=>(by cases h)
theorem znR {k:Nat} {P:Program} {R q:Ending->World->Prop} (h:Calls P C S w R) (A: ∀e w',R e w'->q e w'):Fence.wide.fn C/\(Fence.wide.depth.isSome=true->1<=k)/\CallsIn Fence.wide g P C S w q:=⟨trivial,zhV,(callsIn_wide.2 h).mono A⟩
def zxI (I:List BA0->(Nat->Prop)->World->Prop) (Ix:Code->List BA0->(Nat->Prop)->World->Prop) (xs:List BA0) (C:Nat->Prop) (W:World):Exit->Act->World->Prop
 | .normal,_,W'=>∃C',Hd C W C' W'/\I xs C' W'
 | .ret,_,W'=>∃C',Hd C W C' W'/\Ix .ret xs C' W'
 | .exit id,_,W'=>∃C',Hd C W C' W'/\Ix (.exit id) xs C' W'
 | .goto t,_,W'=>∃C',Hd C W C' W'/\Ix (.goto t) xs C' W'
 | .panic _,_,_=>False
 | .outgrown,_,_=>False
theorem znS {o:Obj} {C:Nat->Prop} (h: ¬C g): ∀k,C k->(w.putObj g o).heap[k]? =w.heap[k]?:=fun _ q=>World.putObj_heap_other (fun e=>h (e▸q))
theorem zxJ {P:Program} {z:Operand} {ps:Array Tmp} {assign body:Code} {Q:Exit->Act->World->Prop} {a:Act} {gf:Nat} (hg:a.eval z= .func (.func gf) #[] S) (eg: ∀args w,(callFunc gf args).run P w= .ok (.enter gf args) w) {xs:List BA0} {H:World->Prop} {B:Nat->Prop} (av:znQ P gf S xs H B) (hH: ∀W,(∀k,B k->W.heap[k]? =w.heap[k]?)->H W) (aq: ∀k,B k->k<w.heap.size) (aA:ps.size=1) (I:List BA0->(Nat->Prop)->World->Prop) (Ix:Code->List BA0->(Nat->Prop)->World->Prop) (hI:Loc I) (ac: ∀c,Loc (Ix c)) (C:Nat->Prop) (aw: ∀k,B k->¬C k) (hC: ∀k,C k->k<w.heap.size) (h0:I [] C w) (a₁:BA0->Act) (ad: ∀(l m:Nat) (x:BA0) (W:World) (K:Act->World->Prop),K (a₁ x) W->
   assign.wpIn (Fence.wide.inRound l) m P (Exit.then K (fun _ _ _=>False)) {tmps:=(ps.zip #[Value.string x]).foldl (fun t (p,v)=>t.setIfInBounds p v) a.tmps,defers:=[]} W) (ag: ∀(l m:Nat) (J:List BA0) (x:BA0) (rest:List BA0) (A:Nat->Prop) (W:World),xs=J++x::rest->Hd C w A W->I J A W->body.wpIn (Fence.wide.inRound l) m P (zxI I Ix (J++[x]) A W) (a₁ x) W) (ah: ∀(D:Nat) (A:Nat->Prop) (W:World),w.heap.size<=D->Hd C w A W->¬A D->I xs A W->W.heap[D]? =some (.deferred (some []))->Q .normal {a with defers:={target:=.collected D,args:=#[]}::a.defers} W) (al: ∀(D:Nat) (c:Code) (J:List BA0) (A:Nat->Prop) (W:World),w.heap.size<=D->J<+:xs->Hd C w A W->¬A D->Ix c J A W->W.heap[D]? =some (.deferred (some []))->c.wpIn Fence.wide g P Q {a with defers:={target:=.collected D,args:=#[]}::a.defers} W):
  (Code.rangeFunc z ps assign body).wpIn Fence.wide g P Q a w:=by
 refine wpIn_rangeFunc ?_;intro fn aD;show ∃l aG,_;obtain⟨M,L⟩: ∃M:LoopState->Option Code->Loop,M=fun st pe=>{state:=st,pending:=pe,fn,tmps:=a.tmps,params:=ps,assign,body,defers:=w.heap.size}:=⟨_,rfl⟩;obtain⟨W1,ae⟩: ∃W1,(w.alloc (.deferred (some []))).alloc (.loop (M .ready none))=W1:=⟨_,rfl⟩;have ap:W1.heap[w.heap.size+1]? =some (.loop (M .ready none)):=by
  rw[<-ae];have:=World.alloc_heap_new (w.alloc (.deferred (some []))) (.loop (M .ready none));rwa[World.size_alloc] at this
 have ao:W1.heap[w.heap.size]? =some (.deferred (some [])):=by
  rw[<-ae];exact (Below.heap_alloc _ _ _ (by simp)).trans (World.alloc_heap_new w _)
 have aH:W1.heap.size=w.heap.size+2:=by rw[<-ae];simp
 have ab:Bw w W1:=by
  rw[<-ae];exact ((Below.refl _ w).alloc (Nat.le_refl _) _).alloc (by simp) _
 obtain⟨D,hD⟩: ∃D,w.heap.size=D:=⟨_,rfl⟩;obtain⟨l,ax⟩: ∃l,w.heap.size+1=l:=⟨_,rfl⟩;have aB: ¬C D:=fun h=>by have:=hC D h;omega
 have aE: ¬C l:=fun h=>by have:=hC l h;omega
 -- what the iterator sees of the body: what it holds,the record and the block for deferred calls
 have ak: ∀A W,¬A D->¬A l->Hd (fun k=>C k∨k=D∨k=l) W1 (fun k=>A k∨k=D∨k=l) W->Hd C w A W:=fun A W h1 V h=>
  ⟨h.os.trans ab.os,h.tape.trans ab.tape,h.output.trans ab.output,Nat.le_trans ab.size h.size,
   fun k q hc=>(h.same k (by omega) (fun h3=>h3.elim hc (fun h4=>by omega))).trans (ab.block k q),
   fun k q=>(h.sub k (.inl q)).elim (fun h3=>h3.elim .inl (fun h4=>h4.elim (fun Z=>absurd (Z▸q) h1) (fun Z=>absurd (Z▸q) V))) (fun h3=>.inr (by omega)),
   fun k q=>h.lt k (.inl q)⟩
 refine⟨w.heap.size+1,[{target:=.collected w.heap.size,args:=#[]}],W1,{target:=.fn (.func gf) S,args:=#[.func (.yield (w.heap.size+1)) #[] #[]]},W1,gf,
  #[.func (.yield (w.heap.size+1)) #[] #[]]++S,W1,?_,?_,?_,?_,fun h=>(by cases h),?_⟩
 ·rw[<-ae,L];exact run_enterLoop_outer ..
 ·simp only[resolve,hg];simp[go_sem]
 ·intro f' _;trivial
 ·simp[invoke,go_sem,eg]
 ·rw[ax] at ap ⊢;rw[hD] at ao ⊢
  refine (av (g-1) l
   (fun J Cx W=>∃A,Cx=(fun k=>A k∨k=D∨k=l)/\¬A D/\¬A l/\I J A W/\W.heap[l]? =some (.loop (M .ready none))/\W.heap[D]? =some (.deferred (some [])))
   (fun J Cx W=>∃A c,Cx=(fun k=>A k∨k=D∨k=l)/\¬A D/\¬A l/\Ix c J A W/\W.heap[l]? =some (.loop (M .done (some c)))/\W.heap[D]? =some (.deferred (some [])))
   (fun k=>C k∨k=D∨k=l) W1 (hH W1 (fun k q=>ab.block k (by have:=aq k q;omega))) ?_ ?_ ?_ ?_ ?_ ?_).mono ?_
  ·intro k q h;have:=aq k q;rcases h with h|h|h
   ·exact aw k q h
   ·omega
   ·omega
  ·rintro J Cx W W' ⟨A,rfl,h1,V,h3,h4,Z⟩ hs;exact⟨A,rfl,h1,V,hI _ _ _ _ h3 (fun k q=>hs k (.inl q)),(hs l (.inr (.inr rfl))).trans h4,(hs D (.inr (.inl rfl))).trans Z⟩
  ·rintro J Cx W W' ⟨A,c,rfl,h1,V,h3,h4,Z⟩ hs;exact⟨A,c,rfl,h1,V,ac c _ _ _ _ h3 (fun k q=>hs k (.inl q)),(hs l (.inr (.inr rfl))).trans h4,(hs D (.inr (.inl rfl))).trans Z⟩
  ·rintro k (h|h|h)
   ·have:=hC k h;omega
   ·omega
   ·omega
  ·exact⟨C,rfl,aB,aE,hI _ _ _ _ h0 (fun k q=>ab.block k (by have:=hC k q;omega)),ap,ao⟩
  ·--one round
   rintro m J x rest Cx W hx af ⟨A,rfl,h1,V,hi,hl,q⟩;have hF:=ak A W h1 V af;have ay:l<W.heap.size:=(aLt hl);have aJ:D<W.heap.size:=(aLt q);have hy:=run_yield (P:=P) (args:=#[Value.string x]) hl (by rw[L];exact aA.symm);rw[L] at hy;refine⟨fn,_,assign,body,hy,roundIn_of_wpIn aD (ad l m x W _ ⟨_,run_beginRound hl (by rw[L]),?_⟩)⟩;clear hy;obtain⟨W2,U⟩: ∃W2,W.putObj l (.loop {M .ready none with state:=.busy})=W2:=⟨_,rfl⟩;have aC:W2.heap[l]? =some (.loop {M .ready none with state:=.busy}):=by rw[<-U];exact World.putObj_heap_same ay
   have az:W2.heap[D]? =some (.deferred (some [])):=by rw[<-U];exact (World.putObj_heap_other (by omega)).trans q
   have am:W2.heap.size=W.heap.size:=by rw[<-U];simp
   have aj: ∀k,k≠l->W2.heap[k]? =W.heap[k]?:=fun j hj=>by rw[<-U];exact World.putObj_heap_other hj
   have aF:Hd C w A W2:=⟨by rw[<-hF.os,<-U];rfl,by rw[<-hF.tape,<-U];rfl,by rw[<-hF.output,<-U];rfl,by rw[am];exact hF.size,fun k q hc=>(aj k (by omega)).trans (hF.same k q hc),hF.sub,fun k q=>by rw[am];exact hF.lt k q⟩;have ai:W2.os=W.os/\W2.tape=W.tape/\W2.output=W.output:=by rw[<-U];exact⟨rfl,rfl,rfl⟩
   rw[U];refine wpIn_mono (ag l m J x rest A W2 hx aF (hI _ _ _ _ hi (fun k q=>aj k (fun e=>V (e▸q))))) ?_;have Y: ∀(N:Option Code) (X:Nat->Prop) (W3:World),Hd A W2 X W3->∃W4,
     (Instr.endRound l N).run P W3= .ok (.bool N.isNone) W4/\(∀k,k≠l->W4.heap[k]? =W3.heap[k]?)/\W4.heap[l]? =some (.loop (M (if N.isNone then .ready else .done) N))/\W4.heap[D]? =some (.deferred (some []))/\¬X D/\¬X l/\Hd (fun k=>A k∨k=D∨k=l) W (fun k=>X k∨k=D∨k=l) W4:=fun N X W3 O=>by
    have ar:=(O.same l (by omega) V).trans aC;have au:=(O.same D (by omega) h1).trans az;have:=run_endRound (P:=P) N ar;have an:l<W3.heap.size:=(aLt ar);have aI:D<W3.heap.size:=(aLt au);refine⟨_,this,fun k q=>World.putObj_heap_other q,?_,(World.putObj_heap_other (by omega)).trans au,fun h=>(O.sub D h).elim h1 (fun h=>by omega),fun h=>(O.sub l h).elim V (fun h=>by omega),?_⟩
    ·rw[L];exact World.putObj_heap_same an
    ·refine⟨O.os.trans ai.1,O.tape.trans ai.2.1,O.output.trans ai.2.2,by rw[World.putObj_size];have:=O.size;omega,fun k q hc=>?_,fun k q=>?_,fun k q=>?_⟩
     ·exact (World.putObj_heap_other (fun e=>hc (.inr (.inr e)))).trans ((O.same k (by omega) (fun h=>hc (.inl h))).trans (aj k (fun e=>hc (.inr (.inr e)))))
     ·rcases q with h|h|h
      ·exact (O.sub k h).elim (fun h=>.inl (.inl h)) (fun h=>.inr (by omega))
      ·exact .inl (.inr (.inl h))
      ·exact .inl (.inr (.inr h))
     ·rw[World.putObj_size];rcases q with h|h|h
      ·exact O.lt k h
      ·omega
      ·omega
   rintro e a3 W3 hp;cases e with
   |normal=>
    obtain⟨X,O,aa⟩:=hp;obtain⟨W4,hr,ho,h4,Z,h6,h7,h8⟩:=Y none X W3 O;exact⟨_,_,hr,_,h8,.inl ⟨rfl,X,rfl,h6,h7,hI _ _ _ _ aa (fun k q=>ho k (fun e=>h7 (e▸q))),h4,Z⟩⟩
   |ret=>
    obtain⟨X,O,aa⟩:=hp;obtain⟨W4,hr,ho,h4,Z,h6,h7,h8⟩:=Y (some .ret) X W3 O;exact⟨_,_,hr,_,h8,.inr ⟨rfl,X,.ret,rfl,h6,h7,ac _ _ _ _ _ aa (fun k q=>ho k (fun e=>h7 (e▸q))),h4,Z⟩⟩
   |exit id=>
    obtain⟨X,O,aa⟩:=hp;obtain⟨W4,hr,ho,h4,Z,h6,h7,h8⟩:=Y (some (.exit id)) X W3 O;exact⟨_,_,hr,_,h8,.inr ⟨rfl,X,.exit id,rfl,h6,h7,ac _ _ _ _ _ aa (fun k q=>ho k (fun e=>h7 (e▸q))),h4,Z⟩⟩
   |goto t=>
    obtain⟨X,O,aa⟩:=hp;obtain⟨W4,hr,ho,h4,Z,h6,h7,h8⟩:=Y (some (.goto t)) X W3 O;exact⟨_,_,hr,_,h8,.inr ⟨rfl,X,.goto t,rfl,h6,h7,ac _ _ _ _ _ aa (fun k q=>ho k (fun e=>h7 (e▸q))),h4,Z⟩⟩
   |panic ch=>exact hp.elim
   |outgrown=>exact hp.elim
  ·--behind the iterator
   have Y: ∀(A:Nat->Prop) (W:World) (o:Obj),¬A l->Hd C w A W->Hd C w A (W.putObj l o):=fun A W o hn h=>
    ⟨h.os,h.tape,h.output,by rw[World.putObj_size];exact h.size,fun k q hc=>(World.putObj_heap_other (by omega)).trans (h.same k q hc),h.sub,fun k q=>by rw[World.putObj_size];exact h.lt k q⟩
   rintro e W2 ⟨⟨v,rfl⟩,Cx,af,(⟨A,rfl,h1,V,hi,hl,q⟩|⟨J,hp,A,c,rfl,h1,V,hi,hl,q⟩)⟩
   ·have hF:=ak A W2 h1 V af;exact⟨none,_,by have:=run_endLoop (P:=P) hl (by rw[L];simp);rw[L] at this;exact this,ah D A _ (by omega) (Y _ _ _ V hF) h1 (hI _ _ _ _ hi (znS V)) ((World.putObj_heap_other (by omega)).trans q)⟩
   ·have hF:=ak A W2 h1 V af;exact⟨some c,_,by have:=run_endLoop (P:=P) hl (by rw[L];simp);rw[L] at this;exact this,al D c J A _ (by omega) hp (Y _ _ _ V hF) h1 (ac c _ _ _ _ hi (znS V)) ((World.putObj_heap_other (by omega)).trans q)⟩
theorem zjJ {e:Ending} {A B:Prop} (h:(e= .returned (.bool true)/\A)∨(e= .returned (.bool false)/\B)): ∃b,e= .returned (.bool b)/\((b=true/\A)∨(b=false/\B)):=by
 rcases h with ⟨q,w⟩|⟨q,w⟩
 ·exact⟨true,q,.inl ⟨rfl,w⟩⟩
 ·exact⟨false,q,.inr ⟨rfl,w⟩⟩
theorem zxK {k l:Nat} {P:Program} {R q:Ending->World->Prop} (h:Calls P C S w R) (A: ∀e w',R e w'->q e w'):(Fence.wide.inRound l).fn C/\((Fence.wide.inRound l).depth.isSome=true->1<=k)/\CallsIn (Fence.wide.inRound l) g P C S w q:=⟨trivial,fun h=>(by cases h),CallsIn.inRound l ((callsIn_wide.2 h).mono A)⟩
