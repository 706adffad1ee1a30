/- Facts and walks that the theorem stands on. -/
import Derived.Maps.Own
import Derived.Test.YtgcbmogmniahjaaGreatG31
namespace Go.Proofs.YtgcbmogmniahjaaGreat
open Go.Proofs.Tryz
set_option maxRecDepth 100000
set_option maxHeartbeats 3200000
open Go.RowKit Go.PlainAid Go.Sort Go.Maps Go.ChangeMaps
def eM (gp:Nat) (k:BA) (f b:Nat):MapEntry:=⟨.string k,.func (.func f) #[.pointer (some ⟨gp,0,none⟩)] #[],b⟩
def esS (gp:Nat):Array MapEntry:=#[eM gp zF 211 0,eM gp zU 212 1,eM gp zax 213 2,eM gp za9 214 3,eM gp zbQ 215 4]
def esM (gp:Nat):Array MapEntry:=#[eM gp zF 211 0,eM gp zU 212 1,eM gp zax 213 2,eM gp za9 214 3,eM gp zak 216 4,eM gp zaj 217 5]
theorem zii (b:Bool) (k:BA) (W:World):(Instr.checkKey b 10000 9 (.string k)).run prog W= .ok () W:=by
 show (Instr.checkKey b (9999+1) 9 (.string k)).run prog W= .ok () W;rw[Instr.checkKey];simp[run_underlying underlying9]
theorem zij {k:BA} {h:List MapEntry} {r:Option (Nat×Value)} (q:Instr.findNow .string (.string k) h 0=some r) (W:World):(Instr.findKey 9 (.string k) h).run prog W= .ok r W:=by
 simp[Instr.findKey,run_underlying underlying9,q]
theorem zcS {W w0:World} {B g c:Nat} {q:Array MapEntry} {k:BA} {v:Value} (w:W.heap[g]? =some (.map q c)) (A:Instr.findNow .string (.string k) q.toList 0=some none) (h:Below B w0 W) (hB:B<=g):
  ∃z,(Instr.mapUpdate 224 (.map (some g)) (.string k) v).run prog W= .ok () z/\z.heap[g]? =some (.map (q.push ⟨.string k,v,c⟩) (c+1))/\Below B w0 z:=by
 refine⟨setBlock W g (.map (q.push ⟨.string k,v,c⟩) (c+1)),?_,heap_setBlock_same w _,⟨h.os,h.tape,h.output,by simpa [setBlock] using h.size,fun i D=>(heap_setBlock_other w _ (by omega)).trans (h.block i D)⟩⟩;simp[Instr.mapUpdate,run_underlying underlying224,MapKept.run_getObj_map w,zii,zij A,MapKept.run_setObj_map _ w,Result.andThen,setBlock]
theorem zcT {W:World} {g c i:Nat} {h:Array MapEntry} {k:BA} {v:Value} (q:W.heap[g]? =some (.map h c)) (w:Instr.findNow .string (.string k) h.toList 0=some (some (i,v))):
  (Instr.lookup 224 (.map (some g)) (.string k) true).run prog W= .ok (.tuple #[v,.bool true]) W:=by
 simp[Instr.lookup,run_underlying underlying224,MapKept.run_getObj_map q,zii,zij w,Result.andThen]
theorem zlN {W:World} {g c:Nat} {q:Array MapEntry} {k:BA} (w:W.heap[g]? =some (.map q c)) (z:Instr.findNow .string (.string k) q.toList 0=some none):
  ∃v,(Instr.lookup 224 (.map (some g)) (.string k) true).run prog W= .ok (.tuple #[v,.bool false]) W:=by
 have h: ∃v,(zeroValue 1).run prog W= .ok v W:=⟨.nilFunc,by kernel_rfl⟩;obtain⟨v,h⟩:=h;exact⟨v,by simp[Instr.lookup,run_underlying underlying224,MapKept.run_getObj_map w,zii,zij z,Result.andThen,h]⟩
theorem zt6 (C:Cx) (gt z base A:Nat) (S:Sv) (q:PS) (w:World) (h:IM C gt z base A S q w) (hs:C.scr=true):
  Calls prog 194 #[.pointer (some ⟨A,0,none⟩)] w fun e I=>e= .returned (.map (some w.heap.size))/\I.heap[w.heap.size]? =some (.map (esS A) 5)/\Below w.heap.size w I:=by
 have HH:=zc h;have X:=@run_makeMap prog;have Y: ∀(O:Fn) (first z:Array Value) (w:World),(Instr.makeFunc O first z).run prog w= .ok (.func O first z) w:=fun _ _ _ _=>rfl;obtain⟨W1,r1,N,E⟩:=zcS (k:=zF) (v:=.func (.func 211) #[.pointer (some ⟨A,0,none⟩)] #[]) (heap_alloc_new w (.map #[] 0)) rfl ((Below.refl w.heap.size w).alloc (Nat.le_refl _) _) (Nat.le_refl _);obtain⟨W2,r2,L,U⟩:=zcS (k:=zU) (v:=.func (.func 212) #[.pointer (some ⟨A,0,none⟩)] #[]) N rfl E (Nat.le_refl _);obtain⟨W3,r3,J,K⟩:=zcS (k:=zax) (v:=.func (.func 213) #[.pointer (some ⟨A,0,none⟩)] #[]) L rfl U (Nat.le_refl _);obtain⟨W4,r4,M,D⟩:=zcS (k:=za9) (v:=.func (.func 214) #[.pointer (some ⟨A,0,none⟩)] #[]) J rfl K (Nat.le_refl _);obtain⟨W5,r5,V,H⟩:=zcS (k:=zbQ) (v:=.func (.func 215) #[.pointer (some ⟨A,0,none⟩)] #[]) M rfl D (Nat.le_refl _);have G:=zc V;have B:=zc H;obtain⟨_,_,_,Z,_,_,_,_,_,_,cf⟩:=zag (HH.o.later D).cells;rw[hs] at Z;clear h N E L U J K M D V H;go_enter func194,ntmps194;go_wp2;go_ret;exact⟨rfl,G.o,B.o⟩
theorem zt7 (h:Nat):Instr.findNow .string (.string zF) (esS h).toList 0=some (some (0,.func (.func 211) #[.pointer (some ⟨h,0,none⟩)] #[])):=by rfl
theorem zt8 (h:Nat):Instr.findNow .string (.string zU) (esS h).toList 0=some (some (1,.func (.func 212) #[.pointer (some ⟨h,0,none⟩)] #[])):=by rfl
theorem zt9 (h:Nat):Instr.findNow .string (.string zax) (esS h).toList 0=some (some (2,.func (.func 213) #[.pointer (some ⟨h,0,none⟩)] #[])):=by rfl
theorem ztA (h:Nat):Instr.findNow .string (.string za9) (esS h).toList 0=some (some (3,.func (.func 214) #[.pointer (some ⟨h,0,none⟩)] #[])):=by rfl
theorem ztB (h:Nat):Instr.findNow .string (.string zbQ) (esS h).toList 0=some (some (4,.func (.func 215) #[.pointer (some ⟨h,0,none⟩)] #[])):=by rfl
theorem ztC (h:Nat) (x:BA) (A:(x==zF)=false) (z:(x==zU)=false) (q:(x==zax)=false) (D:(x==za9)=false) (w:(x==zbQ)=false):Instr.findNow .string (.string x) (esS h).toList 0=some none:=by
 simp[esS,eM,Instr.findNow,Instr.sameNow,A,z,q,D,w]
theorem ztD (C:Cx) (gt A base z:Nat) (S:Sv) (q:PS) (w:World) (h:IM C gt A base z S q w) (hs:C.scr=false):
  Calls prog 194 #[.pointer (some ⟨z,0,none⟩)] w fun e J=>e= .returned (.map (some w.heap.size))/\J.heap[w.heap.size]? =some (.map (esM z) 6)/\Below w.heap.size w J:=by
 have HH:=zc h;have Z:=@run_makeMap prog;have aa: ∀(V:Fn) (first A:Array Value) (w:World),(Instr.makeFunc V first A).run prog w= .ok (.func V first A) w:=fun _ _ _ _=>rfl;obtain⟨W1,r1,U,H⟩:=zcS (k:=zF) (v:=.func (.func 211) #[.pointer (some ⟨z,0,none⟩)] #[]) (heap_alloc_new w (.map #[] 0)) rfl ((Below.refl w.heap.size w).alloc (Nat.le_refl _) _) (Nat.le_refl _);obtain⟨W2,r2,N,X⟩:=zcS (k:=zU) (v:=.func (.func 212) #[.pointer (some ⟨z,0,none⟩)] #[]) U rfl H (Nat.le_refl _);obtain⟨W3,r3,L,M⟩:=zcS (k:=zax) (v:=.func (.func 213) #[.pointer (some ⟨z,0,none⟩)] #[]) N rfl X (Nat.le_refl _);obtain⟨W4,r4,O,D⟩:=zcS (k:=za9) (v:=.func (.func 214) #[.pointer (some ⟨z,0,none⟩)] #[]) L rfl M (Nat.le_refl _);obtain⟨W5,r5,Y,I⟩:=zcS (k:=zak) (v:=.func (.func 216) #[.pointer (some ⟨z,0,none⟩)] #[]) O rfl D (Nat.le_refl _);obtain⟨W6,r6,E,K⟩:=zcS (k:=zaj) (v:=.func (.func 217) #[.pointer (some ⟨z,0,none⟩)] #[]) Y rfl I (Nat.le_refl _);have G:=zc E;have B:=zc K;obtain⟨_,_,_,c3,_,_,_,_,_,_,cf⟩:=zag (HH.o.later D).cells;rw[hs] at c3;clear h U H N X L M O D Y I E K;go_enter func194,ntmps194;go_wp2;go_ret;exact⟨rfl,G.o,B.o⟩
theorem ztE (h:Nat):Instr.findNow .string (.string zF) (esM h).toList 0=some (some (0,.func (.func 211) #[.pointer (some ⟨h,0,none⟩)] #[])):=by rfl
theorem ztF (h:Nat):Instr.findNow .string (.string zU) (esM h).toList 0=some (some (1,.func (.func 212) #[.pointer (some ⟨h,0,none⟩)] #[])):=by rfl
theorem ztG (h:Nat):Instr.findNow .string (.string zax) (esM h).toList 0=some (some (2,.func (.func 213) #[.pointer (some ⟨h,0,none⟩)] #[])):=by rfl
theorem ztH (h:Nat):Instr.findNow .string (.string za9) (esM h).toList 0=some (some (3,.func (.func 214) #[.pointer (some ⟨h,0,none⟩)] #[])):=by rfl
theorem ztI (h:Nat):Instr.findNow .string (.string zak) (esM h).toList 0=some (some (4,.func (.func 216) #[.pointer (some ⟨h,0,none⟩)] #[])):=by rfl
theorem ztJ (h:Nat):Instr.findNow .string (.string zaj) (esM h).toList 0=some (some (5,.func (.func 217) #[.pointer (some ⟨h,0,none⟩)] #[])):=by rfl
theorem ztK (h:Nat) (x:BA) (D:(x==zF)=false) (z:(x==zU)=false) (q:(x==zax)=false) (E:(x==za9)=false) (w:(x==zak)=false) (A:(x==zaj)=false):Instr.findNow .string (.string x) (esM h).toList 0=some none:=by
 simp[esM,eM,Instr.findNow,Instr.sameNow,D,z,q,E,w,A]
def zaC (C:Cx) (q:PS):PR:=
 if isT C q.pos 1 zF then letJ C 1 (adv q)
 else if isT C q.pos 1 zU then fnI C (adv q)
 else if isT C q.pos 1 zax then printI C (adv q)
 else if isT C q.pos 1 za9 then stmtI C 5 sNone cSemi (adv q)
 else if C.scr&&isT C q.pos 1 zbQ then stmtI C 6 sNone cSemi (adv q)
 else if !C.scr&&isT C q.pos 1 zak then zaP C (adv q)
 else if !C.scr&&isT C q.pos 1 zaj then zaw C (adv q)
 else letJ C 3 q
theorem ztL (C:Cx) (k:Int) (n:BA) (q:PS):stmtI C k n cSemi q=bd (bd (bd (pE C .sum 0 q) (zd C 4 cSemi)) (zX C k n)) .ok:=by
 rw[zeE,zO,stmtI];refine zaf fun a _=>?_;rw[show zaF C cSemi cSemi.size 0 a=zd C 4 cSemi a from zjw C 59 a]
theorem zeO (C:Cx) (k:Int) (n:BA) (q:PS):bd (bd (pE C .sum 0 q) (zd C 4 cSemi)) (zX C k n)=stmtI C k n cSemi q:=by rw[ztL,zeE]
theorem ztM (C:Cx) (k:Int) (n:BA) (q:PS):bd (bd (bd (pE C .sum 0 q) (zd C 4 za6)) (zd C 4 cSemi)) (zX C k n)=stmtI C k n cShutSemi q:=by
 rw[zO,zO,stmtI];refine zaf fun a _=>?_;rw[show zaF C cShutSemi cShutSemi.size 0 a=bd (zd C 4 za6 a) (zd C 4 cSemi) from zjx C 41 59 a,zO]
theorem ztN (C:Cx) (k:Int) (n:BA) (q:PS):bd (bd (bd (pE C .sum 0 q) (zd C 4 cSemi)) (zd C 4 zb0)) (zX C k n)=stmtI C k n cSemiRight q:=by
 rw[zO,zO,stmtI];refine zaf fun a _=>?_;rw[show zaF C cSemiRight cSemiRight.size 0 a=bd (zd C 4 cSemi a) (zd C 4 zb0) from zjx C 59 125 a,zO]
theorem zlO {C:Cx} {q:PS} (h:isT C q.pos 1 zF=true):zcJ C q=bd (letJ C 1 (adv q)) fun a=>.ok (a,(ze C (q.pos+1)).text):=by
 rw[zcJ,withN,zcc h,zA,letJ,zO];refine zaf fun a w=>?_;rw[zO,zA,zO,zO,zO];refine zaf fun b _=>?_;rw[<-zO,<-zO,zeO,(zb1 w).1];rfl
theorem zlP {C:Cx} {q:PS} (h:isT C q.pos 1 zU=true):fnP C q=bd (fnI C (adv q)) fun a=>.ok (a,(ze C (q.pos+1)).text):=by
 rw[fnP,withN,zcc h,zA,fnI,zO];refine zaf fun a w=>?_;rw[show zaF C cCall cCall.size 0 a.1=bd (zd C 4 zo a.1) fun a=>bd (zd C 4 za6 a) (zd C 4 zM) from znT C 40 41 123 a.1,zO,zO,zA];rw[(zb1 w).1];simp only[zO,<-ztN];rfl
theorem zlQ (x:PR) (n:BA):zaR (bd x fun a=>.ok (a,n))=x:=by rw[zaR,zO];exact zeE x
theorem zik (C:Cx) (l:List Ep) (q:PS):impFromI C l q=bd (zbg C (zaJ C (.ok q))) fun b=>zY (fun e=>zal C (zcb b.2 e)) l (.ok b.1):=by
 rw[impFromI,zbg,zaJ,zA,zO,zO];refine zaf fun a _=>zaf fun b _=>?_;rw[zO];rfl
theorem ztO {C:Cx} {q:PS} (h:isT C q.pos 1 zak=true):zbb C q=zaP C (adv q):=by
 rw[zbb,zcc h,zA,zaP];cases E:isT C (adv q).pos 4 zM with
 |true=>
  have w:((ze C (adv q).pos).kind==3)=false:=by
   have:=zgl E;rw[beq_iff_eq] at this;rw[this];rfl
  rw[w];simp only[Bool.false_eq_true,↓reduceIte];rw[zcZ,zcc E,zA];refine zaf fun a _=>?_;rw[zik]
 |false=>
  cases D:isT C (adv q).pos 4 zx with
  |true=>
   have w:((ze C (adv q).pos).kind==3)=false:=by
    have:=zgl D;rw[beq_iff_eq] at this;rw[this];rfl
   rw[w];simp only[Bool.false_eq_true,↓reduceIte];rw[zcc D,zA,zO];refine zaf fun a _=>zaf fun b _=>?_;rw[zik];rfl
  |false=>
   cases A:zG C (adv q).pos false with
   |true=>
    have w:((ze C (adv q).pos).kind==3)=false:=by
     have z:=A;simp only[zG,Bool.and_eq_true,beq_iff_eq] at z;rw[z.1];rfl
    rw[w];simp only[Bool.false_eq_true,↓reduceIte];refine zaf fun a _=>?_;rw[zik];rfl
   |false=>
    cases w:((ze C (adv q).pos).kind==3) with
    |true=>simp only[Bool.false_eq_true,↓reduceIte]
    |false=>
     simp only[Bool.false_eq_true,↓reduceIte];rw[zK,w,zm,A];rfl
theorem ztP (C:Cx) (l:List Ep) (q:PS) (h:isT C q.pos 1 zV=false) (w:zaE l=false):zaB C l q=bd (zd C 4 cSemi q) fun q=>zY (fun e=>zp C (zD e)) l (.ok q):=by rw[zaB,h,w];rfl
theorem zlR (C:Cx) (l:List Ep) (q:PS) (h:(isT C q.pos 1 zV||zaE l)=true):zaB C l q=bd (zbg C (zaJ C (.ok q))) fun b=>zY (fun e=>zp C (zau b.2 e)) l (.ok b.1):=by
 rw[zaB,h,if_pos rfl,zbg,zaJ,zA,zO,zO];refine zaf fun a _=>zaf fun b _=>?_;rw[zO];rfl
theorem ztQ {C:Cx} {q:PS} (h:isT C q.pos 1 zaj=true):zam C q=zaw C (adv q):=by
 rw[zam,zcc h,zA,zaw];cases E:isT C (adv q).pos 4 zM with
 |true=>
  simp only[↓reduceIte];rw[zcZ,zcc E,zA];refine zaf fun a _=>?_;cases z:isT C a.1.pos 1 zV with
  |true=>rw[zlR C a.2 a.1 (by rw[z];rfl),if_neg (by simp)]
  |false=>
   cases w:zaE a.2 with
   |true=>rw[zlR C a.2 a.1 (by rw[w];simp),if_neg (by simp)]
   |false=>rw[ztP C a.2 a.1 z w,if_pos (by simp)]
 |false=>
  cases A:isT C (adv q).pos 4 zx with
  |true=>
   simp only[Bool.false_eq_true,↓reduceIte];rw[zcc A,zbg,zaJ,zA,zO,zO];refine zaf fun a _=>zaf fun b _=>?_;rw[zO];rfl
  |false=>
   cases I:isT C (adv q).pos 1 sDefault with
   |true=>
    simp only[Bool.false_eq_true,↓reduceIte];rw[zcc I,zA,zeO]
   |false=>
    cases D:isT C (adv q).pos 1 zF with
    |true=>
     simp only[Bool.false_eq_true,↓reduceIte];rw[zlO D,zO];rfl
    |false=>
     cases H:isT C (adv q).pos 1 zU with
     |true=>
      simp only[Bool.false_eq_true,↓reduceIte];rw[zlP H,zO];rfl
     |false=>simp only[Bool.false_eq_true,↓reduceIte]
theorem zdL {C:Cx} {i:Nat} {x y:BA} (h:isT C i 1 x=true) (q:(x.toList==y.toList)=false):isT C i 1 y=false:=by
 have e:=zhx h;rw[isT,e,q];simp
theorem zlS (C:Cx) (q:PS):zaC C q=zB C q:=by
 rw[zaC,zB];cases z:isT C q.pos 1 zF with
 |true=>
  rw[zdL z (y:=zak) (by simp),zdL z (y:=zaj) (by simp)];simp only[Bool.false_eq_true,↓reduceIte,Bool.and_false];rw[zlO z,zlQ]
 |false=>
  cases h:isT C q.pos 1 zU with
  |true=>
   rw[zdL h (y:=zak) (by simp),zdL h (y:=zaj) (by simp)];simp only[Bool.false_eq_true,↓reduceIte,Bool.and_false];rw[zlP h,zlQ]
  |false=>
   cases A:isT C q.pos 1 zax with
   |true=>
    rw[zdL A (y:=zak) (by simp),zdL A (y:=zaj) (by simp)];simp only[Bool.false_eq_true,↓reduceIte,Bool.and_false];rw[zcc A,zA,printI,zO,zO,zO];refine zaf fun a _=>?_;rw[<-ztM,zO,zO]
   |false=>
    cases w:isT C q.pos 1 za9 with
    |true=>
     rw[zdL w (y:=zak) (by simp),zdL w (y:=zaj) (by simp)];simp only[Bool.false_eq_true,↓reduceIte,Bool.and_false];rw[zcc w,zA,zeO]
    |false=>
     cases I:C.scr with
     |true=>
      cases H:isT C q.pos 1 zbQ with
      |true=>
       simp only[Bool.false_eq_true,↓reduceIte,Bool.not_true,Bool.false_and,Bool.and_self];rw[zcc H,zA,zeO]
      |false=>
       simp only[Bool.false_eq_true,↓reduceIte,Bool.not_true,Bool.false_and,Bool.and_false];rw[letJ];refine zaf fun a _=>?_;rw[zO,zO];refine zaf fun b _=>?_;rw[<-zO,zeO]
     |false=>
      cases D:isT C q.pos 1 zak with
      |true=>
       simp only[Bool.false_eq_true,↓reduceIte,Bool.not_false,Bool.false_and,Bool.and_self];rw[ztO D]
      |false=>
       cases E:isT C q.pos 1 zaj with
       |true=>
        simp only[Bool.false_eq_true,↓reduceIte,Bool.not_false,Bool.false_and,Bool.and_self,Bool.and_false];rw[ztQ E]
       |false=>
        simp only[Bool.false_eq_true,↓reduceIte,Bool.not_false,Bool.false_and,Bool.and_false];rw[letJ];refine zaf fun a _=>?_;rw[zO,zO];refine zaf fun b _=>?_;rw[<-zO,zeO]
theorem zlT {P:Program} {O:Array Oper} {o:Oper} {a:Act} {W:World} {K:Act->World->Prop} {Q:Exit->Act->World->Prop} {E:Prop} (Y:o.guard=none) (s x:Operand) (t:TypeId)
  (ho:o.op= .call {callee:=.builtin .append,args:=#[s,x],argTypes:=#[t,t]})
  (base:Nat) (e:TypeId) (i:TypeInfo) (z:Value) (size q:Nat) (ht:P.underlying t=some (.slice e)) (hi:P.info? e=some i) (hz:i.zero=some z) (D:i.size=size) (ab:i.bytes=q) (ac:z.cells.size=size) (aa:0<size) (N:q<=100)
  (r:Rw) (n:Nat) (xs:List Value) (hs:a.eval s= .slice r.a n r.cap) (L:OwnR W base e size r n xs)
  (U m c I:Nat) (w:List Value) (hx:a.eval x= .slice (some ⟨U,0,none⟩) m c) (hg:OwnR W I e size ⟨some ⟨U,0,none⟩,c⟩ m w) (h1: ∀u∈w,u.oneCell'=true) (hn:n+m<=4000000) (H:base<=W.heap.size)
  (h: ∀M J,OwnR J base e size M (n+m) (xs++w)->W.grownBy J r.blk->(M.blk=r.blk∨M.blk=some W.heap.size)->K (a.put o.dst (.slice M.a (n+m:Nat) M.cap)) J):
  if Region.wanted o (yielded O a.tmps)=true then Oper.wp P o a W K Q else E:=by
 have hw:Region.wanted o (yielded O a.tmps)=true:=by simp[Region.wanted,Y]
 rw[if_pos hw]
 obtain⟨v',J,hr,X,h3,_,h5⟩:=run_append_own_at (P:=P) W base t o.type e i z size q ht hi hz D ab ac aa _ n xs L ⟨U,0,none⟩ m c w hg.1 (by
  intro j u hj;have e1:(⟨U,0,none⟩:Addr).add j=⟨U,j,none⟩:=by simp[Addr.add];exact fun h=>h.symm
  have Z:j<w.length:=(List.getElem?_eq_some_iff.1 hj).1;rw[e1,World.ownsRow.cellAt hg j (by rw[<-hg.1];exact Z)]
  exact hj) h1 (by unfold maxLen;omega) (by have:(n+m)*q<=4000000*100:=Nat.mul_le_mul hn N;omega) H
 unfold Oper.wp execOp;simp only[ho,resolve,invoke,builtin,Sem.run_bind,Sem.run_pure,Result.andThen_ok,List.map_toArray,List.map_cons,List.map_nil,hs,hx,hr];rcases X.2 with ⟨hv,V⟩|⟨g',A,ae,rfl,ad⟩
 ·subst hv;have:=h ⟨none,0⟩ J (by rw[V] at X ⊢;exact X) (by rw[<-zb4 r n];exact h3) (by rw[<-zb4 r n];exact h5);rw[V] at this;exact this
 ·refine h ⟨some ⟨g',0,none⟩,A⟩ J X ?_ ?_
  ·rw[<-zb4 r n];exact h3
  ·rw[<-zb4 r n,<-zb4 ⟨some ⟨g',0,none⟩,A⟩ (n+m)];exact h5
theorem zlU {P:Program} {w:Array Oper} {o:Oper} {a:Act} {W:World} {K:Act->World->Prop} {Q:Exit->Act->World->Prop} {E:Prop} (z:o.guard=none) (s x:Operand) (t:TypeId)
  (L:o.op= .call {callee:=.builtin .append,args:=#[s,x],argTypes:=#[t,t]})
  (e:TypeId) (i:TypeInfo) (D:P.underlying t=some (.slice e)) (H:P.info? e=some i) (base size n:Nat)
  (r:Rw) (xs:List Value) (O:a.eval s= .slice r.a n r.cap) (q:OwnR W base e size r n xs) (U:a.eval x= .slice none 0 0)
  (h:K (a.put o.dst (.slice r.a n r.cap)) W):if Region.wanted o (yielded w a.tmps)=true then Oper.wp P o a W K Q else E:=by
 have J:Region.wanted o (yielded w a.tmps)=true:=by simp[Region.wanted,z]
 rw[if_pos J];have M:(Builtin.append_ #[t,t] o.type #[.slice r.a n r.cap,.slice none 0 0]).run P W= .ok (.slice r.a n r.cap) W:=by
  rcases q.2 with ⟨A,_⟩|⟨g,N,I,A,_,_,V,_⟩
  ·rw[A];simp[Builtin.append_,run_underlying D,sizeOf,typeInfo,H,Builtin.lenOf,Builtin.firstCells]
  ·rw[A];simp[Builtin.append_,run_underlying D,sizeOf,typeInfo,H,Builtin.lenOf,Builtin.firstCells,loadCells,V,storeCells]
 unfold Oper.wp execOp;simp only[L,resolve,invoke,builtin,Sem.run_bind,Sem.run_pure,Result.andThen_ok,List.map_toArray,List.map_cons,List.map_nil,O,U,M];exact h
theorem Mem.wholeI {C:Cx} {Z K base b:Nat} {S:Sv} {q:PS} {W I M:World} {E:Rw} (A:Mem C Z K base S q W) (U:W.grownBy I S.ep.blk) (X:OwnR I base 97 4 E (q.ep.length+q.la.length) (q.ep.flatMap epL++q.la.flatMap epL)) (J:E.blk=S.ep.blk∨E.blk=some W.heap.size) (hb:b<W.heap.size) (w: ¬S.has b)
  (O: ∀k,k≠b->M.heap[k]? =I.heap[k]?):OwnMod M base {S with ep:=E} q:=by
 have D:(q.ep++q.la).length=q.ep.length+q.la.length:=by simp
 have H: ∀(r:Rw) (e:TypeId) (z n:Nat) (N:List Value),OwnR W base e z r n N->e≠97->(∀k,r.blk=some k->S.has k)->OwnR M base e z r n N:=fun r e z n N h he Y=>
  h.keep fun k g=>(O k (fun L=>w (by rw[<-L];exact Y k g))).trans (U.block k (h.typed g).2.1 fun V=>(h.ne A.own.ep he g) V.symm)
 refine⟨H _ _ _ _ _ A.own.rq (by decide) fun k g=>.inl g,H _ _ _ _ _ A.own.im (by decide) fun k g=>.inr (.inl g),?_,H _ _ _ _ _ A.own.st (by decide) fun k g=>.inr (.inr (.inr (.inl g))),H _ _ _ _ _ A.own.ex (by decide) fun k g=>.inr (.inr (.inr (.inr (.inl g)))),A.inv.rq,A.inv.im,A.inv.ep,A.inv.st,A.inv.ex⟩;rw[D,List.flatMap_append];refine X.keep fun k g=>O k ?_;rcases J with e|e
 ·intro L;exact w (by rw[<-L];exact .inr (.inr (.inl (by rw[<-e];exact g))))
 ·have:W.heap.size=k:=Option.some.inj (e.symm.trans g);omega
theorem Mem.wholeI0 {C:Cx} {M E base b:Nat} {S:Sv} {q:PS} {W I:World} (z:Mem C M E base S q W) (J:q.la=[]) (A: ¬S.has b)
  (N: ∀k,k≠b->I.heap[k]? =W.heap[k]?):OwnMod I base S q:=by
 have D: ∀(r:Rw) (e:TypeId) (w n:Nat) (H:List Value),OwnR W base e w r n H->(∀k,r.blk=some k->S.has k)->OwnR I base e w r n H:=fun r e w n H h L=>
  h.keep fun k g=>N k (fun K=>A (by rw[<-K];exact L k g))
 refine⟨D _ _ _ _ _ z.own.rq fun k g=>.inl g,D _ _ _ _ _ z.own.im fun k g=>.inr (.inl g),?_,D _ _ _ _ _ z.own.st fun k g=>.inr (.inr (.inr (.inl g))),D _ _ _ _ _ z.own.ex fun k g=>.inr (.inr (.inr (.inr (.inl g)))),z.inv.rq,z.inv.im,z.inv.ep,z.inv.st,z.inv.ex⟩;rw[J,List.append_nil];exact D _ _ _ _ _ z.own.ep fun k g=>.inr (.inr (.inl g))
theorem zcU {C:Cx} {i:Nat} {k:BA} (h:isT C i 1 k=true):zcB C i=k:=by
 rw[zcB,zgl h,zhx h];rfl
theorem zcV {C:Cx} {i:Nat} {k:BA} (h:isT C i 1 k=false) (w:sNone≠k):(zcB C i==k)=false:=by
 rw[Bool.eq_false_iff];intro e;rw[MapKept.bytes_beq] at e;cases q:((ze C i).kind==1) with
 |false=>
  rw[zcB,q] at e;exact w e
 |true=>
  rw[zcB,q,if_pos rfl] at e;rw[isT,q,e] at h;simp at h
theorem zb9 {C:Cx} {I z base A g c:Nat} {S H:Sv} {q:PS} {W D:World} {E:Array MapEntry} (h:IM C I z base A S q W) (w:W.heap[g]? =some (.map E c)) (s:IS A S W H D):D.heap[g]? =some (.map E c):=by
 refine (s.block g (aLt w) (fun k=>?_) (fun e=>?_)).trans w
 ·rcases k with k|k|k|k|k|k
  ·obtain⟨_,_,c,e⟩:=h.mem.own.rq.typed k;rw[w] at e;cases e
  ·obtain⟨_,_,c,e⟩:=h.mem.own.im.typed k;rw[w] at e;cases e
  ·obtain⟨_,_,c,e⟩:=h.mem.own.ep.typed k;rw[w] at e;cases e
  ·obtain⟨_,_,c,e⟩:=h.mem.own.st.typed k;rw[w] at e;cases e
  ·obtain⟨_,_,c,e⟩:=h.mem.own.ex.typed k;rw[w] at e;cases e
  ·obtain⟨_,_,c,e⟩:=h.mem.own.la.typed k;rw[w] at e;cases e
 ·have:=h.cells;rw[<-e,w] at this;cases this
theorem zc5 {C:Cx} {q:PS} {y:PR} (h:q.pos<C.ts.length) (w:zaC C q=y):zay C q=bd y (zay C):=by rw[zfZ,if_pos h,<-zlS,w]
theorem zlV {C:Cx} {q:PS} (h: ¬q.pos<C.ts.length):zay C q= .ok q:=by rw[zfZ,if_neg h]
theorem zc6 {C:Cx} {q a:PS} {y:PR} (w:zaC C q=y) (h:y= .ok a):q.pos<a.pos:=zfY (by rw[<-zlS,w,h])
def zil (base gp:Nat) (y:PR) (w:World) (e:Ending) (w':World):Prop:=
 match y with
 | .ok q=>e= .returned (.tuple #[])/\∃S,OwnMod w' base S q/\(∃v0 v1 v2 v3 v9,w'.heap[gp]? =some (.cells #[v0,v1,v2,v3,.slice S.rq.a q.rq.length S.rq.cap,.slice S.im.a q.im.length S.im.cap,.slice S.ep.a (q.ep++q.la).length S.ep.cap,.slice S.st.a q.st.length S.st.cap,.slice S.ex.a q.ex.length S.ex.cap,v9] 211 (0,0)))/\Below base w w'
 | .error p=>e=Pan p/\Below base w w'
theorem ztR (C:Cx) (gt I base A:Nat) (S:Sv) (q:PS) (w:World) (h:IM C gt I base A S q w) (hs:C.scr=true):
  Calls prog 169 #[.pointer (some ⟨A,0,none⟩)] w (zil base A (zay C q) w):=by
 obtain⟨i0,hi,aA,aG,aE⟩:=info_parts Tryz.infoExp;go_enter func169,ntmps169;go_wp2_with fail;refine (zt6 C gt I base A S q _ h hs).mono ?_;rintro e w1 ⟨rfl,hg,Z⟩;have aH:=h.later Z;have az:IS A S w S w1:=IS.below Z;have aI:=zc hg;clear hg Z;go_wp2;go_loopg [] (C.ts.length+1) (fun k wr=>∃(L:Sv) (z:PS),zay C q=zay C z/\C.ts.length-z.pos<k/\IM C gt I base A L z wr/\IS A S w L wr/\wr.heap[w.heap.size]? =some (.map (esS A) 5))
 case atStart=>exact⟨S,q,rfl,by omega,aH,az,aI.o⟩
 case round=>
  obtain⟨L,z,hy,hk,m',s',g'⟩:=hrel;have ad:=zc hy;have an:=m';have aw:=s';have ar:Hid (wr.heap[w.heap.size]? =some (.map (esS A) 5)):=g';obtain⟨c0,c1,_,_,_,_,_,_,_,_,_⟩:=zag m'.cells;have C0:=zc c0;have C1:=zc c1;have aK:=m'.mem.inv.pos;have aJ:=m'.mem.few;clear hy m' s' g' c0 c1;have k0:=cell_regrown C0.o;have k1:=cell_regrown C1.o;by_cases hp:z.pos<C.ts.length
  ·have aC:((z.pos:Int)<(C.ts.length:Int)):=by omega
   go_wp2_with fail;refine wp_region_quiet_below (by kernel_rfl) (by kernel_rfl) ?_
   repeat (go_big_quiet_step (fail))
   refine wpQuiet_nil ?_;intro w2 ap;obtain⟨⟨dq,aD⟩,ab⟩:=ap;have af:Below wr.heap.size wr w2:=by show Below _ _ _;rw[ab];exact below_regrown _ _ _
   clear ab k0 k1 C0 C1;have H:Hid (IM C gt I base A L z w2):=an.later af;have am:=aw.trans (IS.below af);have ao:Hid (w2.heap[w.heap.size]? =some (.map (esS A) 5)):=zb9 an ar.o (IS.below af);go_wp2_with fail;refine (zj5 C gt I base A L z _ H.o).mono ?_;rintro e w3 ⟨rfl,Z⟩;have ac:Hid (IM C gt I base A L z w3):=H.o.later Z;have ae:=am.trans (IS.below Z);have M:Hid (w3.heap[w.heap.size]? =some (.map (esS A) 5)):=zb9 H.o ao.o (IS.below Z);clear Z;have ai:w.heap.size≠A:=by have:=h.lt;omega
   obtain⟨c0,c1,c2,c3,c4,c5,c6,c7,c8,c9,cf⟩:=zag ac.o.cells;cases t0:isT C z.pos 1 zF with
   |true=>
    have D:zaC C z=letJ C 1 (adv z):=by rw[zaC,t0];rfl
    have HZ:=zc (ad.o.trans (zc5 hp D));have V:=zc D;clear D;rw[zcU t0];have aj:=zcT M.o (zt7 A);go_wp2_with fail;have K:=ac.o.adv hp;have J:IS A S w L (w3.setCell ⟨A,1,none⟩ (.int .i64 ((z.pos:Int)+1))):=ae.set _ _;have aa:Hid ((w3.setCell ⟨A,1,none⟩ (.int .i64 ((z.pos:Int)+1))).heap[w.heap.size]? =some (.map (esS A) 5)):=(zv ai).trans M.o;refine (zhz C gt I base A L (adv z) _ K).mono ?_;cases E:letJ C 1 (adv z) with
    |error p=>
     rintro e w5 ⟨rfl,Z⟩;have HB:=(h.back J).trans Z;have HX:Hid (zay C q= .error p):=bdE HZ.o E;unfold Pan;go_wp2;refine⟨rfl,?_⟩;rw[HX.o];exact⟨rfl,HB⟩
    |ok a5=>
     rintro e w5 ⟨rfl,S5,O,s⟩;have N:Hid (w5.heap[w.heap.size]? =some (.map (esS A) 5)):=zb9 K aa.o s;have X:=J.trans s;clear s;have U:=zc (bdO HZ.o E);have Y:=zc (zc6 V.o E);go_wp2;go_roundg (gk-1)
     case rel=>exact⟨S5,a5,U.o,by have:=Y.o;omega,O,X,N.o⟩
     case measure=>omega
   |false=>
    cases t1:isT C z.pos 1 zU with
    |true=>
     have D:zaC C z=fnI C (adv z):=by rw[zaC,t0,t1];simp only[Bool.false_eq_true,↓reduceIte]
     have HZ:=zc (ad.o.trans (zc5 hp D));have V:=zc D;clear D;rw[zcU t1];have aj:=zcT M.o (zt8 A);go_wp2_with fail;have K:=ac.o.adv hp;have J:IS A S w L (w3.setCell ⟨A,1,none⟩ (.int .i64 ((z.pos:Int)+1))):=ae.set _ _;have aa:Hid ((w3.setCell ⟨A,1,none⟩ (.int .i64 ((z.pos:Int)+1))).heap[w.heap.size]? =some (.map (esS A) 5)):=(zv ai).trans M.o;refine (zh0 C gt I base A L (adv z) _ K).mono ?_;cases E:fnI C (adv z) with
     |error p=>
      rintro e w5 ⟨rfl,Z⟩;have HB:=(h.back J).trans Z;have HX:Hid (zay C q= .error p):=bdE HZ.o E;unfold Pan;go_wp2;refine⟨rfl,?_⟩;rw[HX.o];exact⟨rfl,HB⟩
     |ok a5=>
      rintro e w5 ⟨rfl,S5,O,s⟩;have N:Hid (w5.heap[w.heap.size]? =some (.map (esS A) 5)):=zb9 K aa.o s;have X:=J.trans s;clear s;have U:=zc (bdO HZ.o E);have Y:=zc (zc6 V.o E);go_wp2;go_roundg (gk-1)
      case rel=>exact⟨S5,a5,U.o,by have:=Y.o;omega,O,X,N.o⟩
      case measure=>omega
    |false=>
     cases t2:isT C z.pos 1 zax with
     |true=>
      have D:zaC C z=printI C (adv z):=by rw[zaC,t0,t1,t2];simp only[Bool.false_eq_true,↓reduceIte]
      have HZ:=zc (ad.o.trans (zc5 hp D));have V:=zc D;clear D;rw[zcU t2];have aj:=zcT M.o (zt9 A);go_wp2_with fail;have K:=ac.o.adv hp;have J:IS A S w L (w3.setCell ⟨A,1,none⟩ (.int .i64 ((z.pos:Int)+1))):=ae.set _ _;have aa:Hid ((w3.setCell ⟨A,1,none⟩ (.int .i64 ((z.pos:Int)+1))).heap[w.heap.size]? =some (.map (esS A) 5)):=(zv ai).trans M.o;refine (zj3 C gt I base A L (adv z) _ K).mono ?_;cases E:printI C (adv z) with
      |error p=>
       rintro e w5 ⟨rfl,Z⟩;have HB:=(h.back J).trans Z;have HX:Hid (zay C q= .error p):=bdE HZ.o E;unfold Pan;go_wp2;refine⟨rfl,?_⟩;rw[HX.o];exact⟨rfl,HB⟩
      |ok a5=>
       rintro e w5 ⟨rfl,S5,O,s⟩;have N:Hid (w5.heap[w.heap.size]? =some (.map (esS A) 5)):=zb9 K aa.o s;have X:=J.trans s;clear s;have U:=zc (bdO HZ.o E);have Y:=zc (zc6 V.o E);go_wp2;go_roundg (gk-1)
       case rel=>exact⟨S5,a5,U.o,by have:=Y.o;omega,O,X,N.o⟩
       case measure=>omega
     |false=>
      cases t3:isT C z.pos 1 za9 with
      |true=>
       have D:zaC C z=stmtI C 5 sNone cSemi (adv z):=by rw[zaC,t0,t1,t2,t3];simp only[Bool.false_eq_true,↓reduceIte]
       have HZ:=zc (ad.o.trans (zc5 hp D));have V:=zc D;clear D;rw[zcU t3];have aj:=zcT M.o (ztA A);go_wp2_with fail;have K:=ac.o.adv hp;have J:IS A S w L (w3.setCell ⟨A,1,none⟩ (.int .i64 ((z.pos:Int)+1))):=ae.set _ _;have aa:Hid ((w3.setCell ⟨A,1,none⟩ (.int .i64 ((z.pos:Int)+1))).heap[w.heap.size]? =some (.map (esS A) 5)):=(zv ai).trans M.o;refine (zj4 C gt I base A L (adv z) _ K).mono ?_;cases E:stmtI C 5 sNone cSemi (adv z) with
       |error p=>
        rintro e w5 ⟨rfl,Z⟩;have HB:=(h.back J).trans Z;have HX:Hid (zay C q= .error p):=bdE HZ.o E;unfold Pan;go_wp2;refine⟨rfl,?_⟩;rw[HX.o];exact⟨rfl,HB⟩
       |ok a5=>
        rintro e w5 ⟨rfl,S5,O,s⟩;have N:Hid (w5.heap[w.heap.size]? =some (.map (esS A) 5)):=zb9 K aa.o s;have X:=J.trans s;clear s;have U:=zc (bdO HZ.o E);have Y:=zc (zc6 V.o E);go_wp2;go_roundg (gk-1)
        case rel=>exact⟨S5,a5,U.o,by have:=Y.o;omega,O,X,N.o⟩
        case measure=>omega
      |false=>
       cases t4:isT C z.pos 1 zbQ with
       |true=>
        have D:zaC C z=stmtI C 6 sNone cSemi (adv z):=by rw[zaC,t0,t1,t2,t3,t4,hs];simp only[Bool.false_eq_true,↓reduceIte,Bool.and_self]
        have HZ:=zc (ad.o.trans (zc5 hp D));have V:=zc D;clear D;rw[zcU t4];have aj:=zcT M.o (ztB A);go_wp2_with fail;have K:=ac.o.adv hp;have J:IS A S w L (w3.setCell ⟨A,1,none⟩ (.int .i64 ((z.pos:Int)+1))):=ae.set _ _;have aa:Hid ((w3.setCell ⟨A,1,none⟩ (.int .i64 ((z.pos:Int)+1))).heap[w.heap.size]? =some (.map (esS A) 5)):=(zv ai).trans M.o;refine (zoq C gt I base A L (adv z) _ K).mono ?_;cases E:stmtI C 6 sNone cSemi (adv z) with
        |error p=>
         rintro e w5 ⟨rfl,Z⟩;have HB:=(h.back J).trans Z;have HX:Hid (zay C q= .error p):=bdE HZ.o E;unfold Pan;go_wp2;refine⟨rfl,?_⟩;rw[HX.o];exact⟨rfl,HB⟩
        |ok a5=>
         rintro e w5 ⟨rfl,S5,O,s⟩;have N:Hid (w5.heap[w.heap.size]? =some (.map (esS A) 5)):=zb9 K aa.o s;have X:=J.trans s;clear s;have U:=zc (bdO HZ.o E);have Y:=zc (zc6 V.o E);go_wp2;go_roundg (gk-1)
         case rel=>exact⟨S5,a5,U.o,by have:=Y.o;omega,O,X,N.o⟩
         case measure=>omega
       |false=>
        have D:zaC C z=letJ C 3 z:=by rw[zaC,t0,t1,t2,t3,t4,hs];simp only[Bool.false_eq_true,↓reduceIte,Bool.and_false,Bool.not_true,Bool.false_and]
        have HZ:=zc (ad.o.trans (zc5 hp D));have V:=zc D;clear D;obtain⟨vz,aj⟩:=zlN M.o (ztC A (zcB C z.pos) (zcV t0 (by decide)) (zcV t1 (by decide)) (zcV t2 (by decide)) (zcV t3 (by decide)) (zcV t4 (by decide)));go_wp2_with fail;refine (zj2 C gt I base A L z _ ac.o).mono ?_;cases E:letJ C 3 z with
        |error p=>
         rintro e w5 ⟨rfl,Z⟩;have HB:=(h.back ae).trans Z;have HX:Hid (zay C q= .error p):=bdE HZ.o E;unfold Pan;go_wp2;refine⟨rfl,?_⟩;rw[HX.o];exact⟨rfl,HB⟩
        |ok a5=>
         rintro e w5 ⟨rfl,S5,O,s⟩;have N:Hid (w5.heap[w.heap.size]? =some (.map (esS A) 5)):=zb9 ac.o M.o s;have X:=ae.trans s;clear s;have U:=zc (bdO HZ.o E);have Y:=zc (zc6 V.o E);go_wp2;go_roundg (gk-1)
         case rel=>exact⟨S5,a5,U.o,by have:=Y.o;omega,O,X,N.o⟩
         case measure=>omega
  ·have aC: ¬((z.pos:Int)<(C.ts.length:Int)):=by omega
   go_wp2_with fail;refine wp_region_quiet_below (by kernel_rfl) (by kernel_rfl) ?_
   repeat (go_big_quiet_step (fail))
   refine wpQuiet_nil ?_;intro w2 ap;obtain⟨⟨dq,aD⟩,ab⟩:=ap;have af:Below wr.heap.size wr w2:=by show Below _ _ _;rw[ab];exact below_regrown _ _ _
   clear ab k0 k1 C0 C1;have H:Hid (IM C gt I base A L z w2):=an.later af;have am:=aw.trans (IS.below af);have ao:Hid (w2.heap[w.heap.size]? =some (.map (esS A) 5)):=zb9 an ar.o (IS.below af);have HX:=zc (ad.o.trans (zlV hp));obtain⟨c0,c1,c2,c3,c4,c5,c6,c7,c8,c9,cf⟩:=zag H.o.cells;have al:=H.o.mem.own.ep;have aL:=H.o.mem.inv.ep;have ak:=H.o.free;have ag:=zc ak;clear ak;have au:=H.o.lt;rcases H.o.mem.own.la.nil_or with ⟨ha,hc,hn⟩|⟨gl,ha⟩
   ·have HN:=zc (List.eq_nil_of_length_eq_zero hn);rw[ha,hc,hn] at c9;clear ha hc hn;go_wp2_with fail;go_region_law (first|(refine zlU rfl (.tmp 41) (.tmp 45) 50 rfl 97 i0 underlying50 hi base 4 z.ep.length L.ep _ (by rfl) (by exact al) (by rfl) ?_))
    all_goals
     go_wp2;go_end0;rw[HX.o];refine⟨rfl,L,H.o.mem.wholeI0 HN.o ag.o (fun k hk=>zv hk),⟨.slice (some ⟨gt,0,none⟩) C.ts.length I,.int .i64 z.pos,.int .i64 C.fin,.bool C.scr,.slice L.la.a z.la.length L.la.cap,(zab H.o.cells).trans (by simp[HN.o])⟩,?_⟩;exact (h.back (am.set _ _)).drew
   ·have av:OwnR w2 base 97 4 ⟨some ⟨gl,0,none⟩,L.la.cap⟩ z.la.length (z.la.flatMap epL):=by have:=H.o.mem.own.la;unfold OwnR at this ⊢;rw[ha] at this;exact this
    rw[ha] at c9;have ay:=H.o.mem.base;have aF:Hid (some A≠L.ep.blk):=fun e=>ag.o (.inr (.inr (.inl e.symm)));go_wp2_with fail;go_region_law (first|(refine zlT rfl (.tmp 41) (.tmp 45) 50 rfl base 97 i0 _ 4 56 underlying50 hi aA aG aE rfl (by decide) (by decide) L.ep z.ep.length _ (by rfl) (by exact al) gl z.la.length L.la.cap base _ (by rfl) (by exact av) (zho _) (by omega) (by exact ay) ?_;intro r' wz hr aq ax;have g2:=(aq.block A (by exact au) aF.o).trans (by exact H.o.cells);obtain⟨d0,d1,d2,d3,d4,d5,d6,d7,d8,d9,df⟩:=zag g2))
    all_goals
     have HR:=zc hr;have ah:=zc aq;have aB:=zc ax;have ao:=zc g2;clear hr aq ax g2 c0 c1 c2 c3 c4 c5 c6 c7 c8 c9 cf al av;go_wp2;go_end0;rw[HX.o];refine⟨rfl,{L with ep:=r'},H.o.drew.mem.wholeI ah.o HR.o aB.o au ag.o (fun k hk=>zv hk),⟨.slice (some ⟨gt,0,none⟩) C.ts.length I,.int .i64 z.pos,.int .i64 C.fin,.bool C.scr,.slice L.la.a z.la.length L.la.cap,(zab ao.o).trans (by simp)⟩,?_⟩;exact ((h.back am).trans ⟨ah.o.os,ah.o.tape,ah.o.output,ah.o.size,fun k hk=>ah.o.block k (show k<w2.heap.size by omega) (fun e=>by have:=(H.o.mem.own.ep.typed e.symm).1;omega)⟩).setCell H.o.ge _
theorem ztS (C:Cx) (gt K base A:Nat) (S:Sv) (q:PS) (w:World) (h:IM C gt K base A S q w) (hC:zbo C) (hs:C.scr=false):
  Calls prog 169 #[.pointer (some ⟨A,0,none⟩)] w (zil base A (zay C q) w):=by
 obtain⟨i0,hi,az,aF,aD⟩:=info_parts Tryz.infoExp;go_enter func169,ntmps169;go_wp2_with fail;refine (ztD C gt K base A S q _ h hs).mono ?_;rintro e w1 ⟨rfl,hg,hb⟩;have aG:=h.later hb;have ay:IS A S w S w1:=IS.below hb;have aH:=zc hg;clear hg hb;go_wp2;go_loopg [] (C.ts.length+1) (fun k wr=>∃(L:Sv) (z:PS),zay C q=zay C z/\C.ts.length-z.pos<k/\IM C gt K base A L z wr/\IS A S w L wr/\wr.heap[w.heap.size]? =some (.map (esM A) 6))
 case atStart=>exact⟨S,q,rfl,by omega,aG,ay,aH.o⟩
 case round=>
  obtain⟨L,z,hy,hk,m',s',g'⟩:=hrel;have ab:=zc hy;have am:=m';have av:=s';have aq:Hid (wr.heap[w.heap.size]? =some (.map (esM A) 6)):=g';obtain⟨c0,c1,_,_,_,_,_,_,_,_,_⟩:=zag m'.cells;have C0:=zc c0;have C1:=zc c1;have aJ:=m'.mem.inv.pos;have aI:=m'.mem.few;clear hy m' s' g' c0 c1;have k0:=cell_regrown C0.o;have k1:=cell_regrown C1.o;by_cases hp:z.pos<C.ts.length
  ·have aB:((z.pos:Int)<(C.ts.length:Int)):=by omega
   go_wp2_with fail;refine wp_region_quiet_below (by kernel_rfl) (by kernel_rfl) ?_
   repeat (go_big_quiet_step (fail))
   refine wpQuiet_nil ?_;intro w2 ao;obtain⟨⟨dq,aC⟩,ad⟩:=ao;have ae:Below wr.heap.size wr w2:=by show Below _ _ _;rw[ad];exact below_regrown _ _ _
   clear ad k0 k1 C0 C1;have H:Hid (IM C gt K base A L z w2):=am.later ae;have al:=av.trans (IS.below ae);have an:Hid (w2.heap[w.heap.size]? =some (.map (esM A) 6)):=zb9 am aq.o (IS.below ae);go_wp2_with fail;refine (zj5 C gt K base A L z _ H.o).mono ?_;rintro e w3 ⟨rfl,hb⟩;have aa:Hid (IM C gt K base A L z w3):=H.o.later hb;have ac:=al.trans (IS.below hb);have M:Hid (w3.heap[w.heap.size]? =some (.map (esM A) 6)):=zb9 H.o an.o (IS.below hb);clear hb;have ag:w.heap.size≠A:=by have:=h.lt;omega
   obtain⟨c0,c1,c2,c3,c4,c5,c6,c7,c8,c9,cf⟩:=zag aa.o.cells;cases t0:isT C z.pos 1 zF with
   |true=>
    have D:zaC C z=letJ C 1 (adv z):=by rw[zaC,t0];rfl
    have HZ:=zc (ab.o.trans (zc5 hp D));have V:=zc D;clear D;rw[zcU t0];have ah:=zcT M.o (ztE A);go_wp2_with fail;have J:=aa.o.adv hp;have I:IS A S w L (w3.setCell ⟨A,1,none⟩ (.int .i64 ((z.pos:Int)+1))):=ac.set _ _;have Z:Hid ((w3.setCell ⟨A,1,none⟩ (.int .i64 ((z.pos:Int)+1))).heap[w.heap.size]? =some (.map (esM A) 6)):=(zv ag).trans M.o;refine (zhz C gt K base A L (adv z) _ J).mono ?_;cases E:letJ C 1 (adv z) with
    |error p=>
     rintro e w5 ⟨rfl,hb⟩;have HB:=(h.back I).trans hb;have HX:Hid (zay C q= .error p):=bdE HZ.o E;unfold Pan;go_wp2;refine⟨rfl,?_⟩;rw[HX.o];exact⟨rfl,HB⟩
    |ok a5=>
     rintro e w5 ⟨rfl,S5,O,s⟩;have N:Hid (w5.heap[w.heap.size]? =some (.map (esM A) 6)):=zb9 J Z.o s;have X:=I.trans s;clear s;have U:=zc (bdO HZ.o E);have Y:=zc (zc6 V.o E);go_wp2;go_roundg (gk-1)
     case rel=>exact⟨S5,a5,U.o,by have:=Y.o;omega,O,X,N.o⟩
     case measure=>omega
   |false=>
    cases t1:isT C z.pos 1 zU with
    |true=>
     have D:zaC C z=fnI C (adv z):=by rw[zaC,t0,t1];simp only[Bool.false_eq_true,↓reduceIte]
     have HZ:=zc (ab.o.trans (zc5 hp D));have V:=zc D;clear D;rw[zcU t1];have ah:=zcT M.o (ztF A);go_wp2_with fail;have J:=aa.o.adv hp;have I:IS A S w L (w3.setCell ⟨A,1,none⟩ (.int .i64 ((z.pos:Int)+1))):=ac.set _ _;have Z:Hid ((w3.setCell ⟨A,1,none⟩ (.int .i64 ((z.pos:Int)+1))).heap[w.heap.size]? =some (.map (esM A) 6)):=(zv ag).trans M.o;refine (zh0 C gt K base A L (adv z) _ J).mono ?_;cases E:fnI C (adv z) with
     |error p=>
      rintro e w5 ⟨rfl,hb⟩;have HB:=(h.back I).trans hb;have HX:Hid (zay C q= .error p):=bdE HZ.o E;unfold Pan;go_wp2;refine⟨rfl,?_⟩;rw[HX.o];exact⟨rfl,HB⟩
     |ok a5=>
      rintro e w5 ⟨rfl,S5,O,s⟩;have N:Hid (w5.heap[w.heap.size]? =some (.map (esM A) 6)):=zb9 J Z.o s;have X:=I.trans s;clear s;have U:=zc (bdO HZ.o E);have Y:=zc (zc6 V.o E);go_wp2;go_roundg (gk-1)
      case rel=>exact⟨S5,a5,U.o,by have:=Y.o;omega,O,X,N.o⟩
      case measure=>omega
    |false=>
     cases t2:isT C z.pos 1 zax with
     |true=>
      have D:zaC C z=printI C (adv z):=by rw[zaC,t0,t1,t2];simp only[Bool.false_eq_true,↓reduceIte]
      have HZ:=zc (ab.o.trans (zc5 hp D));have V:=zc D;clear D;rw[zcU t2];have ah:=zcT M.o (ztG A);go_wp2_with fail;have J:=aa.o.adv hp;have I:IS A S w L (w3.setCell ⟨A,1,none⟩ (.int .i64 ((z.pos:Int)+1))):=ac.set _ _;have Z:Hid ((w3.setCell ⟨A,1,none⟩ (.int .i64 ((z.pos:Int)+1))).heap[w.heap.size]? =some (.map (esM A) 6)):=(zv ag).trans M.o;refine (zj3 C gt K base A L (adv z) _ J).mono ?_;cases E:printI C (adv z) with
      |error p=>
       rintro e w5 ⟨rfl,hb⟩;have HB:=(h.back I).trans hb;have HX:Hid (zay C q= .error p):=bdE HZ.o E;unfold Pan;go_wp2;refine⟨rfl,?_⟩;rw[HX.o];exact⟨rfl,HB⟩
      |ok a5=>
       rintro e w5 ⟨rfl,S5,O,s⟩;have N:Hid (w5.heap[w.heap.size]? =some (.map (esM A) 6)):=zb9 J Z.o s;have X:=I.trans s;clear s;have U:=zc (bdO HZ.o E);have Y:=zc (zc6 V.o E);go_wp2;go_roundg (gk-1)
       case rel=>exact⟨S5,a5,U.o,by have:=Y.o;omega,O,X,N.o⟩
       case measure=>omega
     |false=>
      cases t3:isT C z.pos 1 za9 with
      |true=>
       have D:zaC C z=stmtI C 5 sNone cSemi (adv z):=by rw[zaC,t0,t1,t2,t3];simp only[Bool.false_eq_true,↓reduceIte]
       have HZ:=zc (ab.o.trans (zc5 hp D));have V:=zc D;clear D;rw[zcU t3];have ah:=zcT M.o (ztH A);go_wp2_with fail;have J:=aa.o.adv hp;have I:IS A S w L (w3.setCell ⟨A,1,none⟩ (.int .i64 ((z.pos:Int)+1))):=ac.set _ _;have Z:Hid ((w3.setCell ⟨A,1,none⟩ (.int .i64 ((z.pos:Int)+1))).heap[w.heap.size]? =some (.map (esM A) 6)):=(zv ag).trans M.o;refine (zj4 C gt K base A L (adv z) _ J).mono ?_;cases E:stmtI C 5 sNone cSemi (adv z) with
       |error p=>
        rintro e w5 ⟨rfl,hb⟩;have HB:=(h.back I).trans hb;have HX:Hid (zay C q= .error p):=bdE HZ.o E;unfold Pan;go_wp2;refine⟨rfl,?_⟩;rw[HX.o];exact⟨rfl,HB⟩
       |ok a5=>
        rintro e w5 ⟨rfl,S5,O,s⟩;have N:Hid (w5.heap[w.heap.size]? =some (.map (esM A) 6)):=zb9 J Z.o s;have X:=I.trans s;clear s;have U:=zc (bdO HZ.o E);have Y:=zc (zc6 V.o E);go_wp2;go_roundg (gk-1)
        case rel=>exact⟨S5,a5,U.o,by have:=Y.o;omega,O,X,N.o⟩
        case measure=>omega
      |false=>
       cases t4:isT C z.pos 1 zak with
       |true=>
        have D:zaC C z=zaP C (adv z):=by rw[zaC,t0,t1,t2,t3,t4,hs];simp only[Bool.false_eq_true,↓reduceIte,Bool.false_and,Bool.not_false,Bool.and_self]
        have HZ:=zc (ab.o.trans (zc5 hp D));have V:=zc D;clear D;rw[zcU t4];have ah:=zcT M.o (ztI A);go_wp2_with fail;have J:=aa.o.adv hp;have I:IS A S w L (w3.setCell ⟨A,1,none⟩ (.int .i64 ((z.pos:Int)+1))):=ac.set _ _;have Z:Hid ((w3.setCell ⟨A,1,none⟩ (.int .i64 ((z.pos:Int)+1))).heap[w.heap.size]? =some (.map (esM A) 6)):=(zv ag).trans M.o;refine (zti C gt K base A L (adv z) _ J hC).mono ?_;cases E:zaP C (adv z) with
        |error p=>
         rintro e w5 ⟨rfl,hb⟩;have HB:=(h.back I).trans hb;have HX:Hid (zay C q= .error p):=bdE HZ.o E;unfold Pan;go_wp2;refine⟨rfl,?_⟩;rw[HX.o];exact⟨rfl,HB⟩
        |ok a5=>
         rintro e w5 ⟨rfl,S5,O,s⟩;have N:Hid (w5.heap[w.heap.size]? =some (.map (esM A) 6)):=zb9 J Z.o s;have X:=I.trans s;clear s;have U:=zc (bdO HZ.o E);have Y:=zc (zc6 V.o E);go_wp2;go_roundg (gk-1)
         case rel=>exact⟨S5,a5,U.o,by have:=Y.o;omega,O,X,N.o⟩
         case measure=>omega
       |false=>
        cases t5:isT C z.pos 1 zaj with
        |true=>
         have D:zaC C z=zaw C (adv z):=by rw[zaC,t0,t1,t2,t3,t4,t5,hs];simp only[Bool.false_eq_true,↓reduceIte,Bool.false_and,Bool.not_false,Bool.and_self,Bool.and_false]
         have HZ:=zc (ab.o.trans (zc5 hp D));have V:=zc D;clear D;rw[zcU t5];have ah:=zcT M.o (ztJ A);go_wp2_with fail;have J:=aa.o.adv hp;have I:IS A S w L (w3.setCell ⟨A,1,none⟩ (.int .i64 ((z.pos:Int)+1))):=ac.set _ _;have Z:Hid ((w3.setCell ⟨A,1,none⟩ (.int .i64 ((z.pos:Int)+1))).heap[w.heap.size]? =some (.map (esM A) 6)):=(zv ag).trans M.o;refine (zt5 C gt K base A L (adv z) _ J hC).mono ?_;cases E:zaw C (adv z) with
         |error p=>
          rintro e w5 ⟨rfl,hb⟩;have HB:=(h.back I).trans hb;have HX:Hid (zay C q= .error p):=bdE HZ.o E;unfold Pan;go_wp2;refine⟨rfl,?_⟩;rw[HX.o];exact⟨rfl,HB⟩
         |ok a5=>
          rintro e w5 ⟨rfl,S5,O,s⟩;have N:Hid (w5.heap[w.heap.size]? =some (.map (esM A) 6)):=zb9 J Z.o s;have X:=I.trans s;clear s;have U:=zc (bdO HZ.o E);have Y:=zc (zc6 V.o E);go_wp2;go_roundg (gk-1)
          case rel=>exact⟨S5,a5,U.o,by have:=Y.o;omega,O,X,N.o⟩
          case measure=>omega
        |false=>
         have D:zaC C z=letJ C 3 z:=by rw[zaC,t0,t1,t2,t3,t4,t5,hs];simp only[Bool.false_eq_true,↓reduceIte,Bool.false_and,Bool.not_false,Bool.and_false]
         have HZ:=zc (ab.o.trans (zc5 hp D));have V:=zc D;clear D;obtain⟨vz,ah⟩:=zlN M.o (ztK A (zcB C z.pos) (zcV t0 (by decide)) (zcV t1 (by decide)) (zcV t2 (by decide)) (zcV t3 (by decide)) (zcV t4 (by decide)) (zcV t5 (by decide)));go_wp2_with fail;refine (zj2 C gt K base A L z _ aa.o).mono ?_;cases E:letJ C 3 z with
         |error p=>
          rintro e w5 ⟨rfl,hb⟩;have HB:=(h.back ac).trans hb;have HX:Hid (zay C q= .error p):=bdE HZ.o E;unfold Pan;go_wp2;refine⟨rfl,?_⟩;rw[HX.o];exact⟨rfl,HB⟩
         |ok a5=>
          rintro e w5 ⟨rfl,S5,O,s⟩;have N:Hid (w5.heap[w.heap.size]? =some (.map (esM A) 6)):=zb9 aa.o M.o s;have X:=ac.trans s;clear s;have U:=zc (bdO HZ.o E);have Y:=zc (zc6 V.o E);go_wp2;go_roundg (gk-1)
          case rel=>exact⟨S5,a5,U.o,by have:=Y.o;omega,O,X,N.o⟩
          case measure=>omega
  ·have aB: ¬((z.pos:Int)<(C.ts.length:Int)):=by omega
   go_wp2_with fail;refine wp_region_quiet_below (by kernel_rfl) (by kernel_rfl) ?_
   repeat (go_big_quiet_step (fail))
   refine wpQuiet_nil ?_;intro w2 ao;obtain⟨⟨dq,aC⟩,ad⟩:=ao;have ae:Below wr.heap.size wr w2:=by show Below _ _ _;rw[ad];exact below_regrown _ _ _
   clear ad k0 k1 C0 C1;have H:Hid (IM C gt K base A L z w2):=am.later ae;have al:=av.trans (IS.below ae);have an:Hid (w2.heap[w.heap.size]? =some (.map (esM A) 6)):=zb9 am aq.o (IS.below ae);have HX:=zc (ab.o.trans (zlV hp));obtain⟨c0,c1,c2,c3,c4,c5,c6,c7,c8,c9,cf⟩:=zag H.o.cells;have ak:=H.o.mem.own.ep;have aK:=H.o.mem.inv.ep;have aj:=H.o.free;have af:=zc aj;clear aj;have ar:=H.o.lt;rcases H.o.mem.own.la.nil_or with ⟨ha,hc,hn⟩|⟨gl,ha⟩
   ·have HN:=zc (List.eq_nil_of_length_eq_zero hn);rw[ha,hc,hn] at c9;clear ha hc hn;go_wp2_with fail;go_region_law (first|(refine zlU rfl (.tmp 41) (.tmp 45) 50 rfl 97 i0 underlying50 hi base 4 z.ep.length L.ep _ (by rfl) (by exact ak) (by rfl) ?_))
    all_goals
     go_wp2;go_end0;rw[HX.o];refine⟨rfl,L,H.o.mem.wholeI0 HN.o af.o (fun k hk=>zv hk),⟨.slice (some ⟨gt,0,none⟩) C.ts.length K,.int .i64 z.pos,.int .i64 C.fin,.bool C.scr,.slice L.la.a z.la.length L.la.cap,(zab H.o.cells).trans (by simp[HN.o])⟩,?_⟩;exact (h.back (al.set _ _)).drew
   ·have au:OwnR w2 base 97 4 ⟨some ⟨gl,0,none⟩,L.la.cap⟩ z.la.length (z.la.flatMap epL):=by have:=H.o.mem.own.la;unfold OwnR at this ⊢;rw[ha] at this;exact this
    rw[ha] at c9;have ax:=H.o.mem.base;have aE:Hid (some A≠L.ep.blk):=fun e=>af.o (.inr (.inr (.inl e.symm)));go_wp2_with fail;go_region_law (first|(refine zlT rfl (.tmp 41) (.tmp 45) 50 rfl base 97 i0 _ 4 56 underlying50 hi az aF aD rfl (by decide) (by decide) L.ep z.ep.length _ (by rfl) (by exact ak) gl z.la.length L.la.cap base _ (by rfl) (by exact au) (zho _) (by omega) (by exact ax) ?_;intro r' wz hr ap aw;have g2:=(ap.block A (by exact ar) aE.o).trans (by exact H.o.cells);obtain⟨d0,d1,d2,d3,d4,d5,d6,d7,d8,d9,df⟩:=zag g2))
    all_goals
     have HR:=zc hr;have ai:=zc ap;have aA:=zc aw;have an:=zc g2;clear hr ap aw g2 c0 c1 c2 c3 c4 c5 c6 c7 c8 c9 cf ak au;go_wp2;go_end0;rw[HX.o];refine⟨rfl,{L with ep:=r'},H.o.drew.mem.wholeI ai.o HR.o aA.o ar af.o (fun k hk=>zv hk),⟨.slice (some ⟨gt,0,none⟩) C.ts.length K,.int .i64 z.pos,.int .i64 C.fin,.bool C.scr,.slice L.la.a z.la.length L.la.cap,(zab an.o).trans (by simp)⟩,?_⟩;exact ((h.back al).trans ⟨ai.o.os,ai.o.tape,ai.o.output,ai.o.size,fun k hk=>ai.o.block k (show k<w2.heap.size by omega) (fun e=>by have:=(H.o.mem.own.ep.typed e.symm).1;omega)⟩).setCell H.o.ge _
end Go.Proofs.YtgcbmogmniahjaaGreat
