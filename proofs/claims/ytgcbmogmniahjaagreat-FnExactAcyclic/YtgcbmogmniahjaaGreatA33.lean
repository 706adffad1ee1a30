/- Facts and walks that the theorem stands on. -/
import Derived.Maps.Own
import Derived.Test.YtgcbmogmniahjaaGreatA31
namespace Go.Proofs.YtgcbmogmniahjaaGreat
open Go.Proofs.Tryz
set_option maxRecDepth 100000
set_option maxHeartbeats 3200000
open Go.RowKit Go.PlainAid Go.Sort Go.Maps Go.ChangeMaps
def eM (gp:Nat) (k:BA) (f b:Nat):MapEntry:=⟨.string k,.func (.func f) #[.pointer (some ⟨gp,0,none⟩)] #[],b⟩
def esS (gp:Nat):Array MapEntry:=#[eM gp zG 211 0,eM gp zV 212 1,eM gp zaz 213 2,eM gp zaC 214 3,eM gp zbT 215 4]
def esM (gp:Nat):Array MapEntry:=#[eM gp zG 211 0,eM gp zV 212 1,eM gp zaz 213 2,eM gp zaC 214 3,eM gp zam 216 4,eM gp zal 217 5]
theorem ziz (b:Bool) (k:BA) (W:World):(Instr.checkKey b 10000 9 (.string k)).run prog W= .ok () W:=by
 show (Instr.checkKey b (9999+1) 9 (.string k)).run prog W= .ok () W;rw[Instr.checkKey];simp[run_underlying underlying9]
theorem zi0 {k:BA} {h:List MapEntry} {r:Option (Nat×Value)} (q:Instr.findNow .string (.string k) h 0=some r) (W:World):(Instr.findKey 9 (.string k) h).run prog W= .ok r W:=by
 simp[Instr.findKey,run_underlying underlying9,q]
theorem zcX {W w0:World} {B g c:Nat} {q:Array MapEntry} {k:BA} {v:Value} (w:W.heap[g]? =some (.map q c)) (A:Instr.findNow .string (.string k) q.toList 0=some none) (h:Below B w0 W) (hB:B<=g):
  ∃z,(Instr.mapUpdate 224 (.map (some g)) (.string k) v).run prog W= .ok () z/\z.heap[g]? =some (.map (q.push ⟨.string k,v,c⟩) (c+1))/\Below B w0 z:=by
 refine⟨setBlock W g (.map (q.push ⟨.string k,v,c⟩) (c+1)),?_,heap_setBlock_same w _,⟨h.os,h.tape,h.output,by simpa [setBlock] using h.size,fun i H=>(heap_setBlock_other w _ (by omega)).trans (h.block i H)⟩⟩;simp[Instr.mapUpdate,run_underlying underlying224,MapKept.run_getObj_map w,ziz,zi0 A,MapKept.run_setObj_map _ w,Result.andThen,setBlock]
theorem zcY {W:World} {g c i:Nat} {h:Array MapEntry} {k:BA} {v:Value} (q:W.heap[g]? =some (.map h c)) (w:Instr.findNow .string (.string k) h.toList 0=some (some (i,v))):
  (Instr.lookup 224 (.map (some g)) (.string k) true).run prog W= .ok (.tuple #[v,.bool true]) W:=by
 simp[Instr.lookup,run_underlying underlying224,MapKept.run_getObj_map q,ziz,zi0 w,Result.andThen]
theorem zmd {W:World} {g c:Nat} {q:Array MapEntry} {k:BA} (w:W.heap[g]? =some (.map q c)) (z:Instr.findNow .string (.string k) q.toList 0=some none):
  ∃v,(Instr.lookup 224 (.map (some g)) (.string k) true).run prog W= .ok (.tuple #[v,.bool false]) W:=by
 have h: ∃v,(zeroValue 1).run prog W= .ok v W:=⟨.nilFunc,by kernel_rfl⟩;obtain⟨v,h⟩:=h;exact⟨v,by simp[Instr.lookup,run_underlying underlying224,MapKept.run_getObj_map w,ziz,zi0 z,Result.andThen,h]⟩
theorem ztV (C:Cx) (gt z base A:Nat) (S:Sv) (q:PS) (w:World) (h:IM C gt z base A S q w) (hs:C.scr=true):
  Calls prog 194 #[.pointer (some ⟨A,0,none⟩)] w fun e w'=>e= .returned (.map (some w.heap.size))/\w'.heap[w.heap.size]? =some (.map (esS A) 5)/\Below w.heap.size w w':=by
 have HH:=zc h;have Y:=@run_makeMap prog;have Z: ∀(U:Fn) (first z:Array Value) (w:World),(Instr.makeFunc U first z).run prog w= .ok (.func U first z) w:=fun _ _ _ _=>rfl;obtain⟨W1,r1,O,I⟩:=zcX (k:=zG) (v:=.func (.func 211) #[.pointer (some ⟨A,0,none⟩)] #[]) (heap_alloc_new w (.map #[] 0)) rfl ((Below.refl w.heap.size w).alloc (Nat.le_refl _) _) (Nat.le_refl _);obtain⟨W2,r2,M,V⟩:=zcX (k:=zV) (v:=.func (.func 212) #[.pointer (some ⟨A,0,none⟩)] #[]) O rfl I (Nat.le_refl _);obtain⟨W3,r3,K,L⟩:=zcX (k:=zaz) (v:=.func (.func 213) #[.pointer (some ⟨A,0,none⟩)] #[]) M rfl V (Nat.le_refl _);obtain⟨W4,r4,N,H⟩:=zcX (k:=zaC) (v:=.func (.func 214) #[.pointer (some ⟨A,0,none⟩)] #[]) K rfl L (Nat.le_refl _);obtain⟨W5,r5,X,J⟩:=zcX (k:=zbT) (v:=.func (.func 215) #[.pointer (some ⟨A,0,none⟩)] #[]) N rfl H (Nat.le_refl _);have G:=zc X;have B:=zc J;obtain⟨_,_,_,c3,_,_,_,_,_,_,cf⟩:=zah (HH.o.later H).cells;rw[hs] at c3;clear h O I M V K L N H X J;go_enter func194,ntmps194;go_wp2;go_ret;exact⟨rfl,G.o,B.o⟩
theorem ztW (h:Nat):Instr.findNow .string (.string zG) (esS h).toList 0=some (some (0,.func (.func 211) #[.pointer (some ⟨h,0,none⟩)] #[])):=by rfl
theorem ztX (h:Nat):Instr.findNow .string (.string zV) (esS h).toList 0=some (some (1,.func (.func 212) #[.pointer (some ⟨h,0,none⟩)] #[])):=by rfl
theorem ztY (h:Nat):Instr.findNow .string (.string zaz) (esS h).toList 0=some (some (2,.func (.func 213) #[.pointer (some ⟨h,0,none⟩)] #[])):=by rfl
theorem ztZ (h:Nat):Instr.findNow .string (.string zaC) (esS h).toList 0=some (some (3,.func (.func 214) #[.pointer (some ⟨h,0,none⟩)] #[])):=by rfl
theorem zua (h:Nat):Instr.findNow .string (.string zbT) (esS h).toList 0=some (some (4,.func (.func 215) #[.pointer (some ⟨h,0,none⟩)] #[])):=by rfl
theorem zub (h:Nat) (x:BA) (A:(x==zG)=false) (z:(x==zV)=false) (q:(x==zaz)=false) (H:(x==zaC)=false) (w:(x==zbT)=false):Instr.findNow .string (.string x) (esS h).toList 0=some none:=by
 simp[esS,eM,Instr.findNow,Instr.sameNow,A,z,q,H,w]
theorem zuc (C:Cx) (gt A base z:Nat) (S:Sv) (q:PS) (w:World) (h:IM C gt A base z S q w) (hs:C.scr=false):
  Calls prog 194 #[.pointer (some ⟨z,0,none⟩)] w fun e w'=>e= .returned (.map (some w.heap.size))/\w'.heap[w.heap.size]? =some (.map (esM z) 6)/\Below w.heap.size w w':=by
 have HH:=zc h;have aa:=@run_makeMap prog;have ab: ∀(X:Fn) (first A:Array Value) (w:World),(Instr.makeFunc X first A).run prog w= .ok (.func X first A) w:=fun _ _ _ _=>rfl;obtain⟨W1,r1,V,J⟩:=zcX (k:=zG) (v:=.func (.func 211) #[.pointer (some ⟨z,0,none⟩)] #[]) (heap_alloc_new w (.map #[] 0)) rfl ((Below.refl w.heap.size w).alloc (Nat.le_refl _) _) (Nat.le_refl _);obtain⟨W2,r2,O,Y⟩:=zcX (k:=zV) (v:=.func (.func 212) #[.pointer (some ⟨z,0,none⟩)] #[]) V rfl J (Nat.le_refl _);obtain⟨W3,r3,M,N⟩:=zcX (k:=zaz) (v:=.func (.func 213) #[.pointer (some ⟨z,0,none⟩)] #[]) O rfl Y (Nat.le_refl _);obtain⟨W4,r4,U,H⟩:=zcX (k:=zaC) (v:=.func (.func 214) #[.pointer (some ⟨z,0,none⟩)] #[]) M rfl N (Nat.le_refl _);obtain⟨W5,r5,Z,K⟩:=zcX (k:=zam) (v:=.func (.func 216) #[.pointer (some ⟨z,0,none⟩)] #[]) U rfl H (Nat.le_refl _);obtain⟨W6,r6,I,L⟩:=zcX (k:=zal) (v:=.func (.func 217) #[.pointer (some ⟨z,0,none⟩)] #[]) Z rfl K (Nat.le_refl _);have G:=zc I;have B:=zc L;obtain⟨_,_,_,c3,_,_,_,_,_,_,cf⟩:=zah (HH.o.later H).cells;rw[hs] at c3;clear h V J O Y M N U H Z K I L;go_enter func194,ntmps194;go_wp2;go_ret;exact⟨rfl,G.o,B.o⟩
theorem zud (h:Nat):Instr.findNow .string (.string zG) (esM h).toList 0=some (some (0,.func (.func 211) #[.pointer (some ⟨h,0,none⟩)] #[])):=by rfl
theorem zue (h:Nat):Instr.findNow .string (.string zV) (esM h).toList 0=some (some (1,.func (.func 212) #[.pointer (some ⟨h,0,none⟩)] #[])):=by rfl
theorem zuf (h:Nat):Instr.findNow .string (.string zaz) (esM h).toList 0=some (some (2,.func (.func 213) #[.pointer (some ⟨h,0,none⟩)] #[])):=by rfl
theorem zug (h:Nat):Instr.findNow .string (.string zaC) (esM h).toList 0=some (some (3,.func (.func 214) #[.pointer (some ⟨h,0,none⟩)] #[])):=by rfl
theorem zuh (h:Nat):Instr.findNow .string (.string zam) (esM h).toList 0=some (some (4,.func (.func 216) #[.pointer (some ⟨h,0,none⟩)] #[])):=by rfl
theorem zui (h:Nat):Instr.findNow .string (.string zal) (esM h).toList 0=some (some (5,.func (.func 217) #[.pointer (some ⟨h,0,none⟩)] #[])):=by rfl
theorem zuj (h:Nat) (x:BA) (H:(x==zG)=false) (z:(x==zV)=false) (q:(x==zaz)=false) (I:(x==zaC)=false) (w:(x==zam)=false) (A:(x==zal)=false):Instr.findNow .string (.string x) (esM h).toList 0=some none:=by
 simp[esM,eM,Instr.findNow,Instr.sameNow,H,z,q,I,w,A]
def zaF (C:Cx) (q:PS):PR:=
 if isT C q.pos 1 zG then letJ C 1 (adv q)
 else if isT C q.pos 1 zV then fnI C (adv q)
 else if isT C q.pos 1 zaz then printI C (adv q)
 else if isT C q.pos 1 zaC then stmtI C 5 sNone cSemi (adv q)
 else if C.scr&&isT C q.pos 1 zbT then stmtI C 6 sNone cSemi (adv q)
 else if !C.scr&&isT C q.pos 1 zam then zaR C (adv q)
 else if !C.scr&&isT C q.pos 1 zal then zax C (adv q)
 else letJ C 3 q
theorem zuk (C:Cx) (k:Int) (n:BA) (q:PS):stmtI C k n cSemi q=bd (bd (bd (pE C .sum 0 q) (zd C 4 cSemi)) (zY C k n)) .ok:=by
 rw[zeM,zP,stmtI];refine zag fun a _=>?_;rw[show zaI C cSemi cSemi.size 0 a=zd C 4 cSemi a from zjF C 59 a]
theorem zeW (C:Cx) (k:Int) (n:BA) (q:PS):bd (bd (pE C .sum 0 q) (zd C 4 cSemi)) (zY C k n)=stmtI C k n cSemi q:=by rw[zuk,zeM]
theorem zul (C:Cx) (k:Int) (n:BA) (q:PS):bd (bd (bd (pE C .sum 0 q) (zd C 4 za8)) (zd C 4 cSemi)) (zY C k n)=stmtI C k n cShutSemi q:=by
 rw[zP,zP,stmtI];refine zag fun a _=>?_;rw[show zaI C cShutSemi cShutSemi.size 0 a=bd (zd C 4 za8 a) (zd C 4 cSemi) from zjG C 41 59 a,zP]
theorem zum (C:Cx) (k:Int) (n:BA) (q:PS):bd (bd (bd (pE C .sum 0 q) (zd C 4 cSemi)) (zd C 4 zb1)) (zY C k n)=stmtI C k n cSemiRight q:=by
 rw[zP,zP,stmtI];refine zag fun a _=>?_;rw[show zaI C cSemiRight cSemiRight.size 0 a=bd (zd C 4 cSemi a) (zd C 4 zb1) from zjG C 59 125 a,zP]
theorem zme {C:Cx} {q:PS} (h:isT C q.pos 1 zG=true):zcO C q=bd (letJ C 1 (adv q)) fun a=>.ok (a,(ze C (q.pos+1)).text):=by
 rw[zcO,withN,zcg h,zA,letJ,zP];refine zag fun a w=>?_;rw[zP,zA,zP,zP,zP];refine zag fun b _=>?_;rw[<-zP,<-zP,zeW,(zb2 w).1];rfl
theorem zmf {C:Cx} {q:PS} (h:isT C q.pos 1 zV=true):fnP C q=bd (fnI C (adv q)) fun a=>.ok (a,(ze C (q.pos+1)).text):=by
 rw[fnP,withN,zcg h,zA,fnI,zP];refine zag fun a w=>?_;rw[show zaI C cCall cCall.size 0 a.1=bd (zd C 4 zp a.1) fun a=>bd (zd C 4 za8 a) (zd C 4 zN) from zou C 40 41 123 a.1,zP,zP,zA];rw[(zb2 w).1];simp only[zP,<-zum];rfl
theorem zmg (x:PR) (n:BA):zaT (bd x fun a=>.ok (a,n))=x:=by rw[zaT,zP];exact zeM x
theorem zi1 (C:Cx) (l:List Ep) (q:PS):impFromI C l q=bd (zbi C (zaM C (.ok q))) fun b=>zZ (fun e=>zan C (zcf b.2 e)) l (.ok b.1):=by
 rw[impFromI,zbi,zaM,zA,zP,zP];refine zag fun a _=>zag fun b _=>?_;rw[zP];rfl
theorem zun {C:Cx} {q:PS} (h:isT C q.pos 1 zam=true):zbc C q=zaR C (adv q):=by
 rw[zbc,zcg h,zA,zaR];cases I:isT C (adv q).pos 4 zN with
 |true=>
  have w:((ze C (adv q).pos).kind==3)=false:=by
   have:=zgu I;rw[beq_iff_eq] at this;rw[this];rfl
  rw[w];simp only[Bool.false_eq_true,↓reduceIte];rw[zde,zcg I,zA];refine zag fun a _=>?_;rw[zi1]
 |false=>
  cases H:isT C (adv q).pos 4 zy with
  |true=>
   have w:((ze C (adv q).pos).kind==3)=false:=by
    have:=zgu H;rw[beq_iff_eq] at this;rw[this];rfl
   rw[w];simp only[Bool.false_eq_true,↓reduceIte];rw[zcg H,zA,zP];refine zag fun a _=>zag fun b _=>?_;rw[zi1];rfl
  |false=>
   cases A:zH C (adv q).pos false with
   |true=>
    have w:((ze C (adv q).pos).kind==3)=false:=by
     have z:=A;simp only[zH,Bool.and_eq_true,beq_iff_eq] at z;rw[z.1];rfl
    rw[w];simp only[Bool.false_eq_true,↓reduceIte];refine zag fun a _=>?_;rw[zi1];rfl
   |false=>
    cases w:((ze C (adv q).pos).kind==3) with
    |true=>simp only[Bool.false_eq_true,↓reduceIte]
    |false=>
     simp only[Bool.false_eq_true,↓reduceIte];rw[zL,w,zm,A];rfl
theorem zuo (C:Cx) (l:List Ep) (q:PS) (h:isT C q.pos 1 zW=false) (w:zaH l=false):zaE C l q=bd (zd C 4 cSemi q) fun q=>zZ (fun e=>zq C (zD e)) l (.ok q):=by rw[zaE,h,w];rfl
theorem zmh (C:Cx) (l:List Ep) (q:PS) (h:(isT C q.pos 1 zW||zaH l)=true):zaE C l q=bd (zbi C (zaM C (.ok q))) fun b=>zZ (fun e=>zq C (zav b.2 e)) l (.ok b.1):=by
 rw[zaE,h,if_pos rfl,zbi,zaM,zA,zP,zP];refine zag fun a _=>zag fun b _=>?_;rw[zP];rfl
theorem zup {C:Cx} {q:PS} (h:isT C q.pos 1 zal=true):zao C q=zax C (adv q):=by
 rw[zao,zcg h,zA,zax];cases I:isT C (adv q).pos 4 zN with
 |true=>
  simp only[↓reduceIte];rw[zde,zcg I,zA];refine zag fun a _=>?_;cases z:isT C a.1.pos 1 zW with
  |true=>rw[zmh C a.2 a.1 (by rw[z];rfl),if_neg (by simp)]
  |false=>
   cases w:zaH a.2 with
   |true=>rw[zmh C a.2 a.1 (by rw[w];simp),if_neg (by simp)]
   |false=>rw[zuo C a.2 a.1 z w,if_pos (by simp)]
 |false=>
  cases A:isT C (adv q).pos 4 zy with
  |true=>
   simp only[Bool.false_eq_true,↓reduceIte];rw[zcg A,zbi,zaM,zA,zP,zP];refine zag fun a _=>zag fun b _=>?_;rw[zP];rfl
  |false=>
   cases K:isT C (adv q).pos 1 sDefault with
   |true=>
    simp only[Bool.false_eq_true,↓reduceIte];rw[zcg K,zA,zeW]
   |false=>
    cases H:isT C (adv q).pos 1 zG with
    |true=>
     simp only[Bool.false_eq_true,↓reduceIte];rw[zme H,zP];rfl
    |false=>
     cases J:isT C (adv q).pos 1 zV with
     |true=>
      simp only[Bool.false_eq_true,↓reduceIte];rw[zmf J,zP];rfl
     |false=>simp only[Bool.false_eq_true,↓reduceIte]
theorem zdU {C:Cx} {i:Nat} {x y:BA} (h:isT C i 1 x=true) (q:(x.toList==y.toList)=false):isT C i 1 y=false:=by
 have e:=zhB h;rw[isT,e,q];simp
theorem zmi (C:Cx) (q:PS):zaF C q=zB C q:=by
 rw[zaF,zB];cases z:isT C q.pos 1 zG with
 |true=>
  rw[zdU z (y:=zam) (by simp),zdU z (y:=zal) (by simp)];simp only[Bool.false_eq_true,↓reduceIte,Bool.and_false];rw[zme z,zmg]
 |false=>
  cases h:isT C q.pos 1 zV with
  |true=>
   rw[zdU h (y:=zam) (by simp),zdU h (y:=zal) (by simp)];simp only[Bool.false_eq_true,↓reduceIte,Bool.and_false];rw[zmf h,zmg]
  |false=>
   cases A:isT C q.pos 1 zaz with
   |true=>
    rw[zdU A (y:=zam) (by simp),zdU A (y:=zal) (by simp)];simp only[Bool.false_eq_true,↓reduceIte,Bool.and_false];rw[zcg A,zA,printI,zP,zP,zP];refine zag fun a _=>?_;rw[<-zul,zP,zP]
   |false=>
    cases w:isT C q.pos 1 zaC with
    |true=>
     rw[zdU w (y:=zam) (by simp),zdU w (y:=zal) (by simp)];simp only[Bool.false_eq_true,↓reduceIte,Bool.and_false];rw[zcg w,zA,zeW]
    |false=>
     cases K:C.scr with
     |true=>
      cases J:isT C q.pos 1 zbT with
      |true=>
       simp only[Bool.false_eq_true,↓reduceIte,Bool.not_true,Bool.false_and,Bool.and_self];rw[zcg J,zA,zeW]
      |false=>
       simp only[Bool.false_eq_true,↓reduceIte,Bool.not_true,Bool.false_and,Bool.and_false];rw[letJ];refine zag fun a _=>?_;rw[zP,zP];refine zag fun b _=>?_;rw[<-zP,zeW]
     |false=>
      cases H:isT C q.pos 1 zam with
      |true=>
       simp only[Bool.false_eq_true,↓reduceIte,Bool.not_false,Bool.false_and,Bool.and_self];rw[zun H]
      |false=>
       cases I:isT C q.pos 1 zal with
       |true=>
        simp only[Bool.false_eq_true,↓reduceIte,Bool.not_false,Bool.false_and,Bool.and_self,Bool.and_false];rw[zup I]
       |false=>
        simp only[Bool.false_eq_true,↓reduceIte,Bool.not_false,Bool.false_and,Bool.and_false];rw[letJ];refine zag fun a _=>?_;rw[zP,zP];refine zag fun b _=>?_;rw[<-zP,zeW]
theorem zmj {P:Program} {O:Array Oper} {o:Oper} {a:Act} {W:World} {K:Act->World->Prop} {Q:Exit->Act->World->Prop} {E:Prop} (Y:o.guard=none) (s x:Operand) (t:TypeId)
  (ho:o.op= .call {callee:=.builtin .append,args:=#[s,x],argTypes:=#[t,t]})
  (base:Nat) (e:TypeId) (i:TypeInfo) (z:Value) (size q:Nat) (ht:P.underlying t=some (.slice e)) (hi:P.info? e=some i) (hz:i.zero=some z) (H:i.size=size) (ab:i.bytes=q) (ac:z.cells.size=size) (aa:0<size) (N:q<=100)
  (r:Rw) (n:Nat) (xs:List Value) (hs:a.eval s= .slice r.a n r.cap) (L:OwnR W base e size r n xs)
  (U m c J:Nat) (w:List Value) (hx:a.eval x= .slice (some ⟨U,0,none⟩) m c) (hg:OwnR W J e size ⟨some ⟨U,0,none⟩,c⟩ m w) (h1: ∀u∈w,u.oneCell'=true) (hn:n+m<=4000000) (I:base<=W.heap.size)
  (h: ∀M w',OwnR w' base e size M (n+m) (xs++w)->W.grownBy w' r.blk->(M.blk=r.blk∨M.blk=some W.heap.size)->K (a.put o.dst (.slice M.a (n+m:Nat) M.cap)) w'):
  if Region.wanted o (yielded O a.tmps)=true then Oper.wp P o a W K Q else E:=by
 have hw:Region.wanted o (yielded O a.tmps)=true:=by simp[Region.wanted,Y]
 rw[if_pos hw]
 obtain⟨v',w',hr,X,h3,_,h5⟩:=run_append_own_at (P:=P) W base t o.type e i z size q ht hi hz H ab ac aa _ n xs L ⟨U,0,none⟩ m c w hg.1 (by
  intro j u hj;have e1:(⟨U,0,none⟩:Addr).add j=⟨U,j,none⟩:=by simp[Addr.add];exact fun h=>h.symm
  have Z:j<w.length:=(List.getElem?_eq_some_iff.1 hj).1;rw[e1,World.ownsRow.cellAt hg j (by rw[<-hg.1];exact Z)]
  exact hj) h1 (by unfold maxLen;omega) (by have:(n+m)*q<=4000000*100:=Nat.mul_le_mul hn N;omega) I
 unfold Oper.wp execOp;simp only[ho,resolve,invoke,builtin,Sem.run_bind,Sem.run_pure,Result.andThen_ok,List.map_toArray,List.map_cons,List.map_nil,hs,hx,hr];rcases X.2 with ⟨hv,V⟩|⟨g',A,ae,rfl,ad⟩
 ·subst hv;have:=h ⟨none,0⟩ w' (by rw[V] at X ⊢;exact X) (by rw[<-zb5 r n];exact h3) (by rw[<-zb5 r n];exact h5);rw[V] at this;exact this
 ·refine h ⟨some ⟨g',0,none⟩,A⟩ w' X ?_ ?_
  ·rw[<-zb5 r n];exact h3
  ·rw[<-zb5 r n,<-zb5 ⟨some ⟨g',0,none⟩,A⟩ (n+m)];exact h5
theorem zmk {P:Program} {w:Array Oper} {o:Oper} {a:Act} {W:World} {K:Act->World->Prop} {Q:Exit->Act->World->Prop} {E:Prop} (z:o.guard=none) (s x:Operand) (t:TypeId)
  (M:o.op= .call {callee:=.builtin .append,args:=#[s,x],argTypes:=#[t,t]})
  (e:TypeId) (i:TypeInfo) (H:P.underlying t=some (.slice e)) (I:P.info? e=some i) (base size n:Nat)
  (r:Rw) (xs:List Value) (U:a.eval s= .slice r.a n r.cap) (q:OwnR W base e size r n xs) (V:a.eval x= .slice none 0 0)
  (h:K (a.put o.dst (.slice r.a n r.cap)) W):if Region.wanted o (yielded w a.tmps)=true then Oper.wp P o a W K Q else E:=by
 have L:Region.wanted o (yielded w a.tmps)=true:=by simp[Region.wanted,z]
 rw[if_pos L];have N:(Builtin.append_ #[t,t] o.type #[.slice r.a n r.cap,.slice none 0 0]).run P W= .ok (.slice r.a n r.cap) W:=by
  rcases q.2 with ⟨A,_⟩|⟨g,O,J,A,_,_,X,_⟩
  ·rw[A];simp[Builtin.append_,run_underlying H,sizeOf,typeInfo,I,Builtin.lenOf,Builtin.firstCells]
  ·rw[A];simp[Builtin.append_,run_underlying H,sizeOf,typeInfo,I,Builtin.lenOf,Builtin.firstCells,loadCells,X,storeCells]
 unfold Oper.wp execOp;simp only[M,resolve,invoke,builtin,Sem.run_bind,Sem.run_pure,Result.andThen_ok,List.map_toArray,List.map_cons,List.map_nil,U,V,N];exact h
theorem Mem.wholeI {C:Cx} {gt L base b:Nat} {S:Sv} {q:PS} {W w' N:World} {I:Rw} (A:Mem C gt L base S q W) (V:W.grownBy w' S.ep.blk) (Y:OwnR w' base 97 4 I (q.ep.length+q.la.length) (q.ep.flatMap epL++q.la.flatMap epL)) (K:I.blk=S.ep.blk∨I.blk=some W.heap.size) (hb:b<W.heap.size) (w: ¬S.has b)
  (U: ∀k,k≠b->N.heap[k]? =w'.heap[k]?):OwnMod N base {S with ep:=I} q:=by
 have H:(q.ep++q.la).length=q.ep.length+q.la.length:=by simp
 have J: ∀(r:Rw) (e:TypeId) (z n:Nat) (O:List Value),OwnR W base e z r n O->e≠97->(∀k,r.blk=some k->S.has k)->OwnR N base e z r n O:=fun r e z n O h he Z=>
  h.keep fun k g=>(U k (fun M=>w (by rw[<-M];exact Z k g))).trans (V.block k (h.typed g).2.1 fun X=>(h.ne A.own.ep he g) X.symm)
 refine⟨J _ _ _ _ _ A.own.rq (by decide) fun k g=>.inl g,J _ _ _ _ _ A.own.im (by decide) fun k g=>.inr (.inl g),?_,J _ _ _ _ _ A.own.st (by decide) fun k g=>.inr (.inr (.inr (.inl g))),J _ _ _ _ _ A.own.ex (by decide) fun k g=>.inr (.inr (.inr (.inr (.inl g)))),A.inv.rq,A.inv.im,A.inv.ep,A.inv.st,A.inv.ex⟩;rw[H,List.flatMap_append];refine Y.keep fun k g=>U k ?_;rcases K with e|e
 ·intro M;exact w (by rw[<-M];exact .inr (.inr (.inl (by rw[<-e];exact g))))
 ·have:W.heap.size=k:=Option.some.inj (e.symm.trans g);omega
theorem Mem.wholeI0 {C:Cx} {O I base b:Nat} {S:Sv} {q:PS} {W K:World} (z:Mem C O I base S q W) (L:q.la=[]) (A: ¬S.has b)
  (U: ∀k,k≠b->K.heap[k]? =W.heap[k]?):OwnMod K base S q:=by
 have H: ∀(r:Rw) (e:TypeId) (w n:Nat) (J:List Value),OwnR W base e w r n J->(∀k,r.blk=some k->S.has k)->OwnR K base e w r n J:=fun r e w n J h N=>
  h.keep fun k g=>U k (fun M=>A (by rw[<-M];exact N k g))
 refine⟨H _ _ _ _ _ z.own.rq fun k g=>.inl g,H _ _ _ _ _ z.own.im fun k g=>.inr (.inl g),?_,H _ _ _ _ _ z.own.st fun k g=>.inr (.inr (.inr (.inl g))),H _ _ _ _ _ z.own.ex fun k g=>.inr (.inr (.inr (.inr (.inl g)))),z.inv.rq,z.inv.im,z.inv.ep,z.inv.st,z.inv.ex⟩;rw[L,List.append_nil];exact H _ _ _ _ _ z.own.ep fun k g=>.inr (.inr (.inl g))
theorem zcZ {C:Cx} {i:Nat} {k:BA} (h:isT C i 1 k=true):zcG C i=k:=by
 rw[zcG,zgu h,zhB h];rfl
theorem zda {C:Cx} {i:Nat} {k:BA} (h:isT C i 1 k=false) (w:sNone≠k):(zcG C i==k)=false:=by
 rw[Bool.eq_false_iff];intro e;rw[MapKept.bytes_beq] at e;cases q:((ze C i).kind==1) with
 |false=>
  rw[zcG,q] at e;exact w e
 |true=>
  rw[zcG,q,if_pos rfl] at e;rw[isT,q,e] at h;simp at h
theorem zbA {C:Cx} {J z base A g c:Nat} {S I:Sv} {q:PS} {W w':World} {H:Array MapEntry} (h:IM C J z base A S q W) (w:W.heap[g]? =some (.map H c)) (s:IS A S W I w'):w'.heap[g]? =some (.map H c):=by
 refine (s.block g (aLt w) (fun k=>?_) (fun e=>?_)).trans w
 ·rcases k with k|k|k|k|k|k
  ·obtain⟨_,_,c,e⟩:=h.mem.own.rq.typed k;rw[w] at e;cases e
  ·obtain⟨_,_,c,e⟩:=h.mem.own.im.typed k;rw[w] at e;cases e
  ·obtain⟨_,_,c,e⟩:=h.mem.own.ep.typed k;rw[w] at e;cases e
  ·obtain⟨_,_,c,e⟩:=h.mem.own.st.typed k;rw[w] at e;cases e
  ·obtain⟨_,_,c,e⟩:=h.mem.own.ex.typed k;rw[w] at e;cases e
  ·obtain⟨_,_,c,e⟩:=h.mem.own.la.typed k;rw[w] at e;cases e
 ·have:=h.cells;rw[<-e,w] at this;cases this
theorem zcA {C:Cx} {q:PS} {y:PR} (h:q.pos<C.ts.length) (w:zaF C q=y):za0 C q=bd y (za0 C):=by rw[zgi,if_pos h,<-zmi,w]
theorem zml {C:Cx} {q:PS} (h: ¬q.pos<C.ts.length):za0 C q= .ok q:=by rw[zgi,if_neg h]
theorem zcB {C:Cx} {q a:PS} {y:PR} (w:zaF C q=y) (h:y= .ok a):q.pos<a.pos:=zgh (by rw[<-zmi,w,h])
def zi2 (base gp:Nat) (y:PR) (w:World) (e:Ending) (w':World):Prop:=
 match y with
 | .ok q=>e= .returned (.tuple #[])/\∃S,OwnMod w' base S q/\(∃v0 v1 v2 v3 v9,w'.heap[gp]? =some (.cells #[v0,v1,v2,v3,.slice S.rq.a q.rq.length S.rq.cap,.slice S.im.a q.im.length S.im.cap,.slice S.ep.a (q.ep++q.la).length S.ep.cap,.slice S.st.a q.st.length S.st.cap,.slice S.ex.a q.ex.length S.ex.cap,v9] 211 (0,0)))/\Below base w w'
 | .error p=>e=Pan p/\Below base w w'
theorem zuq (C:Cx) (gt K base A:Nat) (S:Sv) (q:PS) (w:World) (h:IM C gt K base A S q w) (hs:C.scr=true):
  Calls prog 169 #[.pointer (some ⟨A,0,none⟩)] w (zi2 base A (za0 C q) w):=by
 obtain⟨i0,hi,aB,aH,aF⟩:=info_parts Tryz.infoExp;go_enter func169,ntmps169;go_wp2_with fail;refine (ztV C gt K base A S q _ h hs).mono ?_;rintro e w1 ⟨rfl,hg,hb⟩;have aI:=h.later hb;have aA:IS A S w S w1:=IS.below hb;have aJ:=zc hg;clear hg hb;go_wp2;go_loopg [] (C.ts.length+1) (fun k wr=>∃(N:Sv) (z:PS),za0 C q=za0 C z/\C.ts.length-z.pos<k/\IM C gt K base A N z wr/\IS A S w N wr/\wr.heap[w.heap.size]? =some (.map (esS A) 5))
 case atStart=>exact⟨S,q,rfl,by omega,aI,aA,aJ.o⟩
 case round=>
  obtain⟨N,z,hy,hk,m',s',g'⟩:=hrel;have ae:=zc hy;have ao:=m';have ax:=s';have au:Hid (wr.heap[w.heap.size]? =some (.map (esS A) 5)):=g';obtain⟨c0,c1,_,_,_,_,_,_,_,_,_⟩:=zah m'.cells;have C0:=zc c0;have C1:=zc c1;have aL:=m'.mem.inv.pos;have aK:=m'.mem.few;clear hy m' s' g' c0 c1;have k0:=cell_regrown C0.o;have k1:=cell_regrown C1.o;by_cases hp:z.pos<C.ts.length
  ·have aD:((z.pos:Int)<(C.ts.length:Int)):=by omega
   go_wp2_with fail;refine wp_region_quiet_below (by kernel_rfl) (by kernel_rfl) ?_
   repeat (go_big_quiet_step (fail))
   refine wpQuiet_nil ?_;intro w2 aq;obtain⟨⟨dq,aE⟩,ac⟩:=aq;have ag:Below wr.heap.size wr w2:=by show Below _ _ _;rw[ac];exact below_regrown _ _ _
   clear ac k0 k1 C0 C1;have J:Hid (IM C gt K base A N z w2):=ao.later ag;have an:=ax.trans (IS.below ag);have ap:Hid (w2.heap[w.heap.size]? =some (.map (esS A) 5)):=zbA ao au.o (IS.below ag);go_wp2_with fail;refine (zjO C gt K base A N z _ J.o).mono ?_;rintro e w3 ⟨rfl,hb⟩;have ad:Hid (IM C gt K base A N z w3):=J.o.later hb;have af:=an.trans (IS.below hb);have O:Hid (w3.heap[w.heap.size]? =some (.map (esS A) 5)):=zbA J.o ap.o (IS.below hb);clear hb;have aj:w.heap.size≠A:=by have:=h.lt;omega
   obtain⟨c0,c1,c2,c3,c4,c5,c6,c7,c8,c9,cf⟩:=zah ad.o.cells;cases t0:isT C z.pos 1 zG with
   |true=>
    have H:zaF C z=letJ C 1 (adv z):=by rw[zaF,t0];rfl
    have HZ:=zc (ae.o.trans (zcA hp H));have Y:=zc H;clear H;rw[zcZ t0];have ak:=zcY O.o (ztW A);go_wp2_with fail;have M:=ad.o.adv hp;have L:IS A S w N (w3.setCell ⟨A,1,none⟩ (.int .i64 ((z.pos:Int)+1))):=af.set _ _;have ab:Hid ((w3.setCell ⟨A,1,none⟩ (.int .i64 ((z.pos:Int)+1))).heap[w.heap.size]? =some (.map (esS A) 5)):=(zv aj).trans O.o;refine (zhD C gt K base A N (adv z) _ M).mono ?_;cases I:letJ C 1 (adv z) with
    |error p=>
     rintro e w5 ⟨rfl,hb⟩;have HB:=(h.back L).trans hb;have HX:Hid (za0 C q= .error p):=bdE HZ.o I;unfold Pan;go_wp2;refine⟨rfl,?_⟩;rw[HX.o];exact⟨rfl,HB⟩
    |ok a5=>
     rintro e w5 ⟨rfl,S5,V,s⟩;have U:Hid (w5.heap[w.heap.size]? =some (.map (esS A) 5)):=zbA M ab.o s;have Z:=L.trans s;clear s;have X:=zc (bdO HZ.o I);have aa:=zc (zcB Y.o I);go_wp2;go_roundg (gk-1)
     case rel=>exact⟨S5,a5,X.o,by have:=aa.o;omega,V,Z,U.o⟩
     case measure=>omega
   |false=>
    cases t1:isT C z.pos 1 zV with
    |true=>
     have H:zaF C z=fnI C (adv z):=by rw[zaF,t0,t1];simp only[Bool.false_eq_true,↓reduceIte]
     have HZ:=zc (ae.o.trans (zcA hp H));have Y:=zc H;clear H;rw[zcZ t1];have ak:=zcY O.o (ztX A);go_wp2_with fail;have M:=ad.o.adv hp;have L:IS A S w N (w3.setCell ⟨A,1,none⟩ (.int .i64 ((z.pos:Int)+1))):=af.set _ _;have ab:Hid ((w3.setCell ⟨A,1,none⟩ (.int .i64 ((z.pos:Int)+1))).heap[w.heap.size]? =some (.map (esS A) 5)):=(zv aj).trans O.o;refine (zhE C gt K base A N (adv z) _ M).mono ?_;cases I:fnI C (adv z) with
     |error p=>
      rintro e w5 ⟨rfl,hb⟩;have HB:=(h.back L).trans hb;have HX:Hid (za0 C q= .error p):=bdE HZ.o I;unfold Pan;go_wp2;refine⟨rfl,?_⟩;rw[HX.o];exact⟨rfl,HB⟩
     |ok a5=>
      rintro e w5 ⟨rfl,S5,V,s⟩;have U:Hid (w5.heap[w.heap.size]? =some (.map (esS A) 5)):=zbA M ab.o s;have Z:=L.trans s;clear s;have X:=zc (bdO HZ.o I);have aa:=zc (zcB Y.o I);go_wp2;go_roundg (gk-1)
      case rel=>exact⟨S5,a5,X.o,by have:=aa.o;omega,V,Z,U.o⟩
      case measure=>omega
    |false=>
     cases t2:isT C z.pos 1 zaz with
     |true=>
      have H:zaF C z=printI C (adv z):=by rw[zaF,t0,t1,t2];simp only[Bool.false_eq_true,↓reduceIte]
      have HZ:=zc (ae.o.trans (zcA hp H));have Y:=zc H;clear H;rw[zcZ t2];have ak:=zcY O.o (ztY A);go_wp2_with fail;have M:=ad.o.adv hp;have L:IS A S w N (w3.setCell ⟨A,1,none⟩ (.int .i64 ((z.pos:Int)+1))):=af.set _ _;have ab:Hid ((w3.setCell ⟨A,1,none⟩ (.int .i64 ((z.pos:Int)+1))).heap[w.heap.size]? =some (.map (esS A) 5)):=(zv aj).trans O.o;refine (zjM C gt K base A N (adv z) _ M).mono ?_;cases I:printI C (adv z) with
      |error p=>
       rintro e w5 ⟨rfl,hb⟩;have HB:=(h.back L).trans hb;have HX:Hid (za0 C q= .error p):=bdE HZ.o I;unfold Pan;go_wp2;refine⟨rfl,?_⟩;rw[HX.o];exact⟨rfl,HB⟩
      |ok a5=>
       rintro e w5 ⟨rfl,S5,V,s⟩;have U:Hid (w5.heap[w.heap.size]? =some (.map (esS A) 5)):=zbA M ab.o s;have Z:=L.trans s;clear s;have X:=zc (bdO HZ.o I);have aa:=zc (zcB Y.o I);go_wp2;go_roundg (gk-1)
       case rel=>exact⟨S5,a5,X.o,by have:=aa.o;omega,V,Z,U.o⟩
       case measure=>omega
     |false=>
      cases t3:isT C z.pos 1 zaC with
      |true=>
       have H:zaF C z=stmtI C 5 sNone cSemi (adv z):=by rw[zaF,t0,t1,t2,t3];simp only[Bool.false_eq_true,↓reduceIte]
       have HZ:=zc (ae.o.trans (zcA hp H));have Y:=zc H;clear H;rw[zcZ t3];have ak:=zcY O.o (ztZ A);go_wp2_with fail;have M:=ad.o.adv hp;have L:IS A S w N (w3.setCell ⟨A,1,none⟩ (.int .i64 ((z.pos:Int)+1))):=af.set _ _;have ab:Hid ((w3.setCell ⟨A,1,none⟩ (.int .i64 ((z.pos:Int)+1))).heap[w.heap.size]? =some (.map (esS A) 5)):=(zv aj).trans O.o;refine (zjN C gt K base A N (adv z) _ M).mono ?_;cases I:stmtI C 5 sNone cSemi (adv z) with
       |error p=>
        rintro e w5 ⟨rfl,hb⟩;have HB:=(h.back L).trans hb;have HX:Hid (za0 C q= .error p):=bdE HZ.o I;unfold Pan;go_wp2;refine⟨rfl,?_⟩;rw[HX.o];exact⟨rfl,HB⟩
       |ok a5=>
        rintro e w5 ⟨rfl,S5,V,s⟩;have U:Hid (w5.heap[w.heap.size]? =some (.map (esS A) 5)):=zbA M ab.o s;have Z:=L.trans s;clear s;have X:=zc (bdO HZ.o I);have aa:=zc (zcB Y.o I);go_wp2;go_roundg (gk-1)
        case rel=>exact⟨S5,a5,X.o,by have:=aa.o;omega,V,Z,U.o⟩
        case measure=>omega
      |false=>
       cases t4:isT C z.pos 1 zbT with
       |true=>
        have H:zaF C z=stmtI C 6 sNone cSemi (adv z):=by rw[zaF,t0,t1,t2,t3,t4,hs];simp only[Bool.false_eq_true,↓reduceIte,Bool.and_self]
        have HZ:=zc (ae.o.trans (zcA hp H));have Y:=zc H;clear H;rw[zcZ t4];have ak:=zcY O.o (zua A);go_wp2_with fail;have M:=ad.o.adv hp;have L:IS A S w N (w3.setCell ⟨A,1,none⟩ (.int .i64 ((z.pos:Int)+1))):=af.set _ _;have ab:Hid ((w3.setCell ⟨A,1,none⟩ (.int .i64 ((z.pos:Int)+1))).heap[w.heap.size]? =some (.map (esS A) 5)):=(zv aj).trans O.o;refine (zoH C gt K base A N (adv z) _ M).mono ?_;cases I:stmtI C 6 sNone cSemi (adv z) with
        |error p=>
         rintro e w5 ⟨rfl,hb⟩;have HB:=(h.back L).trans hb;have HX:Hid (za0 C q= .error p):=bdE HZ.o I;unfold Pan;go_wp2;refine⟨rfl,?_⟩;rw[HX.o];exact⟨rfl,HB⟩
        |ok a5=>
         rintro e w5 ⟨rfl,S5,V,s⟩;have U:Hid (w5.heap[w.heap.size]? =some (.map (esS A) 5)):=zbA M ab.o s;have Z:=L.trans s;clear s;have X:=zc (bdO HZ.o I);have aa:=zc (zcB Y.o I);go_wp2;go_roundg (gk-1)
         case rel=>exact⟨S5,a5,X.o,by have:=aa.o;omega,V,Z,U.o⟩
         case measure=>omega
       |false=>
        have H:zaF C z=letJ C 3 z:=by rw[zaF,t0,t1,t2,t3,t4,hs];simp only[Bool.false_eq_true,↓reduceIte,Bool.and_false,Bool.not_true,Bool.false_and]
        have HZ:=zc (ae.o.trans (zcA hp H));have Y:=zc H;clear H;obtain⟨vz,ak⟩:=zmd O.o (zub A (zcG C z.pos) (zda t0 (by decide)) (zda t1 (by decide)) (zda t2 (by decide)) (zda t3 (by decide)) (zda t4 (by decide)));go_wp2_with fail;refine (zjL C gt K base A N z _ ad.o).mono ?_;cases I:letJ C 3 z with
        |error p=>
         rintro e w5 ⟨rfl,hb⟩;have HB:=(h.back af).trans hb;have HX:Hid (za0 C q= .error p):=bdE HZ.o I;unfold Pan;go_wp2;refine⟨rfl,?_⟩;rw[HX.o];exact⟨rfl,HB⟩
        |ok a5=>
         rintro e w5 ⟨rfl,S5,V,s⟩;have U:Hid (w5.heap[w.heap.size]? =some (.map (esS A) 5)):=zbA ad.o O.o s;have Z:=af.trans s;clear s;have X:=zc (bdO HZ.o I);have aa:=zc (zcB Y.o I);go_wp2;go_roundg (gk-1)
         case rel=>exact⟨S5,a5,X.o,by have:=aa.o;omega,V,Z,U.o⟩
         case measure=>omega
  ·have aD: ¬((z.pos:Int)<(C.ts.length:Int)):=by omega
   go_wp2_with fail;refine wp_region_quiet_below (by kernel_rfl) (by kernel_rfl) ?_
   repeat (go_big_quiet_step (fail))
   refine wpQuiet_nil ?_;intro w2 aq;obtain⟨⟨dq,aE⟩,ac⟩:=aq;have ag:Below wr.heap.size wr w2:=by show Below _ _ _;rw[ac];exact below_regrown _ _ _
   clear ac k0 k1 C0 C1;have J:Hid (IM C gt K base A N z w2):=ao.later ag;have an:=ax.trans (IS.below ag);have ap:Hid (w2.heap[w.heap.size]? =some (.map (esS A) 5)):=zbA ao au.o (IS.below ag);have HX:=zc (ae.o.trans (zml hp));obtain⟨c0,c1,c2,c3,c4,c5,c6,c7,c8,c9,cf⟩:=zah J.o.cells;have am:=J.o.mem.own.ep;have aM:=J.o.mem.inv.ep;have al:=J.o.free;have ah:=zc al;clear al;have av:=J.o.lt;rcases J.o.mem.own.la.nil_or with ⟨ha,hc,hn⟩|⟨gl,ha⟩
   ·have HN:=zc (List.eq_nil_of_length_eq_zero hn);rw[ha,hc,hn] at c9;clear ha hc hn;go_wp2_with fail;go_region_law (first|(refine zmk rfl (.tmp 41) (.tmp 45) 50 rfl 97 i0 underlying50 hi base 4 z.ep.length N.ep _ (by rfl) (by exact am) (by rfl) ?_))
    all_goals
     go_wp2;go_end0;rw[HX.o];refine⟨rfl,N,J.o.mem.wholeI0 HN.o ah.o (fun k hk=>zv hk),⟨.slice (some ⟨gt,0,none⟩) C.ts.length K,.int .i64 z.pos,.int .i64 C.fin,.bool C.scr,.slice N.la.a z.la.length N.la.cap,(zac J.o.cells).trans (by simp[HN.o])⟩,?_⟩;exact (h.back (an.set _ _)).drew
   ·have aw:OwnR w2 base 97 4 ⟨some ⟨gl,0,none⟩,N.la.cap⟩ z.la.length (z.la.flatMap epL):=by have:=J.o.mem.own.la;unfold OwnR at this ⊢;rw[ha] at this;exact this
    rw[ha] at c9;have az:=J.o.mem.base;have aG:Hid (some A≠N.ep.blk):=fun e=>ah.o (.inr (.inr (.inl e.symm)));go_wp2_with fail;go_region_law (first|(refine zmj rfl (.tmp 41) (.tmp 45) 50 rfl base 97 i0 _ 4 56 underlying50 hi aB aH aF rfl (by decide) (by decide) N.ep z.ep.length _ (by rfl) (by exact am) gl z.la.length N.la.cap base _ (by rfl) (by exact aw) (zh2 _) (by omega) (by exact az) ?_;intro r' wz hr ar ay;have g2:=(ar.block A (by exact av) aG.o).trans (by exact J.o.cells);obtain⟨d0,d1,d2,d3,d4,d5,d6,d7,d8,d9,df⟩:=zah g2))
    all_goals
     have HR:=zc hr;have ai:=zc ar;have aC:=zc ay;have ap:=zc g2;clear hr ar ay g2 c0 c1 c2 c3 c4 c5 c6 c7 c8 c9 cf am aw;go_wp2;go_end0;rw[HX.o];refine⟨rfl,{N with ep:=r'},J.o.drew.mem.wholeI ai.o HR.o aC.o av ah.o (fun k hk=>zv hk),⟨.slice (some ⟨gt,0,none⟩) C.ts.length K,.int .i64 z.pos,.int .i64 C.fin,.bool C.scr,.slice N.la.a z.la.length N.la.cap,(zac ap.o).trans (by simp)⟩,?_⟩;exact ((h.back an).trans ⟨ai.o.os,ai.o.tape,ai.o.output,ai.o.size,fun k hk=>ai.o.block k (show k<w2.heap.size by omega) (fun e=>by have:=(J.o.mem.own.ep.typed e.symm).1;omega)⟩).setCell J.o.ge _
theorem zur (C:Cx) (gt M base A:Nat) (S:Sv) (q:PS) (w:World) (h:IM C gt M base A S q w) (hC:zbr C) (hs:C.scr=false):
  Calls prog 169 #[.pointer (some ⟨A,0,none⟩)] w (zi2 base A (za0 C q) w):=by
 obtain⟨i0,hi,aB,aH,aF⟩:=info_parts Tryz.infoExp;go_enter func169,ntmps169;go_wp2_with fail;refine (zuc C gt M base A S q _ h hs).mono ?_;rintro e w1 ⟨rfl,hg,hb⟩;have aI:=h.later hb;have aA:IS A S w S w1:=IS.below hb;have aJ:=zc hg;clear hg hb;go_wp2;go_loopg [] (C.ts.length+1) (fun k wr=>∃(N:Sv) (z:PS),za0 C q=za0 C z/\C.ts.length-z.pos<k/\IM C gt M base A N z wr/\IS A S w N wr/\wr.heap[w.heap.size]? =some (.map (esM A) 6))
 case atStart=>exact⟨S,q,rfl,by omega,aI,aA,aJ.o⟩
 case round=>
  obtain⟨N,z,hy,hk,m',s',g'⟩:=hrel;have ad:=zc hy;have ao:=m';have ax:=s';have au:Hid (wr.heap[w.heap.size]? =some (.map (esM A) 6)):=g';obtain⟨c0,c1,_,_,_,_,_,_,_,_,_⟩:=zah m'.cells;have C0:=zc c0;have C1:=zc c1;have aL:=m'.mem.inv.pos;have aK:=m'.mem.few;clear hy m' s' g' c0 c1;have k0:=cell_regrown C0.o;have k1:=cell_regrown C1.o;by_cases hp:z.pos<C.ts.length
  ·have aD:((z.pos:Int)<(C.ts.length:Int)):=by omega
   go_wp2_with fail;refine wp_region_quiet_below (by kernel_rfl) (by kernel_rfl) ?_
   repeat (go_big_quiet_step (fail))
   refine wpQuiet_nil ?_;intro w2 aq;obtain⟨⟨dq,aE⟩,af⟩:=aq;have ag:Below wr.heap.size wr w2:=by show Below _ _ _;rw[af];exact below_regrown _ _ _
   clear af k0 k1 C0 C1;have J:Hid (IM C gt M base A N z w2):=ao.later ag;have an:=ax.trans (IS.below ag);have ap:Hid (w2.heap[w.heap.size]? =some (.map (esM A) 6)):=zbA ao au.o (IS.below ag);go_wp2_with fail;refine (zjO C gt M base A N z _ J.o).mono ?_;rintro e w3 ⟨rfl,hb⟩;have ac:Hid (IM C gt M base A N z w3):=J.o.later hb;have ae:=an.trans (IS.below hb);have O:Hid (w3.heap[w.heap.size]? =some (.map (esM A) 6)):=zbA J.o ap.o (IS.below hb);clear hb;have ai:w.heap.size≠A:=by have:=h.lt;omega
   obtain⟨c0,c1,c2,c3,c4,c5,c6,c7,c8,c9,cf⟩:=zah ac.o.cells;cases t0:isT C z.pos 1 zG with
   |true=>
    have H:zaF C z=letJ C 1 (adv z):=by rw[zaF,t0];rfl
    have HZ:=zc (ad.o.trans (zcA hp H));have Y:=zc H;clear H;rw[zcZ t0];have aj:=zcY O.o (zud A);go_wp2_with fail;have L:=ac.o.adv hp;have K:IS A S w N (w3.setCell ⟨A,1,none⟩ (.int .i64 ((z.pos:Int)+1))):=ae.set _ _;have ab:Hid ((w3.setCell ⟨A,1,none⟩ (.int .i64 ((z.pos:Int)+1))).heap[w.heap.size]? =some (.map (esM A) 6)):=(zv ai).trans O.o;refine (zhD C gt M base A N (adv z) _ L).mono ?_;cases I:letJ C 1 (adv z) with
    |error p=>
     rintro e w5 ⟨rfl,hb⟩;have HB:=(h.back K).trans hb;have HX:Hid (za0 C q= .error p):=bdE HZ.o I;unfold Pan;go_wp2;refine⟨rfl,?_⟩;rw[HX.o];exact⟨rfl,HB⟩
    |ok a5=>
     rintro e w5 ⟨rfl,S5,V,s⟩;have U:Hid (w5.heap[w.heap.size]? =some (.map (esM A) 6)):=zbA L ab.o s;have Z:=K.trans s;clear s;have X:=zc (bdO HZ.o I);have aa:=zc (zcB Y.o I);go_wp2;go_roundg (gk-1)
     case rel=>exact⟨S5,a5,X.o,by have:=aa.o;omega,V,Z,U.o⟩
     case measure=>omega
   |false=>
    cases t1:isT C z.pos 1 zV with
    |true=>
     have H:zaF C z=fnI C (adv z):=by rw[zaF,t0,t1];simp only[Bool.false_eq_true,↓reduceIte]
     have HZ:=zc (ad.o.trans (zcA hp H));have Y:=zc H;clear H;rw[zcZ t1];have aj:=zcY O.o (zue A);go_wp2_with fail;have L:=ac.o.adv hp;have K:IS A S w N (w3.setCell ⟨A,1,none⟩ (.int .i64 ((z.pos:Int)+1))):=ae.set _ _;have ab:Hid ((w3.setCell ⟨A,1,none⟩ (.int .i64 ((z.pos:Int)+1))).heap[w.heap.size]? =some (.map (esM A) 6)):=(zv ai).trans O.o;refine (zhE C gt M base A N (adv z) _ L).mono ?_;cases I:fnI C (adv z) with
     |error p=>
      rintro e w5 ⟨rfl,hb⟩;have HB:=(h.back K).trans hb;have HX:Hid (za0 C q= .error p):=bdE HZ.o I;unfold Pan;go_wp2;refine⟨rfl,?_⟩;rw[HX.o];exact⟨rfl,HB⟩
     |ok a5=>
      rintro e w5 ⟨rfl,S5,V,s⟩;have U:Hid (w5.heap[w.heap.size]? =some (.map (esM A) 6)):=zbA L ab.o s;have Z:=K.trans s;clear s;have X:=zc (bdO HZ.o I);have aa:=zc (zcB Y.o I);go_wp2;go_roundg (gk-1)
      case rel=>exact⟨S5,a5,X.o,by have:=aa.o;omega,V,Z,U.o⟩
      case measure=>omega
    |false=>
     cases t2:isT C z.pos 1 zaz with
     |true=>
      have H:zaF C z=printI C (adv z):=by rw[zaF,t0,t1,t2];simp only[Bool.false_eq_true,↓reduceIte]
      have HZ:=zc (ad.o.trans (zcA hp H));have Y:=zc H;clear H;rw[zcZ t2];have aj:=zcY O.o (zuf A);go_wp2_with fail;have L:=ac.o.adv hp;have K:IS A S w N (w3.setCell ⟨A,1,none⟩ (.int .i64 ((z.pos:Int)+1))):=ae.set _ _;have ab:Hid ((w3.setCell ⟨A,1,none⟩ (.int .i64 ((z.pos:Int)+1))).heap[w.heap.size]? =some (.map (esM A) 6)):=(zv ai).trans O.o;refine (zjM C gt M base A N (adv z) _ L).mono ?_;cases I:printI C (adv z) with
      |error p=>
       rintro e w5 ⟨rfl,hb⟩;have HB:=(h.back K).trans hb;have HX:Hid (za0 C q= .error p):=bdE HZ.o I;unfold Pan;go_wp2;refine⟨rfl,?_⟩;rw[HX.o];exact⟨rfl,HB⟩
      |ok a5=>
       rintro e w5 ⟨rfl,S5,V,s⟩;have U:Hid (w5.heap[w.heap.size]? =some (.map (esM A) 6)):=zbA L ab.o s;have Z:=K.trans s;clear s;have X:=zc (bdO HZ.o I);have aa:=zc (zcB Y.o I);go_wp2;go_roundg (gk-1)
       case rel=>exact⟨S5,a5,X.o,by have:=aa.o;omega,V,Z,U.o⟩
       case measure=>omega
     |false=>
      cases t3:isT C z.pos 1 zaC with
      |true=>
       have H:zaF C z=stmtI C 5 sNone cSemi (adv z):=by rw[zaF,t0,t1,t2,t3];simp only[Bool.false_eq_true,↓reduceIte]
       have HZ:=zc (ad.o.trans (zcA hp H));have Y:=zc H;clear H;rw[zcZ t3];have aj:=zcY O.o (zug A);go_wp2_with fail;have L:=ac.o.adv hp;have K:IS A S w N (w3.setCell ⟨A,1,none⟩ (.int .i64 ((z.pos:Int)+1))):=ae.set _ _;have ab:Hid ((w3.setCell ⟨A,1,none⟩ (.int .i64 ((z.pos:Int)+1))).heap[w.heap.size]? =some (.map (esM A) 6)):=(zv ai).trans O.o;refine (zjN C gt M base A N (adv z) _ L).mono ?_;cases I:stmtI C 5 sNone cSemi (adv z) with
       |error p=>
        rintro e w5 ⟨rfl,hb⟩;have HB:=(h.back K).trans hb;have HX:Hid (za0 C q= .error p):=bdE HZ.o I;unfold Pan;go_wp2;refine⟨rfl,?_⟩;rw[HX.o];exact⟨rfl,HB⟩
       |ok a5=>
        rintro e w5 ⟨rfl,S5,V,s⟩;have U:Hid (w5.heap[w.heap.size]? =some (.map (esM A) 6)):=zbA L ab.o s;have Z:=K.trans s;clear s;have X:=zc (bdO HZ.o I);have aa:=zc (zcB Y.o I);go_wp2;go_roundg (gk-1)
        case rel=>exact⟨S5,a5,X.o,by have:=aa.o;omega,V,Z,U.o⟩
        case measure=>omega
      |false=>
       cases t4:isT C z.pos 1 zam with
       |true=>
        have H:zaF C z=zaR C (adv z):=by rw[zaF,t0,t1,t2,t3,t4,hs];simp only[Bool.false_eq_true,↓reduceIte,Bool.false_and,Bool.not_false,Bool.and_self]
        have HZ:=zc (ad.o.trans (zcA hp H));have Y:=zc H;clear H;rw[zcZ t4];have aj:=zcY O.o (zuh A);go_wp2_with fail;have L:=ac.o.adv hp;have K:IS A S w N (w3.setCell ⟨A,1,none⟩ (.int .i64 ((z.pos:Int)+1))):=ae.set _ _;have ab:Hid ((w3.setCell ⟨A,1,none⟩ (.int .i64 ((z.pos:Int)+1))).heap[w.heap.size]? =some (.map (esM A) 6)):=(zv ai).trans O.o;refine (zt7 C gt M base A N (adv z) _ L hC).mono ?_;cases I:zaR C (adv z) with
        |error p=>
         rintro e w5 ⟨rfl,hb⟩;have HB:=(h.back K).trans hb;have HX:Hid (za0 C q= .error p):=bdE HZ.o I;unfold Pan;go_wp2;refine⟨rfl,?_⟩;rw[HX.o];exact⟨rfl,HB⟩
        |ok a5=>
         rintro e w5 ⟨rfl,S5,V,s⟩;have U:Hid (w5.heap[w.heap.size]? =some (.map (esM A) 6)):=zbA L ab.o s;have Z:=K.trans s;clear s;have X:=zc (bdO HZ.o I);have aa:=zc (zcB Y.o I);go_wp2;go_roundg (gk-1)
         case rel=>exact⟨S5,a5,X.o,by have:=aa.o;omega,V,Z,U.o⟩
         case measure=>omega
       |false=>
        cases t5:isT C z.pos 1 zal with
        |true=>
         have H:zaF C z=zax C (adv z):=by rw[zaF,t0,t1,t2,t3,t4,t5,hs];simp only[Bool.false_eq_true,↓reduceIte,Bool.false_and,Bool.not_false,Bool.and_self,Bool.and_false]
         have HZ:=zc (ad.o.trans (zcA hp H));have Y:=zc H;clear H;rw[zcZ t5];have aj:=zcY O.o (zui A);go_wp2_with fail;have L:=ac.o.adv hp;have K:IS A S w N (w3.setCell ⟨A,1,none⟩ (.int .i64 ((z.pos:Int)+1))):=ae.set _ _;have ab:Hid ((w3.setCell ⟨A,1,none⟩ (.int .i64 ((z.pos:Int)+1))).heap[w.heap.size]? =some (.map (esM A) 6)):=(zv ai).trans O.o;refine (ztU C gt M base A N (adv z) _ L hC).mono ?_;cases I:zax C (adv z) with
         |error p=>
          rintro e w5 ⟨rfl,hb⟩;have HB:=(h.back K).trans hb;have HX:Hid (za0 C q= .error p):=bdE HZ.o I;unfold Pan;go_wp2;refine⟨rfl,?_⟩;rw[HX.o];exact⟨rfl,HB⟩
         |ok a5=>
          rintro e w5 ⟨rfl,S5,V,s⟩;have U:Hid (w5.heap[w.heap.size]? =some (.map (esM A) 6)):=zbA L ab.o s;have Z:=K.trans s;clear s;have X:=zc (bdO HZ.o I);have aa:=zc (zcB Y.o I);go_wp2;go_roundg (gk-1)
          case rel=>exact⟨S5,a5,X.o,by have:=aa.o;omega,V,Z,U.o⟩
          case measure=>omega
        |false=>
         have H:zaF C z=letJ C 3 z:=by rw[zaF,t0,t1,t2,t3,t4,t5,hs];simp only[Bool.false_eq_true,↓reduceIte,Bool.false_and,Bool.not_false,Bool.and_false]
         have HZ:=zc (ad.o.trans (zcA hp H));have Y:=zc H;clear H;obtain⟨vz,aj⟩:=zmd O.o (zuj A (zcG C z.pos) (zda t0 (by decide)) (zda t1 (by decide)) (zda t2 (by decide)) (zda t3 (by decide)) (zda t4 (by decide)) (zda t5 (by decide)));go_wp2_with fail;refine (zjL C gt M base A N z _ ac.o).mono ?_;cases I:letJ C 3 z with
         |error p=>
          rintro e w5 ⟨rfl,hb⟩;have HB:=(h.back ae).trans hb;have HX:Hid (za0 C q= .error p):=bdE HZ.o I;unfold Pan;go_wp2;refine⟨rfl,?_⟩;rw[HX.o];exact⟨rfl,HB⟩
         |ok a5=>
          rintro e w5 ⟨rfl,S5,V,s⟩;have U:Hid (w5.heap[w.heap.size]? =some (.map (esM A) 6)):=zbA ac.o O.o s;have Z:=ae.trans s;clear s;have X:=zc (bdO HZ.o I);have aa:=zc (zcB Y.o I);go_wp2;go_roundg (gk-1)
          case rel=>exact⟨S5,a5,X.o,by have:=aa.o;omega,V,Z,U.o⟩
          case measure=>omega
  ·have aD: ¬((z.pos:Int)<(C.ts.length:Int)):=by omega
   go_wp2_with fail;refine wp_region_quiet_below (by kernel_rfl) (by kernel_rfl) ?_
   repeat (go_big_quiet_step (fail))
   refine wpQuiet_nil ?_;intro w2 aq;obtain⟨⟨dq,aE⟩,af⟩:=aq;have ag:Below wr.heap.size wr w2:=by show Below _ _ _;rw[af];exact below_regrown _ _ _
   clear af k0 k1 C0 C1;have J:Hid (IM C gt M base A N z w2):=ao.later ag;have an:=ax.trans (IS.below ag);have ap:Hid (w2.heap[w.heap.size]? =some (.map (esM A) 6)):=zbA ao au.o (IS.below ag);have HX:=zc (ad.o.trans (zml hp));obtain⟨c0,c1,c2,c3,c4,c5,c6,c7,c8,c9,cf⟩:=zah J.o.cells;have am:=J.o.mem.own.ep;have aM:=J.o.mem.inv.ep;have al:=J.o.free;have ah:=zc al;clear al;have av:=J.o.lt;rcases J.o.mem.own.la.nil_or with ⟨ha,hc,hn⟩|⟨gl,ha⟩
   ·have HN:=zc (List.eq_nil_of_length_eq_zero hn);rw[ha,hc,hn] at c9;clear ha hc hn;go_wp2_with fail;go_region_law (first|(refine zmk rfl (.tmp 41) (.tmp 45) 50 rfl 97 i0 underlying50 hi base 4 z.ep.length N.ep _ (by rfl) (by exact am) (by rfl) ?_))
    all_goals
     go_wp2;go_end0;rw[HX.o];refine⟨rfl,N,J.o.mem.wholeI0 HN.o ah.o (fun k hk=>zv hk),⟨.slice (some ⟨gt,0,none⟩) C.ts.length M,.int .i64 z.pos,.int .i64 C.fin,.bool C.scr,.slice N.la.a z.la.length N.la.cap,(zac J.o.cells).trans (by simp[HN.o])⟩,?_⟩;exact (h.back (an.set _ _)).drew
   ·have aw:OwnR w2 base 97 4 ⟨some ⟨gl,0,none⟩,N.la.cap⟩ z.la.length (z.la.flatMap epL):=by have:=J.o.mem.own.la;unfold OwnR at this ⊢;rw[ha] at this;exact this
    rw[ha] at c9;have az:=J.o.mem.base;have aG:Hid (some A≠N.ep.blk):=fun e=>ah.o (.inr (.inr (.inl e.symm)));go_wp2_with fail;go_region_law (first|(refine zmj rfl (.tmp 41) (.tmp 45) 50 rfl base 97 i0 _ 4 56 underlying50 hi aB aH aF rfl (by decide) (by decide) N.ep z.ep.length _ (by rfl) (by exact am) gl z.la.length N.la.cap base _ (by rfl) (by exact aw) (zh2 _) (by omega) (by exact az) ?_;intro r' wz hr ar ay;have g2:=(ar.block A (by exact av) aG.o).trans (by exact J.o.cells);obtain⟨d0,d1,d2,d3,d4,d5,d6,d7,d8,d9,df⟩:=zah g2))
    all_goals
     have HR:=zc hr;have ak:=zc ar;have aC:=zc ay;have ap:=zc g2;clear hr ar ay g2 c0 c1 c2 c3 c4 c5 c6 c7 c8 c9 cf am aw;go_wp2;go_end0;rw[HX.o];refine⟨rfl,{N with ep:=r'},J.o.drew.mem.wholeI ak.o HR.o aC.o av ah.o (fun k hk=>zv hk),⟨.slice (some ⟨gt,0,none⟩) C.ts.length M,.int .i64 z.pos,.int .i64 C.fin,.bool C.scr,.slice N.la.a z.la.length N.la.cap,(zac ap.o).trans (by simp)⟩,?_⟩;exact ((h.back an).trans ⟨ak.o.os,ak.o.tape,ak.o.output,ak.o.size,fun k hk=>ak.o.block k (show k<w2.heap.size by omega) (fun e=>by have:=(J.o.mem.own.ep.typed e.symm).1;omega)⟩).setCell J.o.ge _
end Go.Proofs.YtgcbmogmniahjaaGreat
