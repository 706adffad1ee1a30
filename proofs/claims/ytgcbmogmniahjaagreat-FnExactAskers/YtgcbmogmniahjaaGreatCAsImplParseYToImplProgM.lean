/-
  The table of items of impl's parser: what is stored in it,what is looked up.
  What the items of impl's parser read is what the items of the document are. No program is spoken of.
  'append' of a row onto a row of the call's own,as one step of a region that draws its order; a program handed back. No program is spoken of but for the numbers of its types.
  What program of impl's parser answers: the walks.
  What program of impl's parser answers of a module: the walk.
-/
import Derived.Maps.Own
import Derived.Test.YtgcbmogmniahjaaGreatCAsImplParseVToImplParseX
namespace Go.Proofs.YtgcbmogmniahjaaGreat
set_option maxRecDepth 100000
set_option maxHeartbeats 3200000
open Go.RowKit Go.PlainAid Go.Sort Go.Maps Go.ChangeMaps
def eM (gp:Nat) (k:ByteArray) (f b:Nat):MapEntry:=⟨.string k,.func (.func f) #[.pointer (some ⟨gp,0,none⟩)] #[],b⟩
def esS (gp:Nat):Array MapEntry:=#[eM gp zH 211 0,eM gp zW 212 1,eM gp za1 213 2,eM gp zaD 214 3,eM gp zbZ 215 4]
def esM (gp:Nat):Array MapEntry:=#[eM gp zH 211 0,eM gp zW 212 1,eM gp za1 213 2,eM gp zaD 214 3,eM gp zao 216 4,eM gp zan 217 5]
theorem zi8 (b:Bool) (k:ByteArray) (W:World):(Instr.checkKey b 10000 9 (.string k)).run Tryz.prog W= .ok () W:=by
 show (Instr.checkKey b (9999+1) 9 (.string k)).run Tryz.prog W= .ok () W
 rw[Instr.checkKey]
 simp[run_underlying Tryz.underlying9]
theorem zi9 {k:ByteArray} {h:List MapEntry} {r:Option (Nat×Value)} (q:Instr.findNow .string (.string k) h 0=some r) (W:World):(Instr.findKey 9 (.string k) h).run Tryz.prog W= .ok r W:=by
 simp[Instr.findKey,run_underlying Tryz.underlying9,q]
theorem zdc {W w0:World} {B g c:Nat} {q:Array MapEntry} {k:ByteArray} {v:Value} (w:W.heap[g]? =some (.map q c)) (A:Instr.findNow .string (.string k) q.toList 0=some none) (h:Below B w0 W) (hB:B≤g):
  ∃z,(Instr.mapUpdate 224 (.map (some g)) (.string k) v).run Tryz.prog W= .ok () z∧z.heap[g]? =some (.map (q.push ⟨.string k,v,c⟩) (c+1))∧Below B w0 z:=by
 refine⟨setBlock W g (.map (q.push ⟨.string k,v,c⟩) (c+1)),?_,heap_setBlock_same w _,⟨h.os,h.tape,h.output,by simpa [setBlock] using h.size,fun i D=>(heap_setBlock_other w _ (by omega)).trans (h.block i D)⟩⟩
 simp[Instr.mapUpdate,run_underlying Tryz.underlying224,MapKept.run_getObj_map w,zi8,zi9 A,MapKept.run_setObj_map _ w,Result.andThen,setBlock]
theorem zdd {W:World} {g c i:Nat} {h:Array MapEntry} {k:ByteArray} {v:Value} (q:W.heap[g]? =some (.map h c)) (w:Instr.findNow .string (.string k) h.toList 0=some (some (i,v))):
  (Instr.lookup 224 (.map (some g)) (.string k) true).run Tryz.prog W= .ok (.tuple #[v,.bool true]) W:=by
 simp[Instr.lookup,run_underlying Tryz.underlying224,MapKept.run_getObj_map q,zi8,zi9 w,Result.andThen]
theorem zms {W:World} {g c:Nat} {q:Array MapEntry} {k:ByteArray} (w:W.heap[g]? =some (.map q c)) (z:Instr.findNow .string (.string k) q.toList 0=some none):
  ∃v,(Instr.lookup 224 (.map (some g)) (.string k) true).run Tryz.prog W= .ok (.tuple #[v,.bool false]) W:=by
 have h: ∃v,(zeroValue 1).run Tryz.prog W= .ok v W:=⟨.nilFunc,by kernel_rfl⟩
 obtain⟨v,h⟩:=h
 exact⟨v,by simp[Instr.lookup,run_underlying Tryz.underlying224,MapKept.run_getObj_map w,zi8,zi9 z,Result.andThen,h]⟩
theorem zur (C:Cx) (gt z base A:Nat) (S:Sv) (q:PS) (w:World) (h:IM C gt z base A S q w) (hs:C.scr=true):
  Calls Tryz.prog 194 #[.pointer (some ⟨A,0,none⟩)] w fun e I=>e= .returned (.map (some w.heap.size))∧I.heap[w.heap.size]? =some (.map (esS A) 5)∧Below w.heap.size w I:=by
 have HH:=zc h
 have X:=@run_makeMap Tryz.prog
 have Y: ∀(O:Fn) (first z:Array Value) (w:World),(Instr.makeFunc O first z).run Tryz.prog w= .ok (.func O first z) w:=fun _ _ _ _=>rfl
 obtain⟨W1,r1,N,E⟩:=zdc (k:=zH) (v:=.func (.func 211) #[.pointer (some ⟨A,0,none⟩)] #[]) (heap_alloc_new w (.map #[] 0)) rfl ((Below.refl w.heap.size w).alloc (Nat.le_refl _) _) (Nat.le_refl _)
 obtain⟨W2,r2,L,U⟩:=zdc (k:=zW) (v:=.func (.func 212) #[.pointer (some ⟨A,0,none⟩)] #[]) N rfl E (Nat.le_refl _)
 obtain⟨W3,r3,J,K⟩:=zdc (k:=za1) (v:=.func (.func 213) #[.pointer (some ⟨A,0,none⟩)] #[]) L rfl U (Nat.le_refl _)
 obtain⟨W4,r4,M,D⟩:=zdc (k:=zaD) (v:=.func (.func 214) #[.pointer (some ⟨A,0,none⟩)] #[]) J rfl K (Nat.le_refl _)
 obtain⟨W5,r5,V,H⟩:=zdc (k:=zbZ) (v:=.func (.func 215) #[.pointer (some ⟨A,0,none⟩)] #[]) M rfl D (Nat.le_refl _)
 have G:=zc V
 have B:=zc H
 obtain⟨_,_,_,Z,_,_,_,_,_,_,cf⟩:=zai (HH.out.later D).cells
 rw[hs] at Z
 clear h N E L U J K M D V H
 go_enter Tryz.func194,Tryz.ntmps194
 go_wp2
 go_ret
 exact⟨rfl,G.out,B.out⟩
theorem zus (h:Nat):Instr.findNow .string (.string zH) (esS h).toList 0=some (some (0,.func (.func 211) #[.pointer (some ⟨h,0,none⟩)] #[])):=by rfl
theorem zut (h:Nat):Instr.findNow .string (.string zW) (esS h).toList 0=some (some (1,.func (.func 212) #[.pointer (some ⟨h,0,none⟩)] #[])):=by rfl
theorem zuu (h:Nat):Instr.findNow .string (.string za1) (esS h).toList 0=some (some (2,.func (.func 213) #[.pointer (some ⟨h,0,none⟩)] #[])):=by rfl
theorem zuv (h:Nat):Instr.findNow .string (.string zaD) (esS h).toList 0=some (some (3,.func (.func 214) #[.pointer (some ⟨h,0,none⟩)] #[])):=by rfl
theorem zuw (h:Nat):Instr.findNow .string (.string zbZ) (esS h).toList 0=some (some (4,.func (.func 215) #[.pointer (some ⟨h,0,none⟩)] #[])):=by rfl
theorem zux (h:Nat) (x:ByteArray) (A:(x==zH)=false) (z:(x==zW)=false) (q:(x==za1)=false) (D:(x==zaD)=false) (w:(x==zbZ)=false):Instr.findNow .string (.string x) (esS h).toList 0=some none:=by
 simp[esS,eM,Instr.findNow,Instr.sameNow,A,z,q,D,w]
theorem zuy (C:Cx) (gt A base z:Nat) (S:Sv) (q:PS) (w:World) (h:IM C gt A base z S q w) (hs:C.scr=false):
  Calls Tryz.prog 194 #[.pointer (some ⟨z,0,none⟩)] w fun e J=>e= .returned (.map (some w.heap.size))∧J.heap[w.heap.size]? =some (.map (esM z) 6)∧Below w.heap.size w J:=by
 have HH:=zc h
 have Z:=@run_makeMap Tryz.prog
 have aa: ∀(V:Fn) (first A:Array Value) (w:World),(Instr.makeFunc V first A).run Tryz.prog w= .ok (.func V first A) w:=fun _ _ _ _=>rfl
 obtain⟨W1,r1,U,H⟩:=zdc (k:=zH) (v:=.func (.func 211) #[.pointer (some ⟨z,0,none⟩)] #[]) (heap_alloc_new w (.map #[] 0)) rfl ((Below.refl w.heap.size w).alloc (Nat.le_refl _) _) (Nat.le_refl _)
 obtain⟨W2,r2,N,X⟩:=zdc (k:=zW) (v:=.func (.func 212) #[.pointer (some ⟨z,0,none⟩)] #[]) U rfl H (Nat.le_refl _)
 obtain⟨W3,r3,L,M⟩:=zdc (k:=za1) (v:=.func (.func 213) #[.pointer (some ⟨z,0,none⟩)] #[]) N rfl X (Nat.le_refl _)
 obtain⟨W4,r4,O,D⟩:=zdc (k:=zaD) (v:=.func (.func 214) #[.pointer (some ⟨z,0,none⟩)] #[]) L rfl M (Nat.le_refl _)
 obtain⟨W5,r5,Y,I⟩:=zdc (k:=zao) (v:=.func (.func 216) #[.pointer (some ⟨z,0,none⟩)] #[]) O rfl D (Nat.le_refl _)
 obtain⟨W6,r6,E,K⟩:=zdc (k:=zan) (v:=.func (.func 217) #[.pointer (some ⟨z,0,none⟩)] #[]) Y rfl I (Nat.le_refl _)
 have G:=zc E
 have B:=zc K
 obtain⟨_,_,_,c3,_,_,_,_,_,_,cf⟩:=zai (HH.out.later D).cells
 rw[hs] at c3
 clear h U H N X L M O D Y I E K
 go_enter Tryz.func194,Tryz.ntmps194
 go_wp2
 go_ret
 exact⟨rfl,G.out,B.out⟩
theorem zuz (h:Nat):Instr.findNow .string (.string zH) (esM h).toList 0=some (some (0,.func (.func 211) #[.pointer (some ⟨h,0,none⟩)] #[])):=by rfl
theorem zu0 (h:Nat):Instr.findNow .string (.string zW) (esM h).toList 0=some (some (1,.func (.func 212) #[.pointer (some ⟨h,0,none⟩)] #[])):=by rfl
theorem zu1 (h:Nat):Instr.findNow .string (.string za1) (esM h).toList 0=some (some (2,.func (.func 213) #[.pointer (some ⟨h,0,none⟩)] #[])):=by rfl
theorem zu2 (h:Nat):Instr.findNow .string (.string zaD) (esM h).toList 0=some (some (3,.func (.func 214) #[.pointer (some ⟨h,0,none⟩)] #[])):=by rfl
theorem zu3 (h:Nat):Instr.findNow .string (.string zao) (esM h).toList 0=some (some (4,.func (.func 216) #[.pointer (some ⟨h,0,none⟩)] #[])):=by rfl
theorem zu4 (h:Nat):Instr.findNow .string (.string zan) (esM h).toList 0=some (some (5,.func (.func 217) #[.pointer (some ⟨h,0,none⟩)] #[])):=by rfl
theorem zu5 (h:Nat) (x:ByteArray) (D:(x==zH)=false) (z:(x==zW)=false) (q:(x==za1)=false) (E:(x==zaD)=false) (w:(x==zao)=false) (A:(x==zan)=false):Instr.findNow .string (.string x) (esM h).toList 0=some none:=by
 simp[esM,eM,Instr.findNow,Instr.sameNow,D,z,q,E,w,A]
def zaG (C:Cx) (q:PS):PR:=
 if isT C q.pos 1 zH then letJ C 1 (adv q)
 else if isT C q.pos 1 zW then fnI C (adv q)
 else if isT C q.pos 1 za1 then printI C (adv q)
 else if isT C q.pos 1 zaD then stmtI C 5 sNone cSemi (adv q)
 else if C.scr&&isT C q.pos 1 zbZ then stmtI C 6 sNone cSemi (adv q)
 else if !C.scr&&isT C q.pos 1 zao then zaS C (adv q)
 else if !C.scr&&isT C q.pos 1 zan then zaz C (adv q)
 else letJ C 3 q
theorem zu6 (C:Cx) (k:Int) (n:ByteArray) (q:PS):stmtI C k n cSemi q=bd (bd (bd (pE C .sum 0 q) (zd C 4 cSemi)) (zaa C k n)) .ok:=by
 rw[zeW,zQ,stmtI]
 refine zah fun a _=>?_
 rw[show zaJ C cSemi cSemi.size 0 a=zd C 4 cSemi a from zjU C 59 a]
theorem zfg (C:Cx) (k:Int) (n:ByteArray) (q:PS):bd (bd (pE C .sum 0 q) (zd C 4 cSemi)) (zaa C k n)=stmtI C k n cSemi q:=by rw[zu6,zeW]
theorem zu7 (C:Cx) (k:Int) (n:ByteArray) (q:PS):bd (bd (bd (pE C .sum 0 q) (zd C 4 zaA)) (zd C 4 cSemi)) (zaa C k n)=stmtI C k n cShutSemi q:=by
 rw[zQ,zQ,stmtI]
 refine zah fun a _=>?_
 rw[show zaJ C cShutSemi cShutSemi.size 0 a=bd (zd C 4 zaA a) (zd C 4 cSemi) from zjV C 41 59 a,zQ]
theorem zu8 (C:Cx) (k:Int) (n:ByteArray) (q:PS):bd (bd (bd (pE C .sum 0 q) (zd C 4 cSemi)) (zd C 4 zb5)) (zaa C k n)=stmtI C k n cSemiRight q:=by
 rw[zQ,zQ,stmtI]
 refine zah fun a _=>?_
 rw[show zaJ C cSemiRight cSemiRight.size 0 a=bd (zd C 4 cSemi a) (zd C 4 zb5) from zjV C 59 125 a,zQ]
theorem zmt {C:Cx} {q:PS} (h:isT C q.pos 1 zH=true):zcT C q=bd (letJ C 1 (adv q)) fun a=>.ok (a,(ze C (q.pos+1)).text):=by
 rw[zcT,withN,zck h,zB,letJ,zQ]
 refine zah fun a w=>?_
 rw[zQ,zB,zQ,zQ,zQ]
 refine zah fun b _=>?_
 rw[←zQ,←zQ,zfg,(zb6 w).1]
 rfl
theorem zmu {C:Cx} {q:PS} (h:isT C q.pos 1 zW=true):fnP C q=bd (fnI C (adv q)) fun a=>.ok (a,(ze C (q.pos+1)).text):=by
 rw[fnP,withN,zck h,zB,fnI,zQ]
 refine zah fun a w=>?_
 rw[show zaJ C cCall cCall.size 0 a.1=bd (zd C 4 zp a.1) fun a=>bd (zd C 4 zaA a) (zd C 4 zO) from zoG C 40 41 123 a.1,zQ,zQ,zB]
 rw[(zb6 w).1]
 simp only[zQ,←zu8]
 rfl
theorem zmv (x:PR) (n:ByteArray):zaV (bd x fun a=>.ok (a,n))=x:=by rw[zaV,zQ];exact zeW x
theorem ziA (C:Cx) (l:List Ep) (q:PS):impFromI C l q=bd (zbl C (zaN C (.ok q))) fun b=>zab (fun e=>zap C (zcj b.2 e)) l (.ok b.1):=by
 rw[impFromI,zbl,zaN,zB,zQ,zQ]
 refine zah fun a _=>zah fun b _=>?_
 rw[zQ]
 rfl
theorem zu9 {C:Cx} {q:PS} (h:isT C q.pos 1 zao=true):zbe C q=zaS C (adv q):=by
 rw[zbe,zck h,zB,zaS]
 cases E:isT C (adv q).pos 4 zO with
 |true=>
  have w:((ze C (adv q).pos).kind==3)=false:=by
   have:=zg3 E
   rw[beq_iff_eq] at this
   rw[this]
   rfl
  rw[w]
  simp only[Bool.false_eq_true,↓reduceIte]
  rw[zdm,zck E,zB]
  refine zah fun a _=>?_
  rw[ziA]
 |false=>
  cases D:isT C (adv q).pos 4 zz with
  |true=>
   have w:((ze C (adv q).pos).kind==3)=false:=by
    have:=zg3 D
    rw[beq_iff_eq] at this
    rw[this]
    rfl
   rw[w]
   simp only[Bool.false_eq_true,↓reduceIte]
   rw[zck D,zB,zQ]
   refine zah fun a _=>zah fun b _=>?_
   rw[ziA]
   rfl
  |false=>
   cases A:zJ C (adv q).pos false with
   |true=>
    have w:((ze C (adv q).pos).kind==3)=false:=by
     have z:=A
     simp only[zJ,Bool.and_eq_true,beq_iff_eq] at z
     rw[z.1]
     rfl
    rw[w]
    simp only[Bool.false_eq_true,↓reduceIte]
    refine zah fun a _=>?_
    rw[ziA]
    rfl
   |false=>
    cases w:((ze C (adv q).pos).kind==3) with
    |true=>simp only[Bool.false_eq_true,↓reduceIte]
    |false=>
     simp only[Bool.false_eq_true,↓reduceIte]
     rw[zM,w,zm,A]
     rfl
theorem zuA (C:Cx) (l:List Ep) (q:PS) (h:isT C q.pos 1 zX=false) (w:zaI l=false):zaF C l q=bd (zd C 4 cSemi q) fun q=>zab (fun e=>zq C (zF e)) l (.ok q):=by rw[zaF,h,w];rfl
theorem zmw (C:Cx) (l:List Ep) (q:PS) (h:(isT C q.pos 1 zX||zaI l)=true):zaF C l q=bd (zbl C (zaN C (.ok q))) fun b=>zab (fun e=>zq C (zax b.2 e)) l (.ok b.1):=by
 rw[zaF,h,if_pos rfl,zbl,zaN,zB,zQ,zQ]
 refine zah fun a _=>zah fun b _=>?_
 rw[zQ]
 rfl
theorem zuB {C:Cx} {q:PS} (h:isT C q.pos 1 zan=true):zaq C q=zaz C (adv q):=by
 rw[zaq,zck h,zB,zaz]
 cases E:isT C (adv q).pos 4 zO with
 |true=>
  simp only[↓reduceIte]
  rw[zdm,zck E,zB]
  refine zah fun a _=>?_
  cases z:isT C a.1.pos 1 zX with
  |true=>rw[zmw C a.2 a.1 (by rw[z];rfl),if_neg (by simp)]
  |false=>
   cases w:zaI a.2 with
   |true=>rw[zmw C a.2 a.1 (by rw[w];simp),if_neg (by simp)]
   |false=>rw[zuA C a.2 a.1 z w,if_pos (by simp)]
 |false=>
  cases A:isT C (adv q).pos 4 zz with
  |true=>
   simp only[Bool.false_eq_true,↓reduceIte]
   rw[zck A,zbl,zaN,zB,zQ,zQ]
   refine zah fun a _=>zah fun b _=>?_
   rw[zQ]
   rfl
  |false=>
   cases I:isT C (adv q).pos 1 sDefault with
   |true=>
    simp only[Bool.false_eq_true,↓reduceIte]
    rw[zck I,zB,zfg]
   |false=>
    cases D:isT C (adv q).pos 1 zH with
    |true=>
     simp only[Bool.false_eq_true,↓reduceIte]
     rw[zmt D,zQ]
     rfl
    |false=>
     cases H:isT C (adv q).pos 1 zW with
     |true=>
      simp only[Bool.false_eq_true,↓reduceIte]
      rw[zmu H,zQ]
      rfl
     |false=>simp only[Bool.false_eq_true,↓reduceIte]
theorem zee {C:Cx} {i:Nat} {x y:ByteArray} (h:isT C i 1 x=true) (q:(x.toList==y.toList)=false):isT C i 1 y=false:=by
 have e:=zhL h
 rw[isT,e,q]
 simp
theorem zmx (C:Cx) (q:PS):zaG C q=zC C q:=by
 rw[zaG,zC]
 cases z:isT C q.pos 1 zH with
 |true=>
  rw[zee z (y:=zao) (by simp),zee z (y:=zan) (by simp)]
  simp only[Bool.false_eq_true,↓reduceIte,Bool.and_false]
  rw[zmt z,zmv]
 |false=>
  cases h:isT C q.pos 1 zW with
  |true=>
   rw[zee h (y:=zao) (by simp),zee h (y:=zan) (by simp)]
   simp only[Bool.false_eq_true,↓reduceIte,Bool.and_false]
   rw[zmu h,zmv]
  |false=>
   cases A:isT C q.pos 1 za1 with
   |true=>
    rw[zee A (y:=zao) (by simp),zee A (y:=zan) (by simp)]
    simp only[Bool.false_eq_true,↓reduceIte,Bool.and_false]
    rw[zck A,zB,printI,zQ,zQ,zQ]
    refine zah fun a _=>?_
    rw[←zu7,zQ,zQ]
   |false=>
    cases w:isT C q.pos 1 zaD with
    |true=>
     rw[zee w (y:=zao) (by simp),zee w (y:=zan) (by simp)]
     simp only[Bool.false_eq_true,↓reduceIte,Bool.and_false]
     rw[zck w,zB,zfg]
    |false=>
     cases I:C.scr with
     |true=>
      cases H:isT C q.pos 1 zbZ with
      |true=>
       simp only[Bool.false_eq_true,↓reduceIte,Bool.not_true,Bool.false_and,Bool.and_self]
       rw[zck H,zB,zfg]
      |false=>
       simp only[Bool.false_eq_true,↓reduceIte,Bool.not_true,Bool.false_and,Bool.and_false]
       rw[letJ]
       refine zah fun a _=>?_
       rw[zQ,zQ]
       refine zah fun b _=>?_
       rw[←zQ,zfg]
     |false=>
      cases D:isT C q.pos 1 zao with
      |true=>
       simp only[Bool.false_eq_true,↓reduceIte,Bool.not_false,Bool.false_and,Bool.and_self]
       rw[zu9 D]
      |false=>
       cases E:isT C q.pos 1 zan with
       |true=>
        simp only[Bool.false_eq_true,↓reduceIte,Bool.not_false,Bool.false_and,Bool.and_self,Bool.and_false]
        rw[zuB E]
       |false=>
        simp only[Bool.false_eq_true,↓reduceIte,Bool.not_false,Bool.false_and,Bool.and_false]
        rw[letJ]
        refine zah fun a _=>?_
        rw[zQ,zQ]
        refine zah fun b _=>?_
        rw[←zQ,zfg]
theorem zmy {P:Program} {O:Array Oper} {o:Oper} {a:Act} {W:World} {K:Act→World→Prop} {Q:Exit→Act→World→Prop} {E:Prop} (Y:o.guard=none) (s x:Operand) (t:TypeId)
  (ho:o.op= .call {callee:=.builtin .append,args:=#[s,x],argTypes:=#[t,t]})
  (base:Nat) (e:TypeId) (i:TypeInfo) (z:Value) (size q:Nat) (ht:P.underlying t=some (.slice e)) (hi:P.info? e=some i) (hz:i.zero=some z) (D:i.size=size) (ab:i.bytes=q) (ac:z.cells.size=size) (aa:0<size) (N:q≤100)
  (r:Rw) (n:Nat) (xs:List Value) (hs:a.eval s= .slice r.a n r.cap) (L:OwnR W base e size r n xs)
  (U m c I:Nat) (w:List Value) (hx:a.eval x= .slice (some ⟨U,0,none⟩) m c) (hg:OwnR W I e size ⟨some ⟨U,0,none⟩,c⟩ m w) (h1: ∀u∈w,u.oneCell'=true) (hn:n+m≤4000000) (H:base≤W.heap.size)
  (h: ∀M J,OwnR J base e size M (n+m) (xs++w)→W.grownBy J r.blk→(M.blk=r.blk∨M.blk=some W.heap.size)→K (a.put o.dst (.slice M.a (n+m:Nat) M.cap)) J):
  if Region.wanted o (yielded O a.tmps)=true then Oper.wp P o a W K Q else E:=by
 have hw:Region.wanted o (yielded O a.tmps)=true:=by simp[Region.wanted,Y]
 rw[if_pos hw]
 obtain⟨v',J,hr,X,h3,_,h5⟩:=run_append_own_at (P:=P) W base t o.type e i z size q ht hi hz D ab ac aa _ n xs L ⟨U,0,none⟩ m c w hg.1 (by
  intro j u hj
  have e1:(⟨U,0,none⟩:Addr).add j=⟨U,j,none⟩:=by simp[Addr.add];exact fun h=>h.symm
  have Z:j<w.length:=(List.getElem?_eq_some_iff.1 hj).1
  rw[e1,World.ownsRow.cellAt hg j (by rw[←hg.1];exact Z)]
  exact hj) h1 (by unfold maxLen;omega) (by have:(n+m)*q≤4000000*100:=Nat.mul_le_mul hn N;omega) H
 unfold Oper.wp execOp
 simp only[ho,resolve,invoke,builtin,Sem.run_bind,Sem.run_pure,Result.andThen_ok,List.map_toArray,List.map_cons,List.map_nil,hs,hx,hr]
 rcases X.2 with ⟨hv,V⟩|⟨g',A,ae,rfl,ad⟩
 ·subst hv
  have:=h ⟨none,0⟩ J (by rw[V] at X ⊢;exact X) (by rw[←zb9 r n];exact h3) (by rw[←zb9 r n];exact h5)
  rw[V] at this
  exact this
 ·refine h ⟨some ⟨g',0,none⟩,A⟩ J X ?_ ?_
  ·rw[←zb9 r n];exact h3
  ·rw[←zb9 r n,←zb9 ⟨some ⟨g',0,none⟩,A⟩ (n+m)];exact h5
theorem zmz {P:Program} {w:Array Oper} {o:Oper} {a:Act} {W:World} {K:Act→World→Prop} {Q:Exit→Act→World→Prop} {E:Prop} (z:o.guard=none) (s x:Operand) (t:TypeId)
  (L:o.op= .call {callee:=.builtin .append,args:=#[s,x],argTypes:=#[t,t]})
  (e:TypeId) (i:TypeInfo) (D:P.underlying t=some (.slice e)) (H:P.info? e=some i) (base size n:Nat)
  (r:Rw) (xs:List Value) (O:a.eval s= .slice r.a n r.cap) (q:OwnR W base e size r n xs) (U:a.eval x= .slice none 0 0)
  (h:K (a.put o.dst (.slice r.a n r.cap)) W):if Region.wanted o (yielded w a.tmps)=true then Oper.wp P o a W K Q else E:=by
 have J:Region.wanted o (yielded w a.tmps)=true:=by simp[Region.wanted,z]
 rw[if_pos J]
 have M:(Builtin.append_ #[t,t] o.type #[.slice r.a n r.cap,.slice none 0 0]).run P W= .ok (.slice r.a n r.cap) W:=by
  rcases q.2 with ⟨A,_⟩|⟨g,N,I,A,_,_,V,_⟩
  ·rw[A]
   simp[Builtin.append_,run_underlying D,sizeOf,typeInfo,H,Builtin.lenOf,Builtin.firstCells]
  ·rw[A]
   simp[Builtin.append_,run_underlying D,sizeOf,typeInfo,H,Builtin.lenOf,Builtin.firstCells,loadCells,V,storeCells]
 unfold Oper.wp execOp
 simp only[L,resolve,invoke,builtin,Sem.run_bind,Sem.run_pure,Result.andThen_ok,List.map_toArray,List.map_cons,List.map_nil,O,U,M]
 exact h
theorem Mem.wholeI {C:Cx} {Z K base b:Nat} {S:Sv} {q:PS} {W I M:World} {E:Rw} (A:Mem C Z K base S q W) (U:W.grownBy I S.ep.blk) (X:OwnR I base 97 4 E (q.ep.length+q.la.length) (q.ep.flatMap epL++q.la.flatMap epL)) (J:E.blk=S.ep.blk∨E.blk=some W.heap.size) (hb:b<W.heap.size) (w: ¬S.has b)
  (O: ∀k,k≠b→M.heap[k]? =I.heap[k]?):OwnMod M base {S with ep:=E} q:=by
 have D:(q.ep++q.la).length=q.ep.length+q.la.length:=by simp
 have H: ∀(r:Rw) (e:TypeId) (z n:Nat) (N:List Value),OwnR W base e z r n N→e≠97→(∀k,r.blk=some k→S.has k)→OwnR M base e z r n N:=fun r e z n N h he Y=>
  h.keep fun k g=>(O k (fun L=>w (by rw[←L];exact Y k g))).trans (U.block k (h.typed g).2.1 fun V=>(h.ne A.own.ep he g) V.symm)
 refine⟨H _ _ _ _ _ A.own.rq (by decide) fun k g=>.inl g,H _ _ _ _ _ A.own.im (by decide) fun k g=>.inr (.inl g),?_,H _ _ _ _ _ A.own.st (by decide) fun k g=>.inr (.inr (.inr (.inl g))),H _ _ _ _ _ A.own.ex (by decide) fun k g=>.inr (.inr (.inr (.inr (.inl g)))),A.inv.rq,A.inv.im,A.inv.ep,A.inv.st,A.inv.ex⟩
 rw[D,List.flatMap_append]
 refine X.keep fun k g=>O k ?_
 rcases J with e|e
 ·intro L
  exact w (by rw[←L];exact .inr (.inr (.inl (by rw[←e];exact g))))
 ·have:W.heap.size=k:=Option.some.inj (e.symm.trans g)
  omega
theorem Mem.wholeI0 {C:Cx} {M E base b:Nat} {S:Sv} {q:PS} {W I:World} (z:Mem C M E base S q W) (J:q.la=[]) (A: ¬S.has b)
  (N: ∀k,k≠b→I.heap[k]? =W.heap[k]?):OwnMod I base S q:=by
 have D: ∀(r:Rw) (e:TypeId) (w n:Nat) (H:List Value),OwnR W base e w r n H→(∀k,r.blk=some k→S.has k)→OwnR I base e w r n H:=fun r e w n H h L=>
  h.keep fun k g=>N k (fun K=>A (by rw[←K];exact L k g))
 refine⟨D _ _ _ _ _ z.own.rq fun k g=>.inl g,D _ _ _ _ _ z.own.im fun k g=>.inr (.inl g),?_,D _ _ _ _ _ z.own.st fun k g=>.inr (.inr (.inr (.inl g))),D _ _ _ _ _ z.own.ex fun k g=>.inr (.inr (.inr (.inr (.inl g)))),z.inv.rq,z.inv.im,z.inv.ep,z.inv.st,z.inv.ex⟩
 rw[J,List.append_nil]
 exact D _ _ _ _ _ z.own.ep fun k g=>.inr (.inr (.inl g))
theorem zde {C:Cx} {i:Nat} {k:ByteArray} (h:isT C i 1 k=true):zcJ C i=k:=by
 rw[zcJ,zg3 h,zhL h]
 rfl
theorem zdf {C:Cx} {i:Nat} {k:ByteArray} (h:isT C i 1 k=false) (w:sNone≠k):(zcJ C i==k)=false:=by
 rw[Bool.eq_false_iff]
 intro e
 rw[MapKept.bytes_beq] at e
 cases q:((ze C i).kind==1) with
 |false=>
  rw[zcJ,q] at e
  exact w e
 |true=>
  rw[zcJ,q,if_pos rfl] at e
  rw[isT,q,e] at h
  simp at h
theorem zbE {C:Cx} {I z base A g c:Nat} {S H:Sv} {q:PS} {W D:World} {E:Array MapEntry} (h:IM C I z base A S q W) (w:W.heap[g]? =some (.map E c)) (s:IS A S W H D):D.heap[g]? =some (.map E c):=by
 refine (s.block g (Array.getElem?_eq_some_iff.1 w).1 (fun k=>?_) (fun e=>?_)).trans w
 ·rcases k with k|k|k|k|k|k
  ·obtain⟨_,_,c,e⟩:=h.mem.own.rq.typed k
   rw[w] at e;cases e
  ·obtain⟨_,_,c,e⟩:=h.mem.own.im.typed k
   rw[w] at e;cases e
  ·obtain⟨_,_,c,e⟩:=h.mem.own.ep.typed k
   rw[w] at e;cases e
  ·obtain⟨_,_,c,e⟩:=h.mem.own.st.typed k
   rw[w] at e;cases e
  ·obtain⟨_,_,c,e⟩:=h.mem.own.ex.typed k
   rw[w] at e;cases e
  ·obtain⟨_,_,c,e⟩:=h.mem.own.la.typed k
   rw[w] at e;cases e
 ·have:=h.cells
  rw[←e,w] at this
  cases this
theorem zcC {C:Cx} {q:PS} {y:PR} (h:q.pos<C.ts.length) (w:zaG C q=y):za2 C q=bd y (za2 C):=by rw[zgr,if_pos h,←zmx,w]
theorem zm0 {C:Cx} {q:PS} (h: ¬q.pos<C.ts.length):za2 C q= .ok q:=by rw[zgr,if_neg h]
theorem zcD {C:Cx} {q a:PS} {y:PR} (w:zaG C q=y) (h:y= .ok a):q.pos<a.pos:=zgq (by rw[←zmx,w,h])
def ziB (base gp:Nat) (y:PR) (w:World) (e:Ending) (w':World):Prop:=
 match y with
 | .ok q=>e= .returned (.tuple #[])∧∃S,OwnMod w' base S q∧(∃v0 v1 v2 v3 v9,w'.heap[gp]? =some (.cells #[v0,v1,v2,v3,.slice S.rq.a q.rq.length S.rq.cap,.slice S.im.a q.im.length S.im.cap,.slice S.ep.a (q.ep++q.la).length S.ep.cap,.slice S.st.a q.st.length S.st.cap,.slice S.ex.a q.ex.length S.ex.cap,v9] 211 (0,0)))∧Below base w w'
 | .error p=>e=Pan p∧Below base w w'
theorem zuC (C:Cx) (gt I base A:Nat) (S:Sv) (q:PS) (w:World) (h:IM C gt I base A S q w) (hs:C.scr=true):
  Calls Tryz.prog 169 #[.pointer (some ⟨A,0,none⟩)] w (ziB base A (za2 C q) w):=by
 obtain⟨i0,hi,aA,aG,aE⟩:=info_parts Tryz.infoExp
 go_enter Tryz.func169,Tryz.ntmps169
 go_wp2_with fail
 refine (zur C gt I base A S q _ h hs).mono ?_
 rintro e w1 ⟨rfl,hg,Z⟩
 have aH:=h.later Z
 have az:IS A S w S w1:=IS.below Z
 have aI:=zc hg
 clear hg Z
 go_wp2
 go_loopg [] (C.ts.length+1) (fun k wr=>∃(L:Sv) (z:PS),za2 C q=za2 C z∧C.ts.length-z.pos<k∧IM C gt I base A L z wr∧IS A S w L wr∧wr.heap[w.heap.size]? =some (.map (esS A) 5))
 case atStart=>exact⟨S,q,rfl,by omega,aH,az,aI.out⟩
 case round=>
  obtain⟨L,z,hy,hk,m',s',g'⟩:=hrel
  have ad:=zc hy
  have an:=m'
  have aw:=s'
  have ar:Hid (wr.heap[w.heap.size]? =some (.map (esS A) 5)):=g'
  obtain⟨c0,c1,_,_,_,_,_,_,_,_,_⟩:=zai m'.cells
  have C0:=zc c0
  have C1:=zc c1
  have aK:=m'.mem.inv.pos
  have aJ:=m'.mem.few
  clear hy m' s' g' c0 c1
  have k0:=cell_regrown C0.out
  have k1:=cell_regrown C1.out
  by_cases hp:z.pos<C.ts.length
  ·have aC:((z.pos:Int)<(C.ts.length:Int)):=by omega
   go_wp2_with fail
   refine wp_region_quiet_below (by kernel_rfl) (by kernel_rfl) ?_
   repeat (go_big_quiet_step (fail))
   refine wpQuiet_nil ?_
   intro w2 ap
   obtain⟨⟨dq,aD⟩,ab⟩:=ap
   have af:Below wr.heap.size wr w2:=by show Below _ _ _;rw[ab];exact below_regrown _ _ _
   clear ab k0 k1 C0 C1
   have H:Hid (IM C gt I base A L z w2):=an.later af
   have am:=aw.trans (IS.below af)
   have ao:Hid (w2.heap[w.heap.size]? =some (.map (esS A) 5)):=zbE an ar.out (IS.below af)
   go_wp2_with fail
   refine (zkd C gt I base A L z _ H.out).mono ?_
   rintro e w3 ⟨rfl,Z⟩
   have ac:Hid (IM C gt I base A L z w3):=H.out.later Z
   have ae:=am.trans (IS.below Z)
   have M:Hid (w3.heap[w.heap.size]? =some (.map (esS A) 5)):=zbE H.out ao.out (IS.below Z)
   clear Z
   have ai:w.heap.size≠A:=by have:=h.lt;omega
   obtain⟨c0,c1,c2,c3,c4,c5,c6,c7,c8,c9,cf⟩:=zai ac.out.cells
   cases t0:isT C z.pos 1 zH with
   |true=>
    have D:zaG C z=letJ C 1 (adv z):=by rw[zaG,t0];rfl
    have HZ:=zc (ad.out.trans (zcC hp D))
    have V:=zc D
    clear D
    rw[zde t0]
    have aj:=zdd M.out (zus A)
    go_wp2_with fail
    have K:=ac.out.adv hp
    have J:IS A S w L (w3.setCell ⟨A,1,none⟩ (.int .i64 ((z.pos:Int)+1))):=ae.set _ _
    have aa:Hid ((w3.setCell ⟨A,1,none⟩ (.int .i64 ((z.pos:Int)+1))).heap[w.heap.size]? =some (.map (esS A) 5)):=(zx ai).trans M.out
    refine (zhN C gt I base A L (adv z) _ K).mono ?_
    cases E:letJ C 1 (adv z) with
    |error p=>
     rintro e w5 ⟨rfl,Z⟩
     have HB:=(h.back J).trans Z
     have HX:Hid (za2 C q= .error p):=bdE HZ.out E
     unfold Pan
     go_wp2
     refine⟨rfl,?_⟩
     rw[HX.out]
     exact⟨rfl,HB⟩
    |ok a5=>
     rintro e w5 ⟨rfl,S5,O,s⟩
     have N:Hid (w5.heap[w.heap.size]? =some (.map (esS A) 5)):=zbE K aa.out s
     have X:=J.trans s
     clear s
     have U:=zc (bdO HZ.out E)
     have Y:=zc (zcD V.out E)
     go_wp2
     go_roundg (gk-1)
     case rel=>exact⟨S5,a5,U.out,by have:=Y.out;omega,O,X,N.out⟩
     case measure=>omega
   |false=>
    cases t1:isT C z.pos 1 zW with
    |true=>
     have D:zaG C z=fnI C (adv z):=by rw[zaG,t0,t1];simp only[Bool.false_eq_true,↓reduceIte]
     have HZ:=zc (ad.out.trans (zcC hp D))
     have V:=zc D
     clear D
     rw[zde t1]
     have aj:=zdd M.out (zut A)
     go_wp2_with fail
     have K:=ac.out.adv hp
     have J:IS A S w L (w3.setCell ⟨A,1,none⟩ (.int .i64 ((z.pos:Int)+1))):=ae.set _ _
     have aa:Hid ((w3.setCell ⟨A,1,none⟩ (.int .i64 ((z.pos:Int)+1))).heap[w.heap.size]? =some (.map (esS A) 5)):=(zx ai).trans M.out
     refine (zhO C gt I base A L (adv z) _ K).mono ?_
     cases E:fnI C (adv z) with
     |error p=>
      rintro e w5 ⟨rfl,Z⟩
      have HB:=(h.back J).trans Z
      have HX:Hid (za2 C q= .error p):=bdE HZ.out E
      unfold Pan
      go_wp2
      refine⟨rfl,?_⟩
      rw[HX.out]
      exact⟨rfl,HB⟩
     |ok a5=>
      rintro e w5 ⟨rfl,S5,O,s⟩
      have N:Hid (w5.heap[w.heap.size]? =some (.map (esS A) 5)):=zbE K aa.out s
      have X:=J.trans s
      clear s
      have U:=zc (bdO HZ.out E)
      have Y:=zc (zcD V.out E)
      go_wp2
      go_roundg (gk-1)
      case rel=>exact⟨S5,a5,U.out,by have:=Y.out;omega,O,X,N.out⟩
      case measure=>omega
    |false=>
     cases t2:isT C z.pos 1 za1 with
     |true=>
      have D:zaG C z=printI C (adv z):=by rw[zaG,t0,t1,t2];simp only[Bool.false_eq_true,↓reduceIte]
      have HZ:=zc (ad.out.trans (zcC hp D))
      have V:=zc D
      clear D
      rw[zde t2]
      have aj:=zdd M.out (zuu A)
      go_wp2_with fail
      have K:=ac.out.adv hp
      have J:IS A S w L (w3.setCell ⟨A,1,none⟩ (.int .i64 ((z.pos:Int)+1))):=ae.set _ _
      have aa:Hid ((w3.setCell ⟨A,1,none⟩ (.int .i64 ((z.pos:Int)+1))).heap[w.heap.size]? =some (.map (esS A) 5)):=(zx ai).trans M.out
      refine (zkb C gt I base A L (adv z) _ K).mono ?_
      cases E:printI C (adv z) with
      |error p=>
       rintro e w5 ⟨rfl,Z⟩
       have HB:=(h.back J).trans Z
       have HX:Hid (za2 C q= .error p):=bdE HZ.out E
       unfold Pan
       go_wp2
       refine⟨rfl,?_⟩
       rw[HX.out]
       exact⟨rfl,HB⟩
      |ok a5=>
       rintro e w5 ⟨rfl,S5,O,s⟩
       have N:Hid (w5.heap[w.heap.size]? =some (.map (esS A) 5)):=zbE K aa.out s
       have X:=J.trans s
       clear s
       have U:=zc (bdO HZ.out E)
       have Y:=zc (zcD V.out E)
       go_wp2
       go_roundg (gk-1)
       case rel=>exact⟨S5,a5,U.out,by have:=Y.out;omega,O,X,N.out⟩
       case measure=>omega
     |false=>
      cases t3:isT C z.pos 1 zaD with
      |true=>
       have D:zaG C z=stmtI C 5 sNone cSemi (adv z):=by rw[zaG,t0,t1,t2,t3];simp only[Bool.false_eq_true,↓reduceIte]
       have HZ:=zc (ad.out.trans (zcC hp D))
       have V:=zc D
       clear D
       rw[zde t3]
       have aj:=zdd M.out (zuv A)
       go_wp2_with fail
       have K:=ac.out.adv hp
       have J:IS A S w L (w3.setCell ⟨A,1,none⟩ (.int .i64 ((z.pos:Int)+1))):=ae.set _ _
       have aa:Hid ((w3.setCell ⟨A,1,none⟩ (.int .i64 ((z.pos:Int)+1))).heap[w.heap.size]? =some (.map (esS A) 5)):=(zx ai).trans M.out
       refine (zkc C gt I base A L (adv z) _ K).mono ?_
       cases E:stmtI C 5 sNone cSemi (adv z) with
       |error p=>
        rintro e w5 ⟨rfl,Z⟩
        have HB:=(h.back J).trans Z
        have HX:Hid (za2 C q= .error p):=bdE HZ.out E
        unfold Pan
        go_wp2
        refine⟨rfl,?_⟩
        rw[HX.out]
        exact⟨rfl,HB⟩
       |ok a5=>
        rintro e w5 ⟨rfl,S5,O,s⟩
        have N:Hid (w5.heap[w.heap.size]? =some (.map (esS A) 5)):=zbE K aa.out s
        have X:=J.trans s
        clear s
        have U:=zc (bdO HZ.out E)
        have Y:=zc (zcD V.out E)
        go_wp2
        go_roundg (gk-1)
        case rel=>exact⟨S5,a5,U.out,by have:=Y.out;omega,O,X,N.out⟩
        case measure=>omega
      |false=>
       cases t4:isT C z.pos 1 zbZ with
       |true=>
        have D:zaG C z=stmtI C 6 sNone cSemi (adv z):=by rw[zaG,t0,t1,t2,t3,t4,hs];simp only[Bool.false_eq_true,↓reduceIte,Bool.and_self]
        have HZ:=zc (ad.out.trans (zcC hp D))
        have V:=zc D
        clear D
        rw[zde t4]
        have aj:=zdd M.out (zuw A)
        go_wp2_with fail
        have K:=ac.out.adv hp
        have J:IS A S w L (w3.setCell ⟨A,1,none⟩ (.int .i64 ((z.pos:Int)+1))):=ae.set _ _
        have aa:Hid ((w3.setCell ⟨A,1,none⟩ (.int .i64 ((z.pos:Int)+1))).heap[w.heap.size]? =some (.map (esS A) 5)):=(zx ai).trans M.out
        refine (zpd C gt I base A L (adv z) _ K).mono ?_
        cases E:stmtI C 6 sNone cSemi (adv z) with
        |error p=>
         rintro e w5 ⟨rfl,Z⟩
         have HB:=(h.back J).trans Z
         have HX:Hid (za2 C q= .error p):=bdE HZ.out E
         unfold Pan
         go_wp2
         refine⟨rfl,?_⟩
         rw[HX.out]
         exact⟨rfl,HB⟩
        |ok a5=>
         rintro e w5 ⟨rfl,S5,O,s⟩
         have N:Hid (w5.heap[w.heap.size]? =some (.map (esS A) 5)):=zbE K aa.out s
         have X:=J.trans s
         clear s
         have U:=zc (bdO HZ.out E)
         have Y:=zc (zcD V.out E)
         go_wp2
         go_roundg (gk-1)
         case rel=>exact⟨S5,a5,U.out,by have:=Y.out;omega,O,X,N.out⟩
         case measure=>omega
       |false=>
        have D:zaG C z=letJ C 3 z:=by rw[zaG,t0,t1,t2,t3,t4,hs];simp only[Bool.false_eq_true,↓reduceIte,Bool.and_false,Bool.not_true,Bool.false_and]
        have HZ:=zc (ad.out.trans (zcC hp D))
        have V:=zc D
        clear D
        obtain⟨vz,aj⟩:=zms M.out (zux A (zcJ C z.pos) (zdf t0 (by decide)) (zdf t1 (by decide)) (zdf t2 (by decide)) (zdf t3 (by decide)) (zdf t4 (by decide)))
        go_wp2_with fail
        refine (zka C gt I base A L z _ ac.out).mono ?_
        cases E:letJ C 3 z with
        |error p=>
         rintro e w5 ⟨rfl,Z⟩
         have HB:=(h.back ae).trans Z
         have HX:Hid (za2 C q= .error p):=bdE HZ.out E
         unfold Pan
         go_wp2
         refine⟨rfl,?_⟩
         rw[HX.out]
         exact⟨rfl,HB⟩
        |ok a5=>
         rintro e w5 ⟨rfl,S5,O,s⟩
         have N:Hid (w5.heap[w.heap.size]? =some (.map (esS A) 5)):=zbE ac.out M.out s
         have X:=ae.trans s
         clear s
         have U:=zc (bdO HZ.out E)
         have Y:=zc (zcD V.out E)
         go_wp2
         go_roundg (gk-1)
         case rel=>exact⟨S5,a5,U.out,by have:=Y.out;omega,O,X,N.out⟩
         case measure=>omega
  ·have aC: ¬((z.pos:Int)<(C.ts.length:Int)):=by omega
   go_wp2_with fail
   refine wp_region_quiet_below (by kernel_rfl) (by kernel_rfl) ?_
   repeat (go_big_quiet_step (fail))
   refine wpQuiet_nil ?_
   intro w2 ap
   obtain⟨⟨dq,aD⟩,ab⟩:=ap
   have af:Below wr.heap.size wr w2:=by show Below _ _ _;rw[ab];exact below_regrown _ _ _
   clear ab k0 k1 C0 C1
   have H:Hid (IM C gt I base A L z w2):=an.later af
   have am:=aw.trans (IS.below af)
   have ao:Hid (w2.heap[w.heap.size]? =some (.map (esS A) 5)):=zbE an ar.out (IS.below af)
   have HX:=zc (ad.out.trans (zm0 hp))
   obtain⟨c0,c1,c2,c3,c4,c5,c6,c7,c8,c9,cf⟩:=zai H.out.cells
   have al:=H.out.mem.own.ep
   have aL:=H.out.mem.inv.ep
   have ak:=H.out.free
   have ag:=zc ak
   clear ak
   have au:=H.out.lt
   rcases H.out.mem.own.la.nil_or with ⟨ha,hc,hn⟩|⟨gl,ha⟩
   ·have HN:=zc (List.eq_nil_of_length_eq_zero hn)
    rw[ha,hc,hn] at c9
    clear ha hc hn
    go_wp2_with fail
    go_region_law (first|(refine zmz rfl (.tmp 41) (.tmp 45) 50 rfl 97 i0 Tryz.underlying50 hi base 4 z.ep.length L.ep _ (by rfl) (by exact al) (by rfl) ?_))
    all_goals
     go_wp2
     go_end0
     rw[HX.out]
     refine⟨rfl,L,H.out.mem.wholeI0 HN.out ag.out (fun k hk=>zx hk),⟨.slice (some ⟨gt,0,none⟩) C.ts.length I,.int .i64 z.pos,.int .i64 C.fin,.bool C.scr,.slice L.la.a z.la.length L.la.cap,(zae H.out.cells).trans (by simp[HN.out])⟩,?_⟩
     exact (h.back (am.set _ _)).drew
   ·have av:OwnR w2 base 97 4 ⟨some ⟨gl,0,none⟩,L.la.cap⟩ z.la.length (z.la.flatMap epL):=by have:=H.out.mem.own.la;unfold OwnR at this ⊢;rw[ha] at this;exact this
    rw[ha] at c9
    have ay:=H.out.mem.base
    have aF:Hid (some A≠L.ep.blk):=fun e=>ag.out (.inr (.inr (.inl e.symm)))
    go_wp2_with fail
    go_region_law (first|(refine zmy rfl (.tmp 41) (.tmp 45) 50 rfl base 97 i0 _ 4 56 Tryz.underlying50 hi aA aG aE rfl (by decide) (by decide) L.ep z.ep.length _ (by rfl) (by exact al) gl z.la.length L.la.cap base _ (by rfl) (by exact av) (zhC _) (by omega) (by exact ay) ?_;intro r' wz hr aq ax;have g2:=(aq.block A (by exact au) aF.out).trans (by exact H.out.cells);obtain⟨d0,d1,d2,d3,d4,d5,d6,d7,d8,d9,df⟩:=zai g2))
    all_goals
     have HR:=zc hr
     have ah:=zc aq
     have aB:=zc ax
     have ao:=zc g2
     clear hr aq ax g2 c0 c1 c2 c3 c4 c5 c6 c7 c8 c9 cf al av
     go_wp2
     go_end0
     rw[HX.out]
     refine⟨rfl,{L with ep:=r'},H.out.drew.mem.wholeI ah.out HR.out aB.out au ag.out (fun k hk=>zx hk),⟨.slice (some ⟨gt,0,none⟩) C.ts.length I,.int .i64 z.pos,.int .i64 C.fin,.bool C.scr,.slice L.la.a z.la.length L.la.cap,(zae ao.out).trans (by simp)⟩,?_⟩
     exact ((h.back am).trans ⟨ah.out.os,ah.out.tape,ah.out.output,ah.out.size,fun k hk=>ah.out.block k (show k<w2.heap.size by omega) (fun e=>by have:=(H.out.mem.own.ep.typed e.symm).1;omega)⟩).setCell H.out.ge _
theorem zuD (C:Cx) (gt K base A:Nat) (S:Sv) (q:PS) (w:World) (h:IM C gt K base A S q w) (hC:zbu C) (hs:C.scr=false):
  Calls Tryz.prog 169 #[.pointer (some ⟨A,0,none⟩)] w (ziB base A (za2 C q) w):=by
 obtain⟨i0,hi,az,aF,aD⟩:=info_parts Tryz.infoExp
 go_enter Tryz.func169,Tryz.ntmps169
 go_wp2_with fail
 refine (zuy C gt K base A S q _ h hs).mono ?_
 rintro e w1 ⟨rfl,hg,hb⟩
 have aG:=h.later hb
 have ay:IS A S w S w1:=IS.below hb
 have aH:=zc hg
 clear hg hb
 go_wp2
 go_loopg [] (C.ts.length+1) (fun k wr=>∃(L:Sv) (z:PS),za2 C q=za2 C z∧C.ts.length-z.pos<k∧IM C gt K base A L z wr∧IS A S w L wr∧wr.heap[w.heap.size]? =some (.map (esM A) 6))
 case atStart=>exact⟨S,q,rfl,by omega,aG,ay,aH.out⟩
 case round=>
  obtain⟨L,z,hy,hk,m',s',g'⟩:=hrel
  have ab:=zc hy
  have am:=m'
  have av:=s'
  have aq:Hid (wr.heap[w.heap.size]? =some (.map (esM A) 6)):=g'
  obtain⟨c0,c1,_,_,_,_,_,_,_,_,_⟩:=zai m'.cells
  have C0:=zc c0
  have C1:=zc c1
  have aJ:=m'.mem.inv.pos
  have aI:=m'.mem.few
  clear hy m' s' g' c0 c1
  have k0:=cell_regrown C0.out
  have k1:=cell_regrown C1.out
  by_cases hp:z.pos<C.ts.length
  ·have aB:((z.pos:Int)<(C.ts.length:Int)):=by omega
   go_wp2_with fail
   refine wp_region_quiet_below (by kernel_rfl) (by kernel_rfl) ?_
   repeat (go_big_quiet_step (fail))
   refine wpQuiet_nil ?_
   intro w2 ao
   obtain⟨⟨dq,aC⟩,ad⟩:=ao
   have ae:Below wr.heap.size wr w2:=by show Below _ _ _;rw[ad];exact below_regrown _ _ _
   clear ad k0 k1 C0 C1
   have H:Hid (IM C gt K base A L z w2):=am.later ae
   have al:=av.trans (IS.below ae)
   have an:Hid (w2.heap[w.heap.size]? =some (.map (esM A) 6)):=zbE am aq.out (IS.below ae)
   go_wp2_with fail
   refine (zkd C gt K base A L z _ H.out).mono ?_
   rintro e w3 ⟨rfl,hb⟩
   have aa:Hid (IM C gt K base A L z w3):=H.out.later hb
   have ac:=al.trans (IS.below hb)
   have M:Hid (w3.heap[w.heap.size]? =some (.map (esM A) 6)):=zbE H.out an.out (IS.below hb)
   clear hb
   have ag:w.heap.size≠A:=by have:=h.lt;omega
   obtain⟨c0,c1,c2,c3,c4,c5,c6,c7,c8,c9,cf⟩:=zai aa.out.cells
   cases t0:isT C z.pos 1 zH with
   |true=>
    have D:zaG C z=letJ C 1 (adv z):=by rw[zaG,t0];rfl
    have HZ:=zc (ab.out.trans (zcC hp D))
    have V:=zc D
    clear D
    rw[zde t0]
    have ah:=zdd M.out (zuz A)
    go_wp2_with fail
    have J:=aa.out.adv hp
    have I:IS A S w L (w3.setCell ⟨A,1,none⟩ (.int .i64 ((z.pos:Int)+1))):=ac.set _ _
    have Z:Hid ((w3.setCell ⟨A,1,none⟩ (.int .i64 ((z.pos:Int)+1))).heap[w.heap.size]? =some (.map (esM A) 6)):=(zx ag).trans M.out
    refine (zhN C gt K base A L (adv z) _ J).mono ?_
    cases E:letJ C 1 (adv z) with
    |error p=>
     rintro e w5 ⟨rfl,hb⟩
     have HB:=(h.back I).trans hb
     have HX:Hid (za2 C q= .error p):=bdE HZ.out E
     unfold Pan
     go_wp2
     refine⟨rfl,?_⟩
     rw[HX.out]
     exact⟨rfl,HB⟩
    |ok a5=>
     rintro e w5 ⟨rfl,S5,O,s⟩
     have N:Hid (w5.heap[w.heap.size]? =some (.map (esM A) 6)):=zbE J Z.out s
     have X:=I.trans s
     clear s
     have U:=zc (bdO HZ.out E)
     have Y:=zc (zcD V.out E)
     go_wp2
     go_roundg (gk-1)
     case rel=>exact⟨S5,a5,U.out,by have:=Y.out;omega,O,X,N.out⟩
     case measure=>omega
   |false=>
    cases t1:isT C z.pos 1 zW with
    |true=>
     have D:zaG C z=fnI C (adv z):=by rw[zaG,t0,t1];simp only[Bool.false_eq_true,↓reduceIte]
     have HZ:=zc (ab.out.trans (zcC hp D))
     have V:=zc D
     clear D
     rw[zde t1]
     have ah:=zdd M.out (zu0 A)
     go_wp2_with fail
     have J:=aa.out.adv hp
     have I:IS A S w L (w3.setCell ⟨A,1,none⟩ (.int .i64 ((z.pos:Int)+1))):=ac.set _ _
     have Z:Hid ((w3.setCell ⟨A,1,none⟩ (.int .i64 ((z.pos:Int)+1))).heap[w.heap.size]? =some (.map (esM A) 6)):=(zx ag).trans M.out
     refine (zhO C gt K base A L (adv z) _ J).mono ?_
     cases E:fnI C (adv z) with
     |error p=>
      rintro e w5 ⟨rfl,hb⟩
      have HB:=(h.back I).trans hb
      have HX:Hid (za2 C q= .error p):=bdE HZ.out E
      unfold Pan
      go_wp2
      refine⟨rfl,?_⟩
      rw[HX.out]
      exact⟨rfl,HB⟩
     |ok a5=>
      rintro e w5 ⟨rfl,S5,O,s⟩
      have N:Hid (w5.heap[w.heap.size]? =some (.map (esM A) 6)):=zbE J Z.out s
      have X:=I.trans s
      clear s
      have U:=zc (bdO HZ.out E)
      have Y:=zc (zcD V.out E)
      go_wp2
      go_roundg (gk-1)
      case rel=>exact⟨S5,a5,U.out,by have:=Y.out;omega,O,X,N.out⟩
      case measure=>omega
    |false=>
     cases t2:isT C z.pos 1 za1 with
     |true=>
      have D:zaG C z=printI C (adv z):=by rw[zaG,t0,t1,t2];simp only[Bool.false_eq_true,↓reduceIte]
      have HZ:=zc (ab.out.trans (zcC hp D))
      have V:=zc D
      clear D
      rw[zde t2]
      have ah:=zdd M.out (zu1 A)
      go_wp2_with fail
      have J:=aa.out.adv hp
      have I:IS A S w L (w3.setCell ⟨A,1,none⟩ (.int .i64 ((z.pos:Int)+1))):=ac.set _ _
      have Z:Hid ((w3.setCell ⟨A,1,none⟩ (.int .i64 ((z.pos:Int)+1))).heap[w.heap.size]? =some (.map (esM A) 6)):=(zx ag).trans M.out
      refine (zkb C gt K base A L (adv z) _ J).mono ?_
      cases E:printI C (adv z) with
      |error p=>
       rintro e w5 ⟨rfl,hb⟩
       have HB:=(h.back I).trans hb
       have HX:Hid (za2 C q= .error p):=bdE HZ.out E
       unfold Pan
       go_wp2
       refine⟨rfl,?_⟩
       rw[HX.out]
       exact⟨rfl,HB⟩
      |ok a5=>
       rintro e w5 ⟨rfl,S5,O,s⟩
       have N:Hid (w5.heap[w.heap.size]? =some (.map (esM A) 6)):=zbE J Z.out s
       have X:=I.trans s
       clear s
       have U:=zc (bdO HZ.out E)
       have Y:=zc (zcD V.out E)
       go_wp2
       go_roundg (gk-1)
       case rel=>exact⟨S5,a5,U.out,by have:=Y.out;omega,O,X,N.out⟩
       case measure=>omega
     |false=>
      cases t3:isT C z.pos 1 zaD with
      |true=>
       have D:zaG C z=stmtI C 5 sNone cSemi (adv z):=by rw[zaG,t0,t1,t2,t3];simp only[Bool.false_eq_true,↓reduceIte]
       have HZ:=zc (ab.out.trans (zcC hp D))
       have V:=zc D
       clear D
       rw[zde t3]
       have ah:=zdd M.out (zu2 A)
       go_wp2_with fail
       have J:=aa.out.adv hp
       have I:IS A S w L (w3.setCell ⟨A,1,none⟩ (.int .i64 ((z.pos:Int)+1))):=ac.set _ _
       have Z:Hid ((w3.setCell ⟨A,1,none⟩ (.int .i64 ((z.pos:Int)+1))).heap[w.heap.size]? =some (.map (esM A) 6)):=(zx ag).trans M.out
       refine (zkc C gt K base A L (adv z) _ J).mono ?_
       cases E:stmtI C 5 sNone cSemi (adv z) with
       |error p=>
        rintro e w5 ⟨rfl,hb⟩
        have HB:=(h.back I).trans hb
        have HX:Hid (za2 C q= .error p):=bdE HZ.out E
        unfold Pan
        go_wp2
        refine⟨rfl,?_⟩
        rw[HX.out]
        exact⟨rfl,HB⟩
       |ok a5=>
        rintro e w5 ⟨rfl,S5,O,s⟩
        have N:Hid (w5.heap[w.heap.size]? =some (.map (esM A) 6)):=zbE J Z.out s
        have X:=I.trans s
        clear s
        have U:=zc (bdO HZ.out E)
        have Y:=zc (zcD V.out E)
        go_wp2
        go_roundg (gk-1)
        case rel=>exact⟨S5,a5,U.out,by have:=Y.out;omega,O,X,N.out⟩
        case measure=>omega
      |false=>
       cases t4:isT C z.pos 1 zao with
       |true=>
        have D:zaG C z=zaS C (adv z):=by rw[zaG,t0,t1,t2,t3,t4,hs];simp only[Bool.false_eq_true,↓reduceIte,Bool.false_and,Bool.not_false,Bool.and_self]
        have HZ:=zc (ab.out.trans (zcC hp D))
        have V:=zc D
        clear D
        rw[zde t4]
        have ah:=zdd M.out (zu3 A)
        go_wp2_with fail
        have J:=aa.out.adv hp
        have I:IS A S w L (w3.setCell ⟨A,1,none⟩ (.int .i64 ((z.pos:Int)+1))):=ac.set _ _
        have Z:Hid ((w3.setCell ⟨A,1,none⟩ (.int .i64 ((z.pos:Int)+1))).heap[w.heap.size]? =some (.map (esM A) 6)):=(zx ag).trans M.out
        refine (ztT C gt K base A L (adv z) _ J hC).mono ?_
        cases E:zaS C (adv z) with
        |error p=>
         rintro e w5 ⟨rfl,hb⟩
         have HB:=(h.back I).trans hb
         have HX:Hid (za2 C q= .error p):=bdE HZ.out E
         unfold Pan
         go_wp2
         refine⟨rfl,?_⟩
         rw[HX.out]
         exact⟨rfl,HB⟩
        |ok a5=>
         rintro e w5 ⟨rfl,S5,O,s⟩
         have N:Hid (w5.heap[w.heap.size]? =some (.map (esM A) 6)):=zbE J Z.out s
         have X:=I.trans s
         clear s
         have U:=zc (bdO HZ.out E)
         have Y:=zc (zcD V.out E)
         go_wp2
         go_roundg (gk-1)
         case rel=>exact⟨S5,a5,U.out,by have:=Y.out;omega,O,X,N.out⟩
         case measure=>omega
       |false=>
        cases t5:isT C z.pos 1 zan with
        |true=>
         have D:zaG C z=zaz C (adv z):=by rw[zaG,t0,t1,t2,t3,t4,t5,hs];simp only[Bool.false_eq_true,↓reduceIte,Bool.false_and,Bool.not_false,Bool.and_self,Bool.and_false]
         have HZ:=zc (ab.out.trans (zcC hp D))
         have V:=zc D
         clear D
         rw[zde t5]
         have ah:=zdd M.out (zu4 A)
         go_wp2_with fail
         have J:=aa.out.adv hp
         have I:IS A S w L (w3.setCell ⟨A,1,none⟩ (.int .i64 ((z.pos:Int)+1))):=ac.set _ _
         have Z:Hid ((w3.setCell ⟨A,1,none⟩ (.int .i64 ((z.pos:Int)+1))).heap[w.heap.size]? =some (.map (esM A) 6)):=(zx ag).trans M.out
         refine (zuq C gt K base A L (adv z) _ J hC).mono ?_
         cases E:zaz C (adv z) with
         |error p=>
          rintro e w5 ⟨rfl,hb⟩
          have HB:=(h.back I).trans hb
          have HX:Hid (za2 C q= .error p):=bdE HZ.out E
          unfold Pan
          go_wp2
          refine⟨rfl,?_⟩
          rw[HX.out]
          exact⟨rfl,HB⟩
         |ok a5=>
          rintro e w5 ⟨rfl,S5,O,s⟩
          have N:Hid (w5.heap[w.heap.size]? =some (.map (esM A) 6)):=zbE J Z.out s
          have X:=I.trans s
          clear s
          have U:=zc (bdO HZ.out E)
          have Y:=zc (zcD V.out E)
          go_wp2
          go_roundg (gk-1)
          case rel=>exact⟨S5,a5,U.out,by have:=Y.out;omega,O,X,N.out⟩
          case measure=>omega
        |false=>
         have D:zaG C z=letJ C 3 z:=by rw[zaG,t0,t1,t2,t3,t4,t5,hs];simp only[Bool.false_eq_true,↓reduceIte,Bool.false_and,Bool.not_false,Bool.and_false]
         have HZ:=zc (ab.out.trans (zcC hp D))
         have V:=zc D
         clear D
         obtain⟨vz,ah⟩:=zms M.out (zu5 A (zcJ C z.pos) (zdf t0 (by decide)) (zdf t1 (by decide)) (zdf t2 (by decide)) (zdf t3 (by decide)) (zdf t4 (by decide)) (zdf t5 (by decide)))
         go_wp2_with fail
         refine (zka C gt K base A L z _ aa.out).mono ?_
         cases E:letJ C 3 z with
         |error p=>
          rintro e w5 ⟨rfl,hb⟩
          have HB:=(h.back ac).trans hb
          have HX:Hid (za2 C q= .error p):=bdE HZ.out E
          unfold Pan
          go_wp2
          refine⟨rfl,?_⟩
          rw[HX.out]
          exact⟨rfl,HB⟩
         |ok a5=>
          rintro e w5 ⟨rfl,S5,O,s⟩
          have N:Hid (w5.heap[w.heap.size]? =some (.map (esM A) 6)):=zbE aa.out M.out s
          have X:=ac.trans s
          clear s
          have U:=zc (bdO HZ.out E)
          have Y:=zc (zcD V.out E)
          go_wp2
          go_roundg (gk-1)
          case rel=>exact⟨S5,a5,U.out,by have:=Y.out;omega,O,X,N.out⟩
          case measure=>omega
  ·have aB: ¬((z.pos:Int)<(C.ts.length:Int)):=by omega
   go_wp2_with fail
   refine wp_region_quiet_below (by kernel_rfl) (by kernel_rfl) ?_
   repeat (go_big_quiet_step (fail))
   refine wpQuiet_nil ?_
   intro w2 ao
   obtain⟨⟨dq,aC⟩,ad⟩:=ao
   have ae:Below wr.heap.size wr w2:=by show Below _ _ _;rw[ad];exact below_regrown _ _ _
   clear ad k0 k1 C0 C1
   have H:Hid (IM C gt K base A L z w2):=am.later ae
   have al:=av.trans (IS.below ae)
   have an:Hid (w2.heap[w.heap.size]? =some (.map (esM A) 6)):=zbE am aq.out (IS.below ae)
   have HX:=zc (ab.out.trans (zm0 hp))
   obtain⟨c0,c1,c2,c3,c4,c5,c6,c7,c8,c9,cf⟩:=zai H.out.cells
   have ak:=H.out.mem.own.ep
   have aK:=H.out.mem.inv.ep
   have aj:=H.out.free
   have af:=zc aj
   clear aj
   have ar:=H.out.lt
   rcases H.out.mem.own.la.nil_or with ⟨ha,hc,hn⟩|⟨gl,ha⟩
   ·have HN:=zc (List.eq_nil_of_length_eq_zero hn)
    rw[ha,hc,hn] at c9
    clear ha hc hn
    go_wp2_with fail
    go_region_law (first|(refine zmz rfl (.tmp 41) (.tmp 45) 50 rfl 97 i0 Tryz.underlying50 hi base 4 z.ep.length L.ep _ (by rfl) (by exact ak) (by rfl) ?_))
    all_goals
     go_wp2
     go_end0
     rw[HX.out]
     refine⟨rfl,L,H.out.mem.wholeI0 HN.out af.out (fun k hk=>zx hk),⟨.slice (some ⟨gt,0,none⟩) C.ts.length K,.int .i64 z.pos,.int .i64 C.fin,.bool C.scr,.slice L.la.a z.la.length L.la.cap,(zae H.out.cells).trans (by simp[HN.out])⟩,?_⟩
     exact (h.back (al.set _ _)).drew
   ·have au:OwnR w2 base 97 4 ⟨some ⟨gl,0,none⟩,L.la.cap⟩ z.la.length (z.la.flatMap epL):=by have:=H.out.mem.own.la;unfold OwnR at this ⊢;rw[ha] at this;exact this
    rw[ha] at c9
    have ax:=H.out.mem.base
    have aE:Hid (some A≠L.ep.blk):=fun e=>af.out (.inr (.inr (.inl e.symm)))
    go_wp2_with fail
    go_region_law (first|(refine zmy rfl (.tmp 41) (.tmp 45) 50 rfl base 97 i0 _ 4 56 Tryz.underlying50 hi az aF aD rfl (by decide) (by decide) L.ep z.ep.length _ (by rfl) (by exact ak) gl z.la.length L.la.cap base _ (by rfl) (by exact au) (zhC _) (by omega) (by exact ax) ?_;intro r' wz hr ap aw;have g2:=(ap.block A (by exact ar) aE.out).trans (by exact H.out.cells);obtain⟨d0,d1,d2,d3,d4,d5,d6,d7,d8,d9,df⟩:=zai g2))
    all_goals
     have HR:=zc hr
     have ai:=zc ap
     have aA:=zc aw
     have an:=zc g2
     clear hr ap aw g2 c0 c1 c2 c3 c4 c5 c6 c7 c8 c9 cf ak au
     go_wp2
     go_end0
     rw[HX.out]
     refine⟨rfl,{L with ep:=r'},H.out.drew.mem.wholeI ai.out HR.out aA.out ar af.out (fun k hk=>zx hk),⟨.slice (some ⟨gt,0,none⟩) C.ts.length K,.int .i64 z.pos,.int .i64 C.fin,.bool C.scr,.slice L.la.a z.la.length L.la.cap,(zae an.out).trans (by simp)⟩,?_⟩
     exact ((h.back al).trans ⟨ai.out.os,ai.out.tape,ai.out.output,ai.out.size,fun k hk=>ai.out.block k (show k<w2.heap.size by omega) (fun e=>by have:=(H.out.mem.own.ep.typed e.symm).1;omega)⟩).setCell H.out.ge _
end Go.Proofs.YtgcbmogmniahjaaGreat
