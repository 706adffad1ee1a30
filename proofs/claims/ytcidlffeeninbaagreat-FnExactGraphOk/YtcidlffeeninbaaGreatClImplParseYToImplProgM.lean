/-
  The table of items of impl's parser: what is stored in it,what is looked up.
  What the items of impl's parser read is what the items of the document are. No program is spoken of.
  'append' of a row onto a row of the call's own,as one step of a region that draws its order; a program handed back. No program is spoken of but for the numbers of its types.
  What program of impl's parser answers: the walks.
  What program of impl's parser answers of a module: the walk.
-/
import Derived.Maps.Own
import Derived.Test.YtcidlffeeninbaaGreatClImplParseVToImplParseX
namespace Go.Proofs.YtcidlffeeninbaaGreat
set_option maxRecDepth 100000
set_option maxHeartbeats 3200000
open Go.RowKit Go.PlainAid Go.Sort Go.Maps Go.ChangeMaps
def eM (gp:Nat) (k:ByteArray) (f b:Nat):MapEntry:=⟨.string k,.func (.func f) #[.pointer (some ⟨gp,0,none⟩)] #[],b⟩
def esS (gp:Nat):Array MapEntry:=#[eM gp zF 176 0,eM gp zU 177 1,eM gp zay 178 2,eM gp za9 179 3,eM gp zbM 180 4]
def esM (gp:Nat):Array MapEntry:=#[eM gp zF 176 0,eM gp zU 177 1,eM gp zay 178 2,eM gp za9 179 3,eM gp zal 181 4,eM gp zak 182 5]
theorem zib (b:Bool) (k:ByteArray) (W:World):(Instr.checkKey b 10000 9 (.string k)).run Tryz.prog W= .ok () W:=by
 show (Instr.checkKey b (9999+1) 9 (.string k)).run Tryz.prog W= .ok () W
 rw[Instr.checkKey]
 simp[run_underlying Tryz.underlying9]
theorem zic {k:ByteArray} {h:List MapEntry} {r:Option (Nat×Value)} (q:Instr.findNow .string (.string k) h 0=some r) (W:World):(Instr.findKey 9 (.string k) h).run Tryz.prog W= .ok r W:=by
 simp[Instr.findKey,run_underlying Tryz.underlying9,q]
theorem zcS {W w0:World} {B g c:Nat} {q:Array MapEntry} {k:ByteArray} {v:Value} (w:W.heap[g]? =some (.map q c)) (D:Instr.findNow .string (.string k) q.toList 0=some none) (h:Below B w0 W) (hB:B≤g):
  ∃z,(Instr.mapUpdate 195 (.map (some g)) (.string k) v).run Tryz.prog W= .ok () z∧z.heap[g]? =some (.map (q.push ⟨.string k,v,c⟩) (c+1))∧Below B w0 z:=by
 refine⟨setBlock W g (.map (q.push ⟨.string k,v,c⟩) (c+1)),?_,heap_setBlock_same w _,⟨h.os,h.tape,h.output,by simpa [setBlock] using h.size,fun i A=>(heap_setBlock_other w _ (by omega)).trans (h.block i A)⟩⟩
 simp[Instr.mapUpdate,run_underlying Tryz.underlying195,MapKept.run_getObj_map w,zib,zic D,MapKept.run_setObj_map _ w,Result.andThen,setBlock]
theorem zcT {W:World} {g c i:Nat} {h:Array MapEntry} {k:ByteArray} {v:Value} (q:W.heap[g]? =some (.map h c)) (w:Instr.findNow .string (.string k) h.toList 0=some (some (i,v))):
  (Instr.lookup 195 (.map (some g)) (.string k) true).run Tryz.prog W= .ok (.tuple #[v,.bool true]) W:=by
 simp[Instr.lookup,run_underlying Tryz.underlying195,MapKept.run_getObj_map q,zib,zic w,Result.andThen]
theorem zl7 {W:World} {g c:Nat} {q:Array MapEntry} {k:ByteArray} (w:W.heap[g]? =some (.map q c)) (z:Instr.findNow .string (.string k) q.toList 0=some none):
  ∃v,(Instr.lookup 195 (.map (some g)) (.string k) true).run Tryz.prog W= .ok (.tuple #[v,.bool false]) W:=by
 have h: ∃v,(zeroValue 1).run Tryz.prog W= .ok v W:=⟨.nilFunc,by kernel_rfl⟩
 obtain⟨v,h⟩:=h
 exact⟨v,by simp[Instr.lookup,run_underlying Tryz.underlying195,MapKept.run_getObj_map w,zib,zic z,Result.andThen,h]⟩
theorem ztk (C:Cx) (gt z D A:Nat) (S:Sv) (q:PS) (w:World) (h:IM C gt z D A S q w) (hs:C.scr=true):
  Calls Tryz.prog 155 #[.pointer (some ⟨A,0,none⟩)] w fun e H=>e= .returned (.map (some w.heap.size))∧H.heap[w.heap.size]? =some (.map (esS A) 5)∧Below w.heap.size w H:=by
 have Y:=zc h
 have Z:=@run_makeMap Tryz.prog
 have aa: ∀(N:Fn) (first z:Array Value) (w:World),(Instr.makeFunc N first z).run Tryz.prog w= .ok (.func N first z) w:=fun _ _ _ _=>rfl
 obtain⟨W1,r1,U,V⟩:=zcS (k:=zF) (v:=.func (.func 176) #[.pointer (some ⟨A,0,none⟩)] #[]) (heap_alloc_new w (.map #[] 0)) rfl ((Below.refl w.heap.size w).alloc (Nat.le_refl _) _) (Nat.le_refl _)
 obtain⟨W2,r2,I,M⟩:=zcS (k:=zU) (v:=.func (.func 177) #[.pointer (some ⟨A,0,none⟩)] #[]) U rfl V (Nat.le_refl _)
 obtain⟨W3,r3,O,J⟩:=zcS (k:=zay) (v:=.func (.func 178) #[.pointer (some ⟨A,0,none⟩)] #[]) I rfl M (Nat.le_refl _)
 obtain⟨W4,r4,X,E⟩:=zcS (k:=za9) (v:=.func (.func 179) #[.pointer (some ⟨A,0,none⟩)] #[]) O rfl J (Nat.le_refl _)
 obtain⟨W5,r5,K,L⟩:=zcS (k:=zbM) (v:=.func (.func 180) #[.pointer (some ⟨A,0,none⟩)] #[]) X rfl E (Nat.le_refl _)
 have G:=zc K
 have B:=zc L
 obtain⟨_,_,_,c3,_,_,_,_,_,_,cf⟩:=zah (Y.out.later E).cells
 rw[hs] at c3
 clear h U V I M O J X E K L
 go_enter Tryz.func155,Tryz.ntmps155
 go_wp2
 go_ret
 exact⟨rfl,G.out,B.out⟩
theorem ztl (h:Nat):Instr.findNow .string (.string zF) (esS h).toList 0=some (some (0,.func (.func 176) #[.pointer (some ⟨h,0,none⟩)] #[])):=by rfl
theorem ztm (h:Nat):Instr.findNow .string (.string zU) (esS h).toList 0=some (some (1,.func (.func 177) #[.pointer (some ⟨h,0,none⟩)] #[])):=by rfl
theorem ztn (h:Nat):Instr.findNow .string (.string zay) (esS h).toList 0=some (some (2,.func (.func 178) #[.pointer (some ⟨h,0,none⟩)] #[])):=by rfl
theorem zto (h:Nat):Instr.findNow .string (.string za9) (esS h).toList 0=some (some (3,.func (.func 179) #[.pointer (some ⟨h,0,none⟩)] #[])):=by rfl
theorem ztp (h:Nat):Instr.findNow .string (.string zbM) (esS h).toList 0=some (some (4,.func (.func 180) #[.pointer (some ⟨h,0,none⟩)] #[])):=by rfl
theorem ztq (A:Nat) (x:ByteArray) (D:(x==zF)=false) (q:(x==zU)=false) (w:(x==zay)=false) (h:(x==za9)=false) (z:(x==zbM)=false):Instr.findNow .string (.string x) (esS A).toList 0=some none:=by
 simp[esS,eM,Instr.findNow,Instr.sameNow,D,q,w,h,z]
theorem ztr (C:Cx) (gt A D z:Nat) (S:Sv) (q:PS) (w:World) (h:IM C gt A D z S q w) (hs:C.scr=false):
  Calls Tryz.prog 155 #[.pointer (some ⟨z,0,none⟩)] w fun e H=>e= .returned (.map (some w.heap.size))∧H.heap[w.heap.size]? =some (.map (esM z) 6)∧Below w.heap.size w H:=by
 have HH:=zc h
 have aa:=@run_makeMap Tryz.prog
 have ab: ∀(O:Fn) (first A:Array Value) (w:World),(Instr.makeFunc O first A).run Tryz.prog w= .ok (.func O first A) w:=fun _ _ _ _=>rfl
 obtain⟨W1,r1,V,X⟩:=zcS (k:=zF) (v:=.func (.func 176) #[.pointer (some ⟨z,0,none⟩)] #[]) (heap_alloc_new w (.map #[] 0)) rfl ((Below.refl w.heap.size w).alloc (Nat.le_refl _) _) (Nat.le_refl _)
 obtain⟨W2,r2,I,N⟩:=zcS (k:=zU) (v:=.func (.func 177) #[.pointer (some ⟨z,0,none⟩)] #[]) V rfl X (Nat.le_refl _)
 obtain⟨W3,r3,U,J⟩:=zcS (k:=zay) (v:=.func (.func 178) #[.pointer (some ⟨z,0,none⟩)] #[]) I rfl N (Nat.le_refl _)
 obtain⟨W4,r4,Z,E⟩:=zcS (k:=za9) (v:=.func (.func 179) #[.pointer (some ⟨z,0,none⟩)] #[]) U rfl J (Nat.le_refl _)
 obtain⟨W5,r5,K,M⟩:=zcS (k:=zal) (v:=.func (.func 181) #[.pointer (some ⟨z,0,none⟩)] #[]) Z rfl E (Nat.le_refl _)
 obtain⟨W6,r6,L,Y⟩:=zcS (k:=zak) (v:=.func (.func 182) #[.pointer (some ⟨z,0,none⟩)] #[]) K rfl M (Nat.le_refl _)
 have G:=zc L
 have B:=zc Y
 obtain⟨_,_,_,c3,_,_,_,_,_,_,cf⟩:=zah (HH.out.later E).cells
 rw[hs] at c3
 clear h V X I N U J Z E K M L Y
 go_enter Tryz.func155,Tryz.ntmps155
 go_wp2
 go_ret
 exact⟨rfl,G.out,B.out⟩
theorem zts (h:Nat):Instr.findNow .string (.string zF) (esM h).toList 0=some (some (0,.func (.func 176) #[.pointer (some ⟨h,0,none⟩)] #[])):=by rfl
theorem ztt (h:Nat):Instr.findNow .string (.string zU) (esM h).toList 0=some (some (1,.func (.func 177) #[.pointer (some ⟨h,0,none⟩)] #[])):=by rfl
theorem ztu (h:Nat):Instr.findNow .string (.string zay) (esM h).toList 0=some (some (2,.func (.func 178) #[.pointer (some ⟨h,0,none⟩)] #[])):=by rfl
theorem ztv (h:Nat):Instr.findNow .string (.string za9) (esM h).toList 0=some (some (3,.func (.func 179) #[.pointer (some ⟨h,0,none⟩)] #[])):=by rfl
theorem ztw (h:Nat):Instr.findNow .string (.string zal) (esM h).toList 0=some (some (4,.func (.func 181) #[.pointer (some ⟨h,0,none⟩)] #[])):=by rfl
theorem ztx (h:Nat):Instr.findNow .string (.string zak) (esM h).toList 0=some (some (5,.func (.func 182) #[.pointer (some ⟨h,0,none⟩)] #[])):=by rfl
theorem zty (D:Nat) (x:ByteArray) (E:(x==zF)=false) (q:(x==zU)=false) (w:(x==zay)=false) (h:(x==za9)=false) (z:(x==zal)=false) (A:(x==zak)=false):Instr.findNow .string (.string x) (esM D).toList 0=some none:=by
 simp[esM,eM,Instr.findNow,Instr.sameNow,E,q,w,h,z,A]
def zaC (C:Cx) (q:PS):PR:=
 if isT C q.pos 1 zF then letJ C 1 (adv q)
 else if isT C q.pos 1 zU then fnI C (adv q)
 else if isT C q.pos 1 zay then printI C (adv q)
 else if isT C q.pos 1 za9 then stmtI C 5 sNone cSemi (adv q)
 else if C.scr&&isT C q.pos 1 zbM then stmtI C 6 sNone cSemi (adv q)
 else if !C.scr&&isT C q.pos 1 zal then zaP C (adv q)
 else if !C.scr&&isT C q.pos 1 zak then zax C (adv q)
 else letJ C 3 q
theorem ztz (C:Cx) (k:Int) (n:ByteArray) (q:PS):stmtI C k n cSemi q=bd (bd (bd (pE C .sum 0 q) (zd C 4 cSemi)) (zY C k n)) .ok:=by
 rw[zeG,zO,stmtI]
 refine zaf fun a _=>?_
 rw[show zaF C cSemi cSemi.size 0 a=zd C 4 cSemi a from zji C 59 a]
theorem zeQ (C:Cx) (k:Int) (n:ByteArray) (q:PS):bd (bd (pE C .sum 0 q) (zd C 4 cSemi)) (zY C k n)=stmtI C k n cSemi q:=by rw[ztz,zeG]
theorem zt0 (C:Cx) (k:Int) (n:ByteArray) (q:PS):bd (bd (bd (pE C .sum 0 q) (zd C 4 za7)) (zd C 4 cSemi)) (zY C k n)=stmtI C k n cShutSemi q:=by
 rw[zO,zO,stmtI]
 refine zaf fun a _=>?_
 rw[show zaF C cShutSemi cShutSemi.size 0 a=bd (zd C 4 za7 a) (zd C 4 cSemi) from zjj C 41 59 a,zO]
theorem zt1 (C:Cx) (k:Int) (n:ByteArray) (q:PS):bd (bd (bd (pE C .sum 0 q) (zd C 4 cSemi)) (zd C 4 zbx)) (zY C k n)=stmtI C k n cSemiRight q:=by
 rw[zO,zO,stmtI]
 refine zaf fun a _=>?_
 rw[show zaF C cSemiRight cSemiRight.size 0 a=bd (zd C 4 cSemi a) (zd C 4 zbx) from zjj C 59 125 a,zO]
theorem zl8 {C:Cx} {q:PS} (h:isT C q.pos 1 zF=true):zcK C q=bd (letJ C 1 (adv q)) fun a=>.ok (a,(ze C (q.pos+1)).text):=by
 rw[zcK,withN,zca h,zA,letJ,zO]
 refine zaf fun a w=>?_
 rw[zO,zA,zO,zO,zO]
 refine zaf fun b _=>?_
 rw[←zO,←zO,zeQ,(zby w).1]
 rfl
theorem zl9 {C:Cx} {q:PS} (h:isT C q.pos 1 zU=true):fnP C q=bd (fnI C (adv q)) fun a=>.ok (a,(ze C (q.pos+1)).text):=by
 rw[fnP,withN,zca h,zA,fnI,zO]
 refine zaf fun a w=>?_
 rw[show zaF C cCall cCall.size 0 a.1=bd (zd C 4 zo a.1) fun a=>bd (zd C 4 za7 a) (zd C 4 zM) from zn8 C 40 41 123 a.1,zO,zO,zA]
 rw[(zby w).1]
 simp only[zO,←zt1]
 rfl
theorem zlA (x:PR) (n:ByteArray):zaR (bd x fun a=>.ok (a,n))=x:=by rw[zaR,zO];exact zeG x
theorem zid (C:Cx) (l:List Ep) (q:PS):impFromI C l q=bd (zbf C (zaK C (.ok q))) fun b=>zX (fun e=>zap C (zbZ b.2 e)) l (.ok b.1):=by
 rw[impFromI,zbf,zaK,zA,zO,zO]
 refine zaf fun a _=>zaf fun b _=>?_
 rw[zO]
 rfl
theorem zt2 {C:Cx} {q:PS} (h:isT C q.pos 1 zal=true):zba C q=zaP C (adv q):=by
 rw[zba,zca h,zA,zaP]
 cases D:isT C (adv q).pos 4 zM with
 |true=>
  have w:((ze C (adv q).pos).kind==3)=false:=by
   have:=zgi D
   rw[beq_iff_eq] at this
   rw[this]
   rfl
  rw[w]
  simp only[Bool.false_eq_true,↓reduceIte]
  rw[zcZ,zca D,zA]
  refine zaf fun a _=>?_
  rw[zid]
 |false=>
  cases E:isT C (adv q).pos 4 zy with
  |true=>
   have w:((ze C (adv q).pos).kind==3)=false:=by
    have:=zgi E
    rw[beq_iff_eq] at this
    rw[this]
    rfl
   rw[w]
   simp only[Bool.false_eq_true,↓reduceIte]
   rw[zca E,zA,zO]
   refine zaf fun a _=>zaf fun b _=>?_
   rw[zid]
   rfl
  |false=>
   cases A:zG C (adv q).pos false with
   |true=>
    have w:((ze C (adv q).pos).kind==3)=false:=by
     have z:=A
     simp only[zG,Bool.and_eq_true,beq_iff_eq] at z
     rw[z.1]
     rfl
    rw[w]
    simp only[Bool.false_eq_true,↓reduceIte]
    refine zaf fun a _=>?_
    rw[zid]
    rfl
   |false=>
    cases w:((ze C (adv q).pos).kind==3) with
    |true=>simp only[Bool.false_eq_true,↓reduceIte]
    |false=>
     simp only[Bool.false_eq_true,↓reduceIte]
     rw[zL,w,zl,A]
     rfl
theorem zt3 (C:Cx) (l:List Ep) (q:PS) (h:isT C q.pos 1 zV=false) (w:zaE l=false):zaB C l q=bd (zd C 4 cSemi q) fun q=>zX (fun e=>zp C (zD e)) l (.ok q):=by rw[zaB,h,w];rfl
theorem zlB (C:Cx) (l:List Ep) (q:PS) (h:(isT C q.pos 1 zV||zaE l)=true):zaB C l q=bd (zbf C (zaK C (.ok q))) fun b=>zX (fun e=>zp C (zav b.2 e)) l (.ok b.1):=by
 rw[zaB,h,if_pos rfl,zbf,zaK,zA,zO,zO]
 refine zaf fun a _=>zaf fun b _=>?_
 rw[zO]
 rfl
theorem zt4 {C:Cx} {q:PS} (h:isT C q.pos 1 zak=true):zam C q=zax C (adv q):=by
 rw[zam,zca h,zA,zax]
 cases D:isT C (adv q).pos 4 zM with
 |true=>
  simp only[↓reduceIte]
  rw[zcZ,zca D,zA]
  refine zaf fun a _=>?_
  cases w:isT C a.1.pos 1 zV with
  |true=>rw[zlB C a.2 a.1 (by rw[w];rfl),if_neg (by simp)]
  |false=>
   cases z:zaE a.2 with
   |true=>rw[zlB C a.2 a.1 (by rw[z];simp),if_neg (by simp)]
   |false=>rw[zt3 C a.2 a.1 w z,if_pos (by simp)]
 |false=>
  cases E:isT C (adv q).pos 4 zy with
  |true=>
   simp only[Bool.false_eq_true,↓reduceIte]
   rw[zca E,zbf,zaK,zA,zO,zO]
   refine zaf fun a _=>zaf fun b _=>?_
   rw[zO]
   rfl
  |false=>
   cases A:isT C (adv q).pos 1 sDefault with
   |true=>
    simp only[Bool.false_eq_true,↓reduceIte]
    rw[zca A,zA,zeQ]
   |false=>
    cases H:isT C (adv q).pos 1 zF with
    |true=>
     simp only[Bool.false_eq_true,↓reduceIte]
     rw[zl8 H,zO]
     rfl
    |false=>
     cases I:isT C (adv q).pos 1 zU with
     |true=>
      simp only[Bool.false_eq_true,↓reduceIte]
      rw[zl9 I,zO]
      rfl
     |false=>simp only[Bool.false_eq_true,↓reduceIte]
theorem zdJ {C:Cx} {i:Nat} {x y:ByteArray} (h:isT C i 1 x=true) (q:(x.toList==y.toList)=false):isT C i 1 y=false:=by
 have e:=zhp h
 rw[isT,e,q]
 simp
theorem zlC (C:Cx) (q:PS):zaC C q=zB C q:=by
 rw[zaC,zB]
 cases w:isT C q.pos 1 zF with
 |true=>
  rw[zdJ w (y:=zal) (by simp),zdJ w (y:=zak) (by simp)]
  simp only[Bool.false_eq_true,↓reduceIte,Bool.and_false]
  rw[zl8 w,zlA]
 |false=>
  cases z:isT C q.pos 1 zU with
  |true=>
   rw[zdJ z (y:=zal) (by simp),zdJ z (y:=zak) (by simp)]
   simp only[Bool.false_eq_true,↓reduceIte,Bool.and_false]
   rw[zl9 z,zlA]
  |false=>
   cases h:isT C q.pos 1 zay with
   |true=>
    rw[zdJ h (y:=zal) (by simp),zdJ h (y:=zak) (by simp)]
    simp only[Bool.false_eq_true,↓reduceIte,Bool.and_false]
    rw[zca h,zA,printI,zO,zO,zO]
    refine zaf fun a _=>?_
    rw[←zt0,zO,zO]
   |false=>
    cases A:isT C q.pos 1 za9 with
    |true=>
     rw[zdJ A (y:=zal) (by simp),zdJ A (y:=zak) (by simp)]
     simp only[Bool.false_eq_true,↓reduceIte,Bool.and_false]
     rw[zca A,zA,zeQ]
    |false=>
     cases I:C.scr with
     |true=>
      cases E:isT C q.pos 1 zbM with
      |true=>
       simp only[Bool.false_eq_true,↓reduceIte,Bool.not_true,Bool.false_and,Bool.and_self]
       rw[zca E,zA,zeQ]
      |false=>
       simp only[Bool.false_eq_true,↓reduceIte,Bool.not_true,Bool.false_and,Bool.and_false]
       rw[letJ]
       refine zaf fun a _=>?_
       rw[zO,zO]
       refine zaf fun b _=>?_
       rw[←zO,zeQ]
     |false=>
      cases H:isT C q.pos 1 zal with
      |true=>
       simp only[Bool.false_eq_true,↓reduceIte,Bool.not_false,Bool.false_and,Bool.and_self]
       rw[zt2 H]
      |false=>
       cases D:isT C q.pos 1 zak with
       |true=>
        simp only[Bool.false_eq_true,↓reduceIte,Bool.not_false,Bool.false_and,Bool.and_self,Bool.and_false]
        rw[zt4 D]
       |false=>
        simp only[Bool.false_eq_true,↓reduceIte,Bool.not_false,Bool.false_and,Bool.and_false]
        rw[letJ]
        refine zaf fun a _=>?_
        rw[zO,zO]
        refine zaf fun b _=>?_
        rw[←zO,zeQ]
theorem zlD {P:Program} {U:Array Oper} {o:Oper} {a:Act} {W:World} {K:Act→World→Prop} {Q:Exit→Act→World→Prop} {E:Prop} (ad:o.guard=none) (s x:Operand) (t:TypeId)
  (ho:o.op= .call {callee:=.builtin .append,args:=#[s,x],argTypes:=#[t,t]})
  (A:Nat) (e:TypeId) (i:TypeInfo) (z:Value) (size q:Nat) (ht:P.underlying t=some (.slice e)) (hi:P.info? e=some i) (hz:i.zero=some z) (I:i.size=size) (ab:i.bytes=q) (ae:z.cells.size=size) (ac:0<size) (O:q≤100)
  (r:Rw) (n:Nat) (xs:List Value) (hs:a.eval s= .slice r.a n r.cap) (N:OwnR W A e size r n xs)
  (X m c J:Nat) (w:List Value) (hx:a.eval x= .slice (some ⟨X,0,none⟩) m c) (hg:OwnR W J e size ⟨some ⟨X,0,none⟩,c⟩ m w) (h1: ∀u∈w,u.oneCell'=true) (hn:n+m≤1000000) (H:A≤W.heap.size)
  (h: ∀M L,OwnR L A e size M (n+m) (xs++w)→W.grownBy L r.blk→(M.blk=r.blk∨M.blk=some W.heap.size)→K (a.put o.dst (.slice M.a (n+m:Nat) M.cap)) L):
  if Region.wanted o (yielded U a.tmps)=true then Oper.wp P o a W K Q else E:=by
 have hw:Region.wanted o (yielded U a.tmps)=true:=by simp[Region.wanted,ad]
 rw[if_pos hw]
 obtain⟨v',L,hr,Y,h3,_,h5⟩:=run_append_own_at (P:=P) W A t o.type e i z size q ht hi hz I ab ae ac _ n xs N ⟨X,0,none⟩ m c w hg.1 (by
  intro j u hj
  have e1:(⟨X,0,none⟩:Addr).add j=⟨X,j,none⟩:=by simp[Addr.add];exact fun h=>h.symm
  have aa:j<w.length:=(List.getElem?_eq_some_iff.1 hj).1
  rw[e1,World.ownsRow.cellAt hg j (by rw[←hg.1];exact aa)]
  exact hj) h1 (by unfold maxLen;omega) (by have:(n+m)*q≤1000000*100:=Nat.mul_le_mul hn O;omega) H
 unfold Oper.wp execOp
 simp only[ho,resolve,invoke,builtin,Sem.run_bind,Sem.run_pure,Result.andThen_ok,List.map_toArray,List.map_cons,List.map_nil,hs,hx,hr]
 rcases Y.2 with ⟨hv,V⟩|⟨g',D,af,rfl,Z⟩
 ·subst hv
  have:=h ⟨none,0⟩ L (by rw[V] at Y ⊢;exact Y) (by rw[←zb0 r n];exact h3) (by rw[←zb0 r n];exact h5)
  rw[V] at this
  exact this
 ·refine h ⟨some ⟨g',0,none⟩,D⟩ L Y ?_ ?_
  ·rw[←zb0 r n];exact h3
  ·rw[←zb0 r n,←zb0 ⟨some ⟨g',0,none⟩,D⟩ (n+m)];exact h5
theorem zlE {P:Program} {z:Array Oper} {o:Oper} {a:Act} {W:World} {K:Act→World→Prop} {Q:Exit→Act→World→Prop} {E:Prop} (D:o.guard=none) (s x:Operand) (t:TypeId)
  (L:o.op= .call {callee:=.builtin .append,args:=#[s,x],argTypes:=#[t,t]})
  (e:TypeId) (i:TypeInfo) (H:P.underlying t=some (.slice e)) (I:P.info? e=some i) (q size n:Nat)
  (r:Rw) (xs:List Value) (O:a.eval s= .slice r.a n r.cap) (w:OwnR W q e size r n xs) (J:a.eval x= .slice none 0 0)
  (h:K (a.put o.dst (.slice r.a n r.cap)) W):if Region.wanted o (yielded z a.tmps)=true then Oper.wp P o a W K Q else E:=by
 have M:Region.wanted o (yielded z a.tmps)=true:=by simp[Region.wanted,D]
 rw[if_pos M]
 have X:(Builtin.append_ #[t,t] o.type #[.slice r.a n r.cap,.slice none 0 0]).run P W= .ok (.slice r.a n r.cap) W:=by
  rcases w.2 with ⟨A,_⟩|⟨g,V,N,A,_,_,U,_⟩
  ·rw[A]
   simp[Builtin.append_,run_underlying H,sizeOf,typeInfo,I,Builtin.lenOf,Builtin.firstCells]
  ·rw[A]
   simp[Builtin.append_,run_underlying H,sizeOf,typeInfo,I,Builtin.lenOf,Builtin.firstCells,loadCells,U,storeCells]
 unfold Oper.wp execOp
 simp only[L,resolve,invoke,builtin,Sem.run_bind,Sem.run_pure,Result.andThen_ok,List.map_toArray,List.map_cons,List.map_nil,O,J,X]
 exact h
theorem Mem.wholeI {C:Cx} {gt O w b:Nat} {S:Sv} {q:PS} {W K J:World} {H:Rw} (D:Mem C gt O w S q W) (Y:W.grownBy K S.ep.blk) (Z:OwnR K w 82 4 H (q.ep.length+q.la.length) (q.ep.flatMap epL++q.la.flatMap epL)) (M:H.blk=S.ep.blk∨H.blk=some W.heap.size) (hb:b<W.heap.size) (A: ¬S.has b)
  (U: ∀k,k≠b→J.heap[k]? =K.heap[k]?):OwnMod J w {S with ep:=H} q:=by
 have E:(q.ep++q.la).length=q.ep.length+q.la.length:=by simp
 have I: ∀(r:Rw) (e:TypeId) (z n:Nat) (L:List Value),OwnR W w e z r n L→e≠82→(∀k,r.blk=some k→S.has k)→OwnR J w e z r n L:=fun r e z n L h X hs=>
  h.keep fun k g=>(U k (fun N=>A (by rw[←N];exact hs k g))).trans (Y.block k (h.typed g).2.1 fun V=>(h.ne D.own.ep X g) V.symm)
 refine⟨I _ _ _ _ _ D.own.rq (by decide) fun k g=>.inl g,I _ _ _ _ _ D.own.im (by decide) fun k g=>.inr (.inl g),?_,I _ _ _ _ _ D.own.st (by decide) fun k g=>.inr (.inr (.inr (.inl g))),I _ _ _ _ _ D.own.ex (by decide) fun k g=>.inr (.inr (.inr (.inr (.inl g)))),D.inv.rq,D.inv.im,D.inv.ep,D.inv.st,D.inv.ex⟩
 rw[E,List.flatMap_append]
 refine Z.keep fun k g=>U k ?_
 rcases M with e|e
 ·intro N
  exact A (by rw[←N];exact .inr (.inr (.inl (by rw[←e];exact g))))
 ·have:W.heap.size=k:=Option.some.inj (e.symm.trans g)
  omega
theorem Mem.wholeI0 {C:Cx} {M J w b:Nat} {S:Sv} {q:PS} {W H:World} (A:Mem C M J w S q W) (L:q.la=[]) (D: ¬S.has b)
  (K: ∀k,k≠b→H.heap[k]? =W.heap[k]?):OwnMod H w S q:=by
 have E: ∀(r:Rw) (e:TypeId) (z n:Nat) (I:List Value),OwnR W w e z r n I→(∀k,r.blk=some k→S.has k)→OwnR H w e z r n I:=fun r e z n I h O=>
  h.keep fun k g=>K k (fun N=>D (by rw[←N];exact O k g))
 refine⟨E _ _ _ _ _ A.own.rq fun k g=>.inl g,E _ _ _ _ _ A.own.im fun k g=>.inr (.inl g),?_,E _ _ _ _ _ A.own.st fun k g=>.inr (.inr (.inr (.inl g))),E _ _ _ _ _ A.own.ex fun k g=>.inr (.inr (.inr (.inr (.inl g)))),A.inv.rq,A.inv.im,A.inv.ep,A.inv.st,A.inv.ex⟩
 rw[L,List.append_nil]
 exact E _ _ _ _ _ A.own.ep fun k g=>.inr (.inr (.inl g))
theorem zcU {C:Cx} {i:Nat} {k:ByteArray} (h:isT C i 1 k=true):zcC C i=k:=by
 rw[zcC,zgi h,zhp h]
 rfl
theorem zcV {C:Cx} {i:Nat} {k:ByteArray} (h:isT C i 1 k=false) (w:sNone≠k):(zcC C i==k)=false:=by
 rw[Bool.eq_false_iff]
 intro e
 rw[MapKept.bytes_beq] at e
 cases q:((ze C i).kind==1) with
 |false=>
  rw[zcC,q] at e
  exact w e
 |true=>
  rw[zcC,q,if_pos rfl] at e
  rw[isT,q,e] at h
  simp at h
theorem zb6 {C:Cx} {J A z H g c:Nat} {S I:Sv} {q:PS} {W E:World} {D:Array MapEntry} (h:IM C J A z H S q W) (w:W.heap[g]? =some (.map D c)) (s:IS H S W I E):E.heap[g]? =some (.map D c):=by
 refine (s.block g (Array.getElem?_eq_some_iff.1 w).1 (fun k=>?_) (fun e=>?_)).trans w
 ·rcases k with k|k|k|k|k|k
  ·obtain⟨_,_,c,e⟩:=h.mem.own.rq.typed k
   rw[w] at e;cases e
  ·obtain⟨_,_,c,e⟩:=h.mem.own.im.typed k
   rw[w] at e;cases e
  ·obtain⟨_,_,c,e⟩:=h.mem.own.ep.typed k
   rw[w] at e;cases e
  ·obtain⟨_,_,c,e⟩:=h.mem.own.st.typed k
   rw[w] at e;cases e
  ·obtain⟨_,_,c,e⟩:=h.mem.own.ex.typed k
   rw[w] at e;cases e
  ·obtain⟨_,_,c,e⟩:=h.mem.own.la.typed k
   rw[w] at e;cases e
 ·have:=h.cells
  rw[←e,w] at this
  cases this
theorem zc6 {C:Cx} {q:PS} {y:PR} (h:q.pos<C.ts.length) (w:zaC C q=y):zaz C q=bd y (zaz C):=by rw[zfW,if_pos h,←zlC,w]
theorem zlF {C:Cx} {q:PS} (h: ¬q.pos<C.ts.length):zaz C q= .ok q:=by rw[zfW,if_neg h]
theorem zc7 {C:Cx} {q a:PS} {y:PR} (w:zaC C q=y) (h:y= .ok a):q.pos<a.pos:=zfV (by rw[←zlC,w,h])
def zie (base gp:Nat) (y:PR) (w:World) (e:Ending) (w':World):Prop:=
 match y with
 | .ok q=>e= .returned (.tuple #[])∧∃S,OwnMod w' base S q∧(∃v0 v1 v2 v3 v9,w'.heap[gp]? =some (.cells #[v0,v1,v2,v3,.slice S.rq.a q.rq.length S.rq.cap,.slice S.im.a q.im.length S.im.cap,.slice S.ep.a (q.ep++q.la).length S.ep.cap,.slice S.st.a q.st.length S.st.cap,.slice S.ex.a q.ex.length S.ex.cap,v9] 164 (0,0)))∧Below base w w'
 | .error p=>e=Pan p∧Below base w w'
theorem zt5 (C:Cx) (gt I z A:Nat) (S:Sv) (q:PS) (w:World) (h:IM C gt I z A S q w) (hs:C.scr=true):
  Calls Tryz.prog 110 #[.pointer (some ⟨A,0,none⟩)] w (zie z A (zaz C q) w):=by
 obtain⟨i0,hi,aJ,aI,aH⟩:=info_parts Tryz.infoExp
 have HH:=zc h
 clear h
 go_enter Tryz.func110,Tryz.ntmps110
 go_wp2_with fail
 refine (ztk C gt I z A S q _ HH.out hs).mono ?_
 rintro e w1 ⟨rfl,hg,hb⟩
 have az:Hid (IM C gt I z A S q w1):=HH.out.later hb
 have aF:Hid (IS A S w S w1):=IS.below hb
 have aA:=zc hg
 clear hg hb
 go_wp2
 go_loopg [] (C.ts.length+1) (fun k wr=>∃(J:Sv) (D:PS),zaz C q=zaz C D∧C.ts.length-D.pos<k∧IM C gt I z A J D wr∧IS A S w J wr∧wr.heap[w.heap.size]? =some (.map (esS A) 5))
 case atStart=>exact⟨S,q,rfl,by omega,az.out,aF.out,aA.out⟩
 case round=>
  obtain⟨J,D,hy,hk,m',s',g'⟩:=hrel
  have ag:=zc hy
  have ap:Hid (IM C gt I z A J D wr):=m'
  have au:Hid (IS A S w J wr):=s'
  have av:Hid (wr.heap[w.heap.size]? =some (.map (esS A) 5)):=g'
  obtain⟨c0,c1,_,_,_,_,_,_,_,_,_⟩:=zah m'.cells
  have C0:=zc c0
  have C1:=zc c1
  have aM:=m'.mem.inv.pos
  have aK:=m'.mem.few
  clear hy m' s' g' c0 c1
  have k0:=cell_regrown C0.out
  have k1:=cell_regrown C1.out
  by_cases hp:D.pos<C.ts.length
  ·have aB:((D.pos:Int)<(C.ts.length:Int)):=by omega
   go_wp2_with fail
   refine wp_region_quiet_below (by kernel_rfl) (by kernel_rfl) ?_
   repeat (go_big_quiet_step (fail))
   refine wpQuiet_nil ?_
   intro w2 aq
   obtain⟨⟨dq,aE⟩,ac⟩:=aq
   have af:Hid (Below wr.heap.size wr w2):=by show Below _ _ _;rw[ac];exact below_regrown _ _ _
   clear ac k0 k1 C0 C1
   have K:Hid (IM C gt I z A J D w2):=ap.out.later af.out
   have ao:Hid (IS A S w J w2):=au.out.trans (IS.below af.out)
   have an:Hid (w2.heap[w.heap.size]? =some (.map (esS A) 5)):=zb6 ap.out av.out (IS.below af.out)
   go_wp2_with fail
   refine (zjr C gt I z A J D _ K.out).mono ?_
   rintro e w3 ⟨rfl,hb⟩
   have ad:Hid (IM C gt I z A J D w3):=K.out.later hb
   have ae:Hid (IS A S w J w3):=ao.out.trans (IS.below hb)
   have O:Hid (w3.heap[w.heap.size]? =some (.map (esS A) 5)):=zb6 K.out an.out (IS.below hb)
   clear hb
   have ak:w.heap.size≠A:=by have:=HH.out.lt;omega
   obtain⟨c0,c1,c2,c3,c4,c5,c6,c7,c8,c9,cf⟩:=zah ad.out.cells
   cases t0:isT C D.pos 1 zF with
   |true=>
    have E:zaC C D=letJ C 1 (adv D):=by rw[zaC,t0];rfl
    have HZ:=zc (ag.out.trans (zc6 hp E))
    have Y:=zc E
    clear E
    rw[zcU t0]
    have aj:=zcT O.out (ztl A)
    go_wp2_with fail
    have N:Hid (IM C gt I z A J (adv D) (w3.setCell ⟨A,1,none⟩ (.int .i64 ((D.pos:Int)+1)))):=ad.out.adv hp
    have L:Hid (IS A S w J (w3.setCell ⟨A,1,none⟩ (.int .i64 ((D.pos:Int)+1)))):=ae.out.set _ _
    have ab:Hid ((w3.setCell ⟨A,1,none⟩ (.int .i64 ((D.pos:Int)+1))).heap[w.heap.size]? =some (.map (esS A) 5)):=(zv ak).trans O.out
    refine (zhr C gt I z A J (adv D) _ N.out).mono ?_
    cases H:letJ C 1 (adv D) with
    |error p=>
     rintro e M ⟨rfl,hb⟩
     have HB:Hid (Below z w M):=(HH.out.back L.out).trans hb
     have HX:Hid (zaz C q= .error p):=bdE HZ.out H
     unfold Pan
     go_wp2
     refine⟨rfl,?_⟩
     rw[HX.out]
     exact⟨rfl,HB.out⟩
    |ok a5=>
     rintro e M ⟨rfl,S5,m,s⟩
     have aa:Hid (M.heap[w.heap.size]? =some (.map (esS A) 5)):=zb6 N.out ab.out s
     have V:=zc m
     have U:Hid (IS A S w S5 M):=L.out.trans s
     clear m s
     have Z:=zc (bdO HZ.out H)
     have X:=zc (zc7 Y.out H)
     go_wp2
     go_roundg (gk-1)
     case rel=>exact⟨S5,a5,Z.out,by have:=X.out;omega,V.out,U.out,aa.out⟩
     case measure=>omega
   |false=>
    cases t1:isT C D.pos 1 zU with
    |true=>
     have E:zaC C D=fnI C (adv D):=by rw[zaC,t0,t1];simp only[Bool.false_eq_true,↓reduceIte]
     have HZ:=zc (ag.out.trans (zc6 hp E))
     have Y:=zc E
     clear E
     rw[zcU t1]
     have aj:=zcT O.out (ztm A)
     go_wp2_with fail
     have N:Hid (IM C gt I z A J (adv D) (w3.setCell ⟨A,1,none⟩ (.int .i64 ((D.pos:Int)+1)))):=ad.out.adv hp
     have L:Hid (IS A S w J (w3.setCell ⟨A,1,none⟩ (.int .i64 ((D.pos:Int)+1)))):=ae.out.set _ _
     have ab:Hid ((w3.setCell ⟨A,1,none⟩ (.int .i64 ((D.pos:Int)+1))).heap[w.heap.size]? =some (.map (esS A) 5)):=(zv ak).trans O.out
     refine (zhs C gt I z A J (adv D) _ N.out).mono ?_
     cases H:fnI C (adv D) with
     |error p=>
      rintro e M ⟨rfl,hb⟩
      have HB:Hid (Below z w M):=(HH.out.back L.out).trans hb
      have HX:Hid (zaz C q= .error p):=bdE HZ.out H
      unfold Pan
      go_wp2
      refine⟨rfl,?_⟩
      rw[HX.out]
      exact⟨rfl,HB.out⟩
     |ok a5=>
      rintro e M ⟨rfl,S5,m,s⟩
      have aa:Hid (M.heap[w.heap.size]? =some (.map (esS A) 5)):=zb6 N.out ab.out s
      have V:=zc m
      have U:Hid (IS A S w S5 M):=L.out.trans s
      clear m s
      have Z:=zc (bdO HZ.out H)
      have X:=zc (zc7 Y.out H)
      go_wp2
      go_roundg (gk-1)
      case rel=>exact⟨S5,a5,Z.out,by have:=X.out;omega,V.out,U.out,aa.out⟩
      case measure=>omega
    |false=>
     cases t2:isT C D.pos 1 zay with
     |true=>
      have E:zaC C D=printI C (adv D):=by rw[zaC,t0,t1,t2];simp only[Bool.false_eq_true,↓reduceIte]
      have HZ:=zc (ag.out.trans (zc6 hp E))
      have Y:=zc E
      clear E
      rw[zcU t2]
      have aj:=zcT O.out (ztn A)
      go_wp2_with fail
      have N:Hid (IM C gt I z A J (adv D) (w3.setCell ⟨A,1,none⟩ (.int .i64 ((D.pos:Int)+1)))):=ad.out.adv hp
      have L:Hid (IS A S w J (w3.setCell ⟨A,1,none⟩ (.int .i64 ((D.pos:Int)+1)))):=ae.out.set _ _
      have ab:Hid ((w3.setCell ⟨A,1,none⟩ (.int .i64 ((D.pos:Int)+1))).heap[w.heap.size]? =some (.map (esS A) 5)):=(zv ak).trans O.out
      refine (zjp C gt I z A J (adv D) _ N.out).mono ?_
      cases H:printI C (adv D) with
      |error p=>
       rintro e M ⟨rfl,hb⟩
       have HB:Hid (Below z w M):=(HH.out.back L.out).trans hb
       have HX:Hid (zaz C q= .error p):=bdE HZ.out H
       unfold Pan
       go_wp2
       refine⟨rfl,?_⟩
       rw[HX.out]
       exact⟨rfl,HB.out⟩
      |ok a5=>
       rintro e M ⟨rfl,S5,m,s⟩
       have aa:Hid (M.heap[w.heap.size]? =some (.map (esS A) 5)):=zb6 N.out ab.out s
       have V:=zc m
       have U:Hid (IS A S w S5 M):=L.out.trans s
       clear m s
       have Z:=zc (bdO HZ.out H)
       have X:=zc (zc7 Y.out H)
       go_wp2
       go_roundg (gk-1)
       case rel=>exact⟨S5,a5,Z.out,by have:=X.out;omega,V.out,U.out,aa.out⟩
       case measure=>omega
     |false=>
      cases t3:isT C D.pos 1 za9 with
      |true=>
       have E:zaC C D=stmtI C 5 sNone cSemi (adv D):=by rw[zaC,t0,t1,t2,t3];simp only[Bool.false_eq_true,↓reduceIte]
       have HZ:=zc (ag.out.trans (zc6 hp E))
       have Y:=zc E
       clear E
       rw[zcU t3]
       have aj:=zcT O.out (zto A)
       go_wp2_with fail
       have N:Hid (IM C gt I z A J (adv D) (w3.setCell ⟨A,1,none⟩ (.int .i64 ((D.pos:Int)+1)))):=ad.out.adv hp
       have L:Hid (IS A S w J (w3.setCell ⟨A,1,none⟩ (.int .i64 ((D.pos:Int)+1)))):=ae.out.set _ _
       have ab:Hid ((w3.setCell ⟨A,1,none⟩ (.int .i64 ((D.pos:Int)+1))).heap[w.heap.size]? =some (.map (esS A) 5)):=(zv ak).trans O.out
       refine (zjq C gt I z A J (adv D) _ N.out).mono ?_
       cases H:stmtI C 5 sNone cSemi (adv D) with
       |error p=>
        rintro e M ⟨rfl,hb⟩
        have HB:Hid (Below z w M):=(HH.out.back L.out).trans hb
        have HX:Hid (zaz C q= .error p):=bdE HZ.out H
        unfold Pan
        go_wp2
        refine⟨rfl,?_⟩
        rw[HX.out]
        exact⟨rfl,HB.out⟩
       |ok a5=>
        rintro e M ⟨rfl,S5,m,s⟩
        have aa:Hid (M.heap[w.heap.size]? =some (.map (esS A) 5)):=zb6 N.out ab.out s
        have V:=zc m
        have U:Hid (IS A S w S5 M):=L.out.trans s
        clear m s
        have Z:=zc (bdO HZ.out H)
        have X:=zc (zc7 Y.out H)
        go_wp2
        go_roundg (gk-1)
        case rel=>exact⟨S5,a5,Z.out,by have:=X.out;omega,V.out,U.out,aa.out⟩
        case measure=>omega
      |false=>
       cases t4:isT C D.pos 1 zbM with
       |true=>
        have E:zaC C D=stmtI C 6 sNone cSemi (adv D):=by rw[zaC,t0,t1,t2,t3,t4,hs];simp only[Bool.false_eq_true,↓reduceIte,Bool.and_self]
        have HZ:=zc (ag.out.trans (zc6 hp E))
        have Y:=zc E
        clear E
        rw[zcU t4]
        have aj:=zcT O.out (ztp A)
        go_wp2_with fail
        have N:Hid (IM C gt I z A J (adv D) (w3.setCell ⟨A,1,none⟩ (.int .i64 ((D.pos:Int)+1)))):=ad.out.adv hp
        have L:Hid (IS A S w J (w3.setCell ⟨A,1,none⟩ (.int .i64 ((D.pos:Int)+1)))):=ae.out.set _ _
        have ab:Hid ((w3.setCell ⟨A,1,none⟩ (.int .i64 ((D.pos:Int)+1))).heap[w.heap.size]? =some (.map (esS A) 5)):=(zv ak).trans O.out
        refine (znV C gt I z A J (adv D) _ N.out).mono ?_
        cases H:stmtI C 6 sNone cSemi (adv D) with
        |error p=>
         rintro e M ⟨rfl,hb⟩
         have HB:Hid (Below z w M):=(HH.out.back L.out).trans hb
         have HX:Hid (zaz C q= .error p):=bdE HZ.out H
         unfold Pan
         go_wp2
         refine⟨rfl,?_⟩
         rw[HX.out]
         exact⟨rfl,HB.out⟩
        |ok a5=>
         rintro e M ⟨rfl,S5,m,s⟩
         have aa:Hid (M.heap[w.heap.size]? =some (.map (esS A) 5)):=zb6 N.out ab.out s
         have V:=zc m
         have U:Hid (IS A S w S5 M):=L.out.trans s
         clear m s
         have Z:=zc (bdO HZ.out H)
         have X:=zc (zc7 Y.out H)
         go_wp2
         go_roundg (gk-1)
         case rel=>exact⟨S5,a5,Z.out,by have:=X.out;omega,V.out,U.out,aa.out⟩
         case measure=>omega
       |false=>
        have E:zaC C D=letJ C 3 D:=by rw[zaC,t0,t1,t2,t3,t4,hs];simp only[Bool.false_eq_true,↓reduceIte,Bool.and_false,Bool.not_true,Bool.false_and]
        have HZ:=zc (ag.out.trans (zc6 hp E))
        have Y:=zc E
        clear E
        obtain⟨vz,aj⟩:=zl7 O.out (ztq A (zcC C D.pos) (zcV t0 (by decide)) (zcV t1 (by decide)) (zcV t2 (by decide)) (zcV t3 (by decide)) (zcV t4 (by decide)))
        go_wp2_with fail
        refine (zjo C gt I z A J D _ ad.out).mono ?_
        cases H:letJ C 3 D with
        |error p=>
         rintro e M ⟨rfl,hb⟩
         have HB:Hid (Below z w M):=(HH.out.back ae.out).trans hb
         have HX:Hid (zaz C q= .error p):=bdE HZ.out H
         unfold Pan
         go_wp2
         refine⟨rfl,?_⟩
         rw[HX.out]
         exact⟨rfl,HB.out⟩
        |ok a5=>
         rintro e M ⟨rfl,S5,m,s⟩
         have aa:Hid (M.heap[w.heap.size]? =some (.map (esS A) 5)):=zb6 ad.out O.out s
         have V:=zc m
         have U:Hid (IS A S w S5 M):=ae.out.trans s
         clear m s
         have Z:=zc (bdO HZ.out H)
         have X:=zc (zc7 Y.out H)
         go_wp2
         go_roundg (gk-1)
         case rel=>exact⟨S5,a5,Z.out,by have:=X.out;omega,V.out,U.out,aa.out⟩
         case measure=>omega
  ·have aB: ¬((D.pos:Int)<(C.ts.length:Int)):=by omega
   go_wp2_with fail
   refine wp_region_quiet_below (by kernel_rfl) (by kernel_rfl) ?_
   repeat (go_big_quiet_step (fail))
   refine wpQuiet_nil ?_
   intro w2 aq
   obtain⟨⟨dq,aE⟩,ac⟩:=aq
   have af:Hid (Below wr.heap.size wr w2):=by show Below _ _ _;rw[ac];exact below_regrown _ _ _
   clear ac k0 k1 C0 C1
   have K:Hid (IM C gt I z A J D w2):=ap.out.later af.out
   have ao:Hid (IS A S w J w2):=au.out.trans (IS.below af.out)
   have an:Hid (w2.heap[w.heap.size]? =some (.map (esS A) 5)):=zb6 ap.out av.out (IS.below af.out)
   have HX:=zc (ag.out.trans (zlF hp))
   obtain⟨c0,c1,c2,c3,c4,c5,c6,c7,c8,c9,cf⟩:=zah K.out.cells
   have al:=K.out.mem.own.ep
   have aL:=K.out.mem.inv.ep
   have am:=K.out.free
   have ah:=zc am
   clear am
   have aw:=K.out.lt
   rcases K.out.mem.own.la.nil_or with ⟨ha,hc,hn⟩|⟨gl,ha⟩
   ·have HN:=zc (List.eq_nil_of_length_eq_zero hn)
    rw[ha,hc,hn] at c9
    clear ha hc hn
    go_wp2_with fail
    go_region_law (first|(refine zlE rfl (.tmp 41) (.tmp 45) 44 rfl 82 i0 Tryz.underlying44 hi z 4 D.ep.length J.ep _ (by rfl) (by exact al) (by rfl) ?_))
    all_goals
     go_wp2
     go_end0
     rw[HX.out]
     refine⟨rfl,J,K.out.mem.wholeI0 HN.out ah.out (fun k hk=>zv hk),⟨.slice (some ⟨gt,0,none⟩) C.ts.length I,.int .i64 D.pos,.int .i64 C.fin,.bool C.scr,.slice J.la.a D.la.length J.la.cap,(zag K.out.cells).trans (by simp[HN.out])⟩,?_⟩
     exact (HH.out.back (ao.out.set _ _)).drew
   ·have ay:OwnR w2 z 82 4 ⟨some ⟨gl,0,none⟩,J.la.cap⟩ D.la.length (D.la.flatMap epL):=by have:=K.out.mem.own.la;unfold OwnR at this ⊢;rw[ha] at this;exact this
    rw[ha] at c9
    have aD:=K.out.mem.base
    have aC:Hid (some A≠J.ep.blk):=fun e=>ah.out (.inr (.inr (.inl e.symm)))
    go_wp2_with fail
    go_region_law (first|(refine zlD rfl (.tmp 41) (.tmp 45) 44 rfl z 82 i0 _ 4 56 Tryz.underlying44 hi aJ aI aH rfl (by decide) (by decide) J.ep D.ep.length _ (by rfl) (by exact al) gl D.la.length J.la.cap z _ (by rfl) (by exact ay) (zhg _) (by omega) (by exact aD) ?_;intro r' wz hr ar ax;have g2:=(ar.block A (by exact aw) aC.out).trans (by exact K.out.cells);obtain⟨d0,d1,d2,d3,d4,d5,d6,d7,d8,d9,df⟩:=zah g2))
    all_goals
     have HR:=zc hr
     have ai:=zc ar
     have aG:=zc ax
     have an:=zc g2
     clear hr ar ax g2 c0 c1 c2 c3 c4 c5 c6 c7 c8 c9 cf al ay
     go_wp2
     go_end0
     rw[HX.out]
     refine⟨rfl,{J with ep:=r'},K.out.drew.mem.wholeI ai.out HR.out aG.out aw ah.out (fun k hk=>zv hk),⟨.slice (some ⟨gt,0,none⟩) C.ts.length I,.int .i64 D.pos,.int .i64 C.fin,.bool C.scr,.slice J.la.a D.la.length J.la.cap,(zag an.out).trans (by simp)⟩,?_⟩
     exact ((HH.out.back ao.out).trans ⟨ai.out.os,ai.out.tape,ai.out.output,ai.out.size,fun k hk=>ai.out.block k (show k<w2.heap.size by omega) (fun e=>by have:=(K.out.mem.own.ep.typed e.symm).1;omega)⟩).setCell K.out.ge _
theorem zt6 (C:Cx) (gt I z A:Nat) (S:Sv) (q:PS) (w:World) (h:IM C gt I z A S q w) (hC:zbm C) (hs:C.scr=false):
  Calls Tryz.prog 110 #[.pointer (some ⟨A,0,none⟩)] w (zie z A (zaz C q) w):=by
 obtain⟨i0,hi,aJ,aI,aH⟩:=info_parts Tryz.infoExp
 have HH:=zc h
 clear h
 go_enter Tryz.func110,Tryz.ntmps110
 go_wp2_with fail
 refine (ztr C gt I z A S q _ HH.out hs).mono ?_
 rintro e w1 ⟨rfl,hg,hb⟩
 have az:Hid (IM C gt I z A S q w1):=HH.out.later hb
 have aF:Hid (IS A S w S w1):=IS.below hb
 have aA:=zc hg
 clear hg hb
 go_wp2
 go_loopg [] (C.ts.length+1) (fun k wr=>∃(J:Sv) (D:PS),zaz C q=zaz C D∧C.ts.length-D.pos<k∧IM C gt I z A J D wr∧IS A S w J wr∧wr.heap[w.heap.size]? =some (.map (esM A) 6))
 case atStart=>exact⟨S,q,rfl,by omega,az.out,aF.out,aA.out⟩
 case round=>
  obtain⟨J,D,hy,hk,m',s',g'⟩:=hrel
  have af:=zc hy
  have ap:Hid (IM C gt I z A J D wr):=m'
  have au:Hid (IS A S w J wr):=s'
  have av:Hid (wr.heap[w.heap.size]? =some (.map (esM A) 6)):=g'
  obtain⟨c0,c1,_,_,_,_,_,_,_,_,_⟩:=zah m'.cells
  have C0:=zc c0
  have C1:=zc c1
  have aM:=m'.mem.inv.pos
  have aK:=m'.mem.few
  clear hy m' s' g' c0 c1
  have k0:=cell_regrown C0.out
  have k1:=cell_regrown C1.out
  by_cases hp:D.pos<C.ts.length
  ·have aB:((D.pos:Int)<(C.ts.length:Int)):=by omega
   go_wp2_with fail
   refine wp_region_quiet_below (by kernel_rfl) (by kernel_rfl) ?_
   repeat (go_big_quiet_step (fail))
   refine wpQuiet_nil ?_
   intro w2 aq
   obtain⟨⟨dq,aE⟩,ae⟩:=aq
   have ag:Hid (Below wr.heap.size wr w2):=by show Below _ _ _;rw[ae];exact below_regrown _ _ _
   clear ae k0 k1 C0 C1
   have K:Hid (IM C gt I z A J D w2):=ap.out.later ag.out
   have ao:Hid (IS A S w J w2):=au.out.trans (IS.below ag.out)
   have an:Hid (w2.heap[w.heap.size]? =some (.map (esM A) 6)):=zb6 ap.out av.out (IS.below ag.out)
   go_wp2_with fail
   refine (zjr C gt I z A J D _ K.out).mono ?_
   rintro e w3 ⟨rfl,hb⟩
   have ac:Hid (IM C gt I z A J D w3):=K.out.later hb
   have ad:Hid (IS A S w J w3):=ao.out.trans (IS.below hb)
   have O:Hid (w3.heap[w.heap.size]? =some (.map (esM A) 6)):=zb6 K.out an.out (IS.below hb)
   clear hb
   have ak:w.heap.size≠A:=by have:=HH.out.lt;omega
   obtain⟨c0,c1,c2,c3,c4,c5,c6,c7,c8,c9,cf⟩:=zah ac.out.cells
   cases t0:isT C D.pos 1 zF with
   |true=>
    have E:zaC C D=letJ C 1 (adv D):=by rw[zaC,t0];rfl
    have HZ:=zc (af.out.trans (zc6 hp E))
    have Y:=zc E
    clear E
    rw[zcU t0]
    have ai:=zcT O.out (zts A)
    go_wp2_with fail
    have M:Hid (IM C gt I z A J (adv D) (w3.setCell ⟨A,1,none⟩ (.int .i64 ((D.pos:Int)+1)))):=ac.out.adv hp
    have L:Hid (IS A S w J (w3.setCell ⟨A,1,none⟩ (.int .i64 ((D.pos:Int)+1)))):=ad.out.set _ _
    have ab:Hid ((w3.setCell ⟨A,1,none⟩ (.int .i64 ((D.pos:Int)+1))).heap[w.heap.size]? =some (.map (esM A) 6)):=(zv ak).trans O.out
    refine (zhr C gt I z A J (adv D) _ M.out).mono ?_
    cases H:letJ C 1 (adv D) with
    |error p=>
     rintro e N ⟨rfl,hb⟩
     have HB:Hid (Below z w N):=(HH.out.back L.out).trans hb
     have HX:Hid (zaz C q= .error p):=bdE HZ.out H
     unfold Pan
     go_wp2
     refine⟨rfl,?_⟩
     rw[HX.out]
     exact⟨rfl,HB.out⟩
    |ok a5=>
     rintro e N ⟨rfl,S5,m,s⟩
     have aa:Hid (N.heap[w.heap.size]? =some (.map (esM A) 6)):=zb6 M.out ab.out s
     have V:=zc m
     have U:Hid (IS A S w S5 N):=L.out.trans s
     clear m s
     have Z:=zc (bdO HZ.out H)
     have X:=zc (zc7 Y.out H)
     go_wp2
     go_roundg (gk-1)
     case rel=>exact⟨S5,a5,Z.out,by have:=X.out;omega,V.out,U.out,aa.out⟩
     case measure=>omega
   |false=>
    cases t1:isT C D.pos 1 zU with
    |true=>
     have E:zaC C D=fnI C (adv D):=by rw[zaC,t0,t1];simp only[Bool.false_eq_true,↓reduceIte]
     have HZ:=zc (af.out.trans (zc6 hp E))
     have Y:=zc E
     clear E
     rw[zcU t1]
     have ai:=zcT O.out (ztt A)
     go_wp2_with fail
     have M:Hid (IM C gt I z A J (adv D) (w3.setCell ⟨A,1,none⟩ (.int .i64 ((D.pos:Int)+1)))):=ac.out.adv hp
     have L:Hid (IS A S w J (w3.setCell ⟨A,1,none⟩ (.int .i64 ((D.pos:Int)+1)))):=ad.out.set _ _
     have ab:Hid ((w3.setCell ⟨A,1,none⟩ (.int .i64 ((D.pos:Int)+1))).heap[w.heap.size]? =some (.map (esM A) 6)):=(zv ak).trans O.out
     refine (zhs C gt I z A J (adv D) _ M.out).mono ?_
     cases H:fnI C (adv D) with
     |error p=>
      rintro e N ⟨rfl,hb⟩
      have HB:Hid (Below z w N):=(HH.out.back L.out).trans hb
      have HX:Hid (zaz C q= .error p):=bdE HZ.out H
      unfold Pan
      go_wp2
      refine⟨rfl,?_⟩
      rw[HX.out]
      exact⟨rfl,HB.out⟩
     |ok a5=>
      rintro e N ⟨rfl,S5,m,s⟩
      have aa:Hid (N.heap[w.heap.size]? =some (.map (esM A) 6)):=zb6 M.out ab.out s
      have V:=zc m
      have U:Hid (IS A S w S5 N):=L.out.trans s
      clear m s
      have Z:=zc (bdO HZ.out H)
      have X:=zc (zc7 Y.out H)
      go_wp2
      go_roundg (gk-1)
      case rel=>exact⟨S5,a5,Z.out,by have:=X.out;omega,V.out,U.out,aa.out⟩
      case measure=>omega
    |false=>
     cases t2:isT C D.pos 1 zay with
     |true=>
      have E:zaC C D=printI C (adv D):=by rw[zaC,t0,t1,t2];simp only[Bool.false_eq_true,↓reduceIte]
      have HZ:=zc (af.out.trans (zc6 hp E))
      have Y:=zc E
      clear E
      rw[zcU t2]
      have ai:=zcT O.out (ztu A)
      go_wp2_with fail
      have M:Hid (IM C gt I z A J (adv D) (w3.setCell ⟨A,1,none⟩ (.int .i64 ((D.pos:Int)+1)))):=ac.out.adv hp
      have L:Hid (IS A S w J (w3.setCell ⟨A,1,none⟩ (.int .i64 ((D.pos:Int)+1)))):=ad.out.set _ _
      have ab:Hid ((w3.setCell ⟨A,1,none⟩ (.int .i64 ((D.pos:Int)+1))).heap[w.heap.size]? =some (.map (esM A) 6)):=(zv ak).trans O.out
      refine (zjp C gt I z A J (adv D) _ M.out).mono ?_
      cases H:printI C (adv D) with
      |error p=>
       rintro e N ⟨rfl,hb⟩
       have HB:Hid (Below z w N):=(HH.out.back L.out).trans hb
       have HX:Hid (zaz C q= .error p):=bdE HZ.out H
       unfold Pan
       go_wp2
       refine⟨rfl,?_⟩
       rw[HX.out]
       exact⟨rfl,HB.out⟩
      |ok a5=>
       rintro e N ⟨rfl,S5,m,s⟩
       have aa:Hid (N.heap[w.heap.size]? =some (.map (esM A) 6)):=zb6 M.out ab.out s
       have V:=zc m
       have U:Hid (IS A S w S5 N):=L.out.trans s
       clear m s
       have Z:=zc (bdO HZ.out H)
       have X:=zc (zc7 Y.out H)
       go_wp2
       go_roundg (gk-1)
       case rel=>exact⟨S5,a5,Z.out,by have:=X.out;omega,V.out,U.out,aa.out⟩
       case measure=>omega
     |false=>
      cases t3:isT C D.pos 1 za9 with
      |true=>
       have E:zaC C D=stmtI C 5 sNone cSemi (adv D):=by rw[zaC,t0,t1,t2,t3];simp only[Bool.false_eq_true,↓reduceIte]
       have HZ:=zc (af.out.trans (zc6 hp E))
       have Y:=zc E
       clear E
       rw[zcU t3]
       have ai:=zcT O.out (ztv A)
       go_wp2_with fail
       have M:Hid (IM C gt I z A J (adv D) (w3.setCell ⟨A,1,none⟩ (.int .i64 ((D.pos:Int)+1)))):=ac.out.adv hp
       have L:Hid (IS A S w J (w3.setCell ⟨A,1,none⟩ (.int .i64 ((D.pos:Int)+1)))):=ad.out.set _ _
       have ab:Hid ((w3.setCell ⟨A,1,none⟩ (.int .i64 ((D.pos:Int)+1))).heap[w.heap.size]? =some (.map (esM A) 6)):=(zv ak).trans O.out
       refine (zjq C gt I z A J (adv D) _ M.out).mono ?_
       cases H:stmtI C 5 sNone cSemi (adv D) with
       |error p=>
        rintro e N ⟨rfl,hb⟩
        have HB:Hid (Below z w N):=(HH.out.back L.out).trans hb
        have HX:Hid (zaz C q= .error p):=bdE HZ.out H
        unfold Pan
        go_wp2
        refine⟨rfl,?_⟩
        rw[HX.out]
        exact⟨rfl,HB.out⟩
       |ok a5=>
        rintro e N ⟨rfl,S5,m,s⟩
        have aa:Hid (N.heap[w.heap.size]? =some (.map (esM A) 6)):=zb6 M.out ab.out s
        have V:=zc m
        have U:Hid (IS A S w S5 N):=L.out.trans s
        clear m s
        have Z:=zc (bdO HZ.out H)
        have X:=zc (zc7 Y.out H)
        go_wp2
        go_roundg (gk-1)
        case rel=>exact⟨S5,a5,Z.out,by have:=X.out;omega,V.out,U.out,aa.out⟩
        case measure=>omega
      |false=>
       cases t4:isT C D.pos 1 zal with
       |true=>
        have E:zaC C D=zaP C (adv D):=by rw[zaC,t0,t1,t2,t3,t4,hs];simp only[Bool.false_eq_true,↓reduceIte,Bool.false_and,Bool.not_false,Bool.and_self]
        have HZ:=zc (af.out.trans (zc6 hp E))
        have Y:=zc E
        clear E
        rw[zcU t4]
        have ai:=zcT O.out (ztw A)
        go_wp2_with fail
        have M:Hid (IM C gt I z A J (adv D) (w3.setCell ⟨A,1,none⟩ (.int .i64 ((D.pos:Int)+1)))):=ac.out.adv hp
        have L:Hid (IS A S w J (w3.setCell ⟨A,1,none⟩ (.int .i64 ((D.pos:Int)+1)))):=ad.out.set _ _
        have ab:Hid ((w3.setCell ⟨A,1,none⟩ (.int .i64 ((D.pos:Int)+1))).heap[w.heap.size]? =some (.map (esM A) 6)):=(zv ak).trans O.out
        refine (zsM C gt I z A J (adv D) _ M.out hC).mono ?_
        cases H:zaP C (adv D) with
        |error p=>
         rintro e N ⟨rfl,hb⟩
         have HB:Hid (Below z w N):=(HH.out.back L.out).trans hb
         have HX:Hid (zaz C q= .error p):=bdE HZ.out H
         unfold Pan
         go_wp2
         refine⟨rfl,?_⟩
         rw[HX.out]
         exact⟨rfl,HB.out⟩
        |ok a5=>
         rintro e N ⟨rfl,S5,m,s⟩
         have aa:Hid (N.heap[w.heap.size]? =some (.map (esM A) 6)):=zb6 M.out ab.out s
         have V:=zc m
         have U:Hid (IS A S w S5 N):=L.out.trans s
         clear m s
         have Z:=zc (bdO HZ.out H)
         have X:=zc (zc7 Y.out H)
         go_wp2
         go_roundg (gk-1)
         case rel=>exact⟨S5,a5,Z.out,by have:=X.out;omega,V.out,U.out,aa.out⟩
         case measure=>omega
       |false=>
        cases t5:isT C D.pos 1 zak with
        |true=>
         have E:zaC C D=zax C (adv D):=by rw[zaC,t0,t1,t2,t3,t4,t5,hs];simp only[Bool.false_eq_true,↓reduceIte,Bool.false_and,Bool.not_false,Bool.and_self,Bool.and_false]
         have HZ:=zc (af.out.trans (zc6 hp E))
         have Y:=zc E
         clear E
         rw[zcU t5]
         have ai:=zcT O.out (ztx A)
         go_wp2_with fail
         have M:Hid (IM C gt I z A J (adv D) (w3.setCell ⟨A,1,none⟩ (.int .i64 ((D.pos:Int)+1)))):=ac.out.adv hp
         have L:Hid (IS A S w J (w3.setCell ⟨A,1,none⟩ (.int .i64 ((D.pos:Int)+1)))):=ad.out.set _ _
         have ab:Hid ((w3.setCell ⟨A,1,none⟩ (.int .i64 ((D.pos:Int)+1))).heap[w.heap.size]? =some (.map (esM A) 6)):=(zv ak).trans O.out
         refine (ztj C gt I z A J (adv D) _ M.out hC).mono ?_
         cases H:zax C (adv D) with
         |error p=>
          rintro e N ⟨rfl,hb⟩
          have HB:Hid (Below z w N):=(HH.out.back L.out).trans hb
          have HX:Hid (zaz C q= .error p):=bdE HZ.out H
          unfold Pan
          go_wp2
          refine⟨rfl,?_⟩
          rw[HX.out]
          exact⟨rfl,HB.out⟩
         |ok a5=>
          rintro e N ⟨rfl,S5,m,s⟩
          have aa:Hid (N.heap[w.heap.size]? =some (.map (esM A) 6)):=zb6 M.out ab.out s
          have V:=zc m
          have U:Hid (IS A S w S5 N):=L.out.trans s
          clear m s
          have Z:=zc (bdO HZ.out H)
          have X:=zc (zc7 Y.out H)
          go_wp2
          go_roundg (gk-1)
          case rel=>exact⟨S5,a5,Z.out,by have:=X.out;omega,V.out,U.out,aa.out⟩
          case measure=>omega
        |false=>
         have E:zaC C D=letJ C 3 D:=by rw[zaC,t0,t1,t2,t3,t4,t5,hs];simp only[Bool.false_eq_true,↓reduceIte,Bool.false_and,Bool.not_false,Bool.and_false]
         have HZ:=zc (af.out.trans (zc6 hp E))
         have Y:=zc E
         clear E
         obtain⟨vz,ai⟩:=zl7 O.out (zty A (zcC C D.pos) (zcV t0 (by decide)) (zcV t1 (by decide)) (zcV t2 (by decide)) (zcV t3 (by decide)) (zcV t4 (by decide)) (zcV t5 (by decide)))
         go_wp2_with fail
         refine (zjo C gt I z A J D _ ac.out).mono ?_
         cases H:letJ C 3 D with
         |error p=>
          rintro e N ⟨rfl,hb⟩
          have HB:Hid (Below z w N):=(HH.out.back ad.out).trans hb
          have HX:Hid (zaz C q= .error p):=bdE HZ.out H
          unfold Pan
          go_wp2
          refine⟨rfl,?_⟩
          rw[HX.out]
          exact⟨rfl,HB.out⟩
         |ok a5=>
          rintro e N ⟨rfl,S5,m,s⟩
          have aa:Hid (N.heap[w.heap.size]? =some (.map (esM A) 6)):=zb6 ac.out O.out s
          have V:=zc m
          have U:Hid (IS A S w S5 N):=ad.out.trans s
          clear m s
          have Z:=zc (bdO HZ.out H)
          have X:=zc (zc7 Y.out H)
          go_wp2
          go_roundg (gk-1)
          case rel=>exact⟨S5,a5,Z.out,by have:=X.out;omega,V.out,U.out,aa.out⟩
          case measure=>omega
  ·have aB: ¬((D.pos:Int)<(C.ts.length:Int)):=by omega
   go_wp2_with fail
   refine wp_region_quiet_below (by kernel_rfl) (by kernel_rfl) ?_
   repeat (go_big_quiet_step (fail))
   refine wpQuiet_nil ?_
   intro w2 aq
   obtain⟨⟨dq,aE⟩,ae⟩:=aq
   have ag:Hid (Below wr.heap.size wr w2):=by show Below _ _ _;rw[ae];exact below_regrown _ _ _
   clear ae k0 k1 C0 C1
   have K:Hid (IM C gt I z A J D w2):=ap.out.later ag.out
   have ao:Hid (IS A S w J w2):=au.out.trans (IS.below ag.out)
   have an:Hid (w2.heap[w.heap.size]? =some (.map (esM A) 6)):=zb6 ap.out av.out (IS.below ag.out)
   have HX:=zc (af.out.trans (zlF hp))
   obtain⟨c0,c1,c2,c3,c4,c5,c6,c7,c8,c9,cf⟩:=zah K.out.cells
   have al:=K.out.mem.own.ep
   have aL:=K.out.mem.inv.ep
   have am:=K.out.free
   have ah:=zc am
   clear am
   have aw:=K.out.lt
   rcases K.out.mem.own.la.nil_or with ⟨ha,hc,hn⟩|⟨gl,ha⟩
   ·have HN:=zc (List.eq_nil_of_length_eq_zero hn)
    rw[ha,hc,hn] at c9
    clear ha hc hn
    go_wp2_with fail
    go_region_law (first|(refine zlE rfl (.tmp 41) (.tmp 45) 44 rfl 82 i0 Tryz.underlying44 hi z 4 D.ep.length J.ep _ (by rfl) (by exact al) (by rfl) ?_))
    all_goals
     go_wp2
     go_end0
     rw[HX.out]
     refine⟨rfl,J,K.out.mem.wholeI0 HN.out ah.out (fun k hk=>zv hk),⟨.slice (some ⟨gt,0,none⟩) C.ts.length I,.int .i64 D.pos,.int .i64 C.fin,.bool C.scr,.slice J.la.a D.la.length J.la.cap,(zag K.out.cells).trans (by simp[HN.out])⟩,?_⟩
     exact (HH.out.back (ao.out.set _ _)).drew
   ·have ay:OwnR w2 z 82 4 ⟨some ⟨gl,0,none⟩,J.la.cap⟩ D.la.length (D.la.flatMap epL):=by have:=K.out.mem.own.la;unfold OwnR at this ⊢;rw[ha] at this;exact this
    rw[ha] at c9
    have aD:=K.out.mem.base
    have aC:Hid (some A≠J.ep.blk):=fun e=>ah.out (.inr (.inr (.inl e.symm)))
    go_wp2_with fail
    go_region_law (first|(refine zlD rfl (.tmp 41) (.tmp 45) 44 rfl z 82 i0 _ 4 56 Tryz.underlying44 hi aJ aI aH rfl (by decide) (by decide) J.ep D.ep.length _ (by rfl) (by exact al) gl D.la.length J.la.cap z _ (by rfl) (by exact ay) (zhg _) (by omega) (by exact aD) ?_;intro r' wz hr ar ax;have g2:=(ar.block A (by exact aw) aC.out).trans (by exact K.out.cells);obtain⟨d0,d1,d2,d3,d4,d5,d6,d7,d8,d9,df⟩:=zah g2))
    all_goals
     have HR:=zc hr
     have aj:=zc ar
     have aG:=zc ax
     have an:=zc g2
     clear hr ar ax g2 c0 c1 c2 c3 c4 c5 c6 c7 c8 c9 cf al ay
     go_wp2
     go_end0
     rw[HX.out]
     refine⟨rfl,{J with ep:=r'},K.out.drew.mem.wholeI aj.out HR.out aG.out aw ah.out (fun k hk=>zv hk),⟨.slice (some ⟨gt,0,none⟩) C.ts.length I,.int .i64 D.pos,.int .i64 C.fin,.bool C.scr,.slice J.la.a D.la.length J.la.cap,(zag an.out).trans (by simp)⟩,?_⟩
     exact ((HH.out.back ao.out).trans ⟨aj.out.os,aj.out.tape,aj.out.output,aj.out.size,fun k hk=>aj.out.block k (show k<w2.heap.size by omega) (fun e=>by have:=(K.out.mem.own.ep.typed e.symm).1;omega)⟩).setCell K.out.ge _
end Go.Proofs.YtcidlffeeninbaaGreat
