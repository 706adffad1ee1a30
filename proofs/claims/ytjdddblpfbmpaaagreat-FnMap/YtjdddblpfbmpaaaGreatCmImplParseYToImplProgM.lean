/-
  The table of items of impl's parser: what is stored in it,what is looked up.
  What the items of impl's parser read is what the items of the document are. No program is spoken of.
  What program of impl's parser answers: the walks.
  What program of impl's parser answers of a module: the walk.
-/
import Derived.Maps.Own
import Derived.Test.YtjdddblpfbmpaaaGreatCmImplParseVToImplParseX
namespace Go.Proofs.YtjdddblpfbmpaaaGreat
set_option maxRecDepth 100000
set_option maxHeartbeats 3200000
open Go.RowKit Go.PlainAid Go.Sort Go.Maps Go.ChangeMaps
def eM (gp:Nat) (k:ByteArray) (f b:Nat):MapEntry:=⟨.string k,.func (.func f) #[.pointer (some ⟨gp,0,none⟩)] #[],b⟩
def esS (gp:Nat):Array MapEntry:=#[eM gp zG 186 0,eM gp zX 187 1,eM gp za0 188 2,eM gp zaA 189 3,eM gp zbQ 190 4]
def esM (gp:Nat):Array MapEntry:=#[eM gp zG 186 0,eM gp zX 187 1,eM gp za0 188 2,eM gp zaA 189 3,eM gp zao 191 4,eM gp zaj 192 5]
theorem ziz (b:Bool) (k:ByteArray) (W:World):(Instr.checkKey b 10000 9 (.string k)).run Tryz.prog W= .ok () W:=by
 show (Instr.checkKey b (9999+1) 9 (.string k)).run Tryz.prog W= .ok () W
 rw[Instr.checkKey]
 simp[run_underlying Tryz.underlying9]
theorem zi0 {k:ByteArray} {j:List MapEntry} {r:Option (Nat×Value)} (q:Instr.findNow .string (.string k) j 0=some r) (W:World):(Instr.findKey 9 (.string k) j).run Tryz.prog W= .ok r W:=by
 simp[Instr.findKey,run_underlying Tryz.underlying9,q]
theorem zcZ {W w0:World} {B g c:Nat} {q:Array MapEntry} {k:ByteArray} {v:Value} (z:W.heap[g]? =some (.map q c)) (H:Instr.findNow .string (.string k) q.toList 0=some none) (j:Below B w0 W) (J:B≤g):
  ∃A,(Instr.mapUpdate 194 (.map (some g)) (.string k) v).run Tryz.prog W= .ok () A∧A.heap[g]? =some (.map (q.push ⟨.string k,v,c⟩) (c+1))∧Below B w0 A:=by
 refine⟨setBlock W g (.map (q.push ⟨.string k,v,c⟩) (c+1)),?_,heap_setBlock_same z _,⟨j.os,j.tape,j.output,by simpa [setBlock] using j.size,fun i I=>(heap_setBlock_other z _ (by omega)).trans (j.block i I)⟩⟩
 simp[Instr.mapUpdate,run_underlying Tryz.underlying194,MapKept.run_getObj_map z,ziz,zi0 H,MapKept.run_setObj_map _ z,Result.andThen,setBlock]
theorem zda {W:World} {g c i:Nat} {j:Array MapEntry} {k:ByteArray} {v:Value} (q:W.heap[g]? =some (.map j c)) (z:Instr.findNow .string (.string k) j.toList 0=some (some (i,v))):
  (Instr.lookup 194 (.map (some g)) (.string k) true).run Tryz.prog W= .ok (.tuple #[v,.bool true]) W:=by
 simp[Instr.lookup,run_underlying Tryz.underlying194,MapKept.run_getObj_map q,ziz,zi0 z,Result.andThen]
theorem zlK {W:World} {g c:Nat} {q:Array MapEntry} {k:ByteArray} (z:W.heap[g]? =some (.map q c)) (A:Instr.findNow .string (.string k) q.toList 0=some none):
  ∃v,(Instr.lookup 194 (.map (some g)) (.string k) true).run Tryz.prog W= .ok (.tuple #[v,.bool false]) W:=by
 have j: ∃v,(zeroValue 1).run Tryz.prog W= .ok v W:=⟨.nilFunc,by kernel_rfl⟩
 obtain⟨v,j⟩:=j
 exact⟨v,by simp[Instr.lookup,run_underlying Tryz.underlying194,MapKept.run_getObj_map z,ziz,zi0 A,Result.andThen,j]⟩
theorem ztt (C:Cx) (gt j A z:Nat) (S:Sv) (q:PS) (w:World) (h:IM C gt j A z S q w) (hs:C.scr=true):
  Calls Tryz.prog 163 #[.pointer (some ⟨z,0,none⟩)] w fun e w'=>e= .returned (.map (some w.heap.size))∧w'.heap[w.heap.size]? =some (.map (esS z) 5)∧Below w.heap.size w w':=by
 have HH:=zc h
 have Z:=@run_makeMap Tryz.prog
 have aa: ∀(U:Fn) (first j:Array Value) (w:World),(Instr.makeFunc U first j).run Tryz.prog w= .ok (.func U first j) w:=fun _ _ _ _=>rfl
 obtain⟨W1,r1,O,I⟩:=zcZ (k:=zG) (v:=.func (.func 186) #[.pointer (some ⟨z,0,none⟩)] #[]) (heap_alloc_new w (.map #[] 0)) rfl ((Below.refl w.heap.size w).alloc (Nat.le_refl _) _) (Nat.le_refl _)
 obtain⟨W2,r2,M,V⟩:=zcZ (k:=zX) (v:=.func (.func 187) #[.pointer (some ⟨z,0,none⟩)] #[]) O rfl I (Nat.le_refl _)
 obtain⟨W3,r3,Y,L⟩:=zcZ (k:=za0) (v:=.func (.func 188) #[.pointer (some ⟨z,0,none⟩)] #[]) M rfl V (Nat.le_refl _)
 obtain⟨W4,r4,N,H⟩:=zcZ (k:=zaA) (v:=.func (.func 189) #[.pointer (some ⟨z,0,none⟩)] #[]) Y rfl L (Nat.le_refl _)
 obtain⟨W5,r5,X,J⟩:=zcZ (k:=zbQ) (v:=.func (.func 190) #[.pointer (some ⟨z,0,none⟩)] #[]) N rfl H (Nat.le_refl _)
 have G:=zc X
 have B:=zc J
 obtain⟨_,_,_,c3,_,_,_,_,_,_,cf⟩:=zag (HH.out.later H).cells
 rw[hs] at c3
 clear h O I M V Y L N H X J
 go_enter Tryz.func163,Tryz.ntmps163
 go_wp2
 go_ret
 exact⟨rfl,G.out,B.out⟩
theorem ztu (j:Nat):Instr.findNow .string (.string zG) (esS j).toList 0=some (some (0,.func (.func 186) #[.pointer (some ⟨j,0,none⟩)] #[])):=by rfl
theorem ztv (j:Nat):Instr.findNow .string (.string zX) (esS j).toList 0=some (some (1,.func (.func 187) #[.pointer (some ⟨j,0,none⟩)] #[])):=by rfl
theorem ztw (j:Nat):Instr.findNow .string (.string za0) (esS j).toList 0=some (some (2,.func (.func 188) #[.pointer (some ⟨j,0,none⟩)] #[])):=by rfl
theorem ztx (j:Nat):Instr.findNow .string (.string zaA) (esS j).toList 0=some (some (3,.func (.func 189) #[.pointer (some ⟨j,0,none⟩)] #[])):=by rfl
theorem zty (j:Nat):Instr.findNow .string (.string zbQ) (esS j).toList 0=some (some (4,.func (.func 190) #[.pointer (some ⟨j,0,none⟩)] #[])):=by rfl
theorem ztz (j:Nat) (x:ByteArray) (H:(x==zG)=false) (A:(x==zX)=false) (q:(x==za0)=false) (I:(x==zaA)=false) (z:(x==zbQ)=false):Instr.findNow .string (.string x) (esS j).toList 0=some none:=by
 simp[esS,eM,Instr.findNow,Instr.sameNow,H,A,q,I,z]
theorem zt0 (C:Cx) (gt z A j:Nat) (S:Sv) (q:PS) (w:World) (h:IM C gt z A j S q w) (hs:C.scr=false):
  Calls Tryz.prog 163 #[.pointer (some ⟨j,0,none⟩)] w fun e w'=>e= .returned (.map (some w.heap.size))∧w'.heap[w.heap.size]? =some (.map (esM j) 6)∧Below w.heap.size w w':=by
 have HH:=zc h
 have aa:=@run_makeMap Tryz.prog
 have ab: ∀(X:Fn) (first z:Array Value) (w:World),(Instr.makeFunc X first z).run Tryz.prog w= .ok (.func X first z) w:=fun _ _ _ _=>rfl
 obtain⟨W1,r1,V,J⟩:=zcZ (k:=zG) (v:=.func (.func 186) #[.pointer (some ⟨j,0,none⟩)] #[]) (heap_alloc_new w (.map #[] 0)) rfl ((Below.refl w.heap.size w).alloc (Nat.le_refl _) _) (Nat.le_refl _)
 obtain⟨W2,r2,O,Y⟩:=zcZ (k:=zX) (v:=.func (.func 187) #[.pointer (some ⟨j,0,none⟩)] #[]) V rfl J (Nat.le_refl _)
 obtain⟨W3,r3,g3,N⟩:=zcZ (k:=za0) (v:=.func (.func 188) #[.pointer (some ⟨j,0,none⟩)] #[]) O rfl Y (Nat.le_refl _)
 obtain⟨W4,r4,U,H⟩:=zcZ (k:=zaA) (v:=.func (.func 189) #[.pointer (some ⟨j,0,none⟩)] #[]) g3 rfl N (Nat.le_refl _)
 obtain⟨W5,r5,Z,L⟩:=zcZ (k:=zao) (v:=.func (.func 191) #[.pointer (some ⟨j,0,none⟩)] #[]) U rfl H (Nat.le_refl _)
 obtain⟨W6,r6,I,M⟩:=zcZ (k:=zaj) (v:=.func (.func 192) #[.pointer (some ⟨j,0,none⟩)] #[]) Z rfl L (Nat.le_refl _)
 have G:=zc I
 have B:=zc M
 obtain⟨_,_,_,c3,_,_,_,_,_,_,cf⟩:=zag (HH.out.later H).cells
 rw[hs] at c3
 clear h V J O Y g3 N U H Z L I M
 go_enter Tryz.func163,Tryz.ntmps163
 go_wp2
 go_ret
 exact⟨rfl,G.out,B.out⟩
theorem zt1 (j:Nat):Instr.findNow .string (.string zG) (esM j).toList 0=some (some (0,.func (.func 186) #[.pointer (some ⟨j,0,none⟩)] #[])):=by rfl
theorem zt2 (j:Nat):Instr.findNow .string (.string zX) (esM j).toList 0=some (some (1,.func (.func 187) #[.pointer (some ⟨j,0,none⟩)] #[])):=by rfl
theorem zt3 (j:Nat):Instr.findNow .string (.string za0) (esM j).toList 0=some (some (2,.func (.func 188) #[.pointer (some ⟨j,0,none⟩)] #[])):=by rfl
theorem zt4 (j:Nat):Instr.findNow .string (.string zaA) (esM j).toList 0=some (some (3,.func (.func 189) #[.pointer (some ⟨j,0,none⟩)] #[])):=by rfl
theorem zt5 (j:Nat):Instr.findNow .string (.string zao) (esM j).toList 0=some (some (4,.func (.func 191) #[.pointer (some ⟨j,0,none⟩)] #[])):=by rfl
theorem zt6 (j:Nat):Instr.findNow .string (.string zaj) (esM j).toList 0=some (some (5,.func (.func 192) #[.pointer (some ⟨j,0,none⟩)] #[])):=by rfl
theorem zt7 (j:Nat) (x:ByteArray) (I:(x==zG)=false) (A:(x==zX)=false) (q:(x==za0)=false) (J:(x==zaA)=false) (z:(x==zao)=false) (H:(x==zaj)=false):Instr.findNow .string (.string x) (esM j).toList 0=some none:=by
 simp[esM,eM,Instr.findNow,Instr.sameNow,I,A,q,J,z,H]
def zaD (C:Cx) (q:PS):PR:=
 if isT C q.pos 1 zG then letJ C 1 (adv q)
 else if isT C q.pos 1 zX then fnI C (adv q)
 else if isT C q.pos 1 za0 then printI C (adv q)
 else if isT C q.pos 1 zaA then stmtI C 5 sNone cSemi (adv q)
 else if C.scr&&isT C q.pos 1 zbQ then stmtI C 6 sNone cSemi (adv q)
 else if !C.scr&&isT C q.pos 1 zao then zaQ C (adv q)
 else if !C.scr&&isT C q.pos 1 zaj then zay C (adv q)
 else letJ C 3 q
theorem zt8 (C:Cx) (k:Int) (n:ByteArray) (q:PS):stmtI C k n cSemi q=bd (bd (bd (pE C .sum 0 q) (zd C 4 cSemi)) (zU C k n)) .ok:=by
 rw[zeA,zP,stmtI]
 refine zaf fun a _=>?_
 rw[show zaG C cSemi cSemi.size 0 a=zd C 4 cSemi a from zjp C 59 a]
theorem zeR (C:Cx) (k:Int) (n:ByteArray) (q:PS):bd (bd (pE C .sum 0 q) (zd C 4 cSemi)) (zU C k n)=stmtI C k n cSemi q:=by rw[zt8,zeA]
theorem zt9 (C:Cx) (k:Int) (n:ByteArray) (q:PS):bd (bd (bd (pE C .sum 0 q) (zd C 4 za8)) (zd C 4 cSemi)) (zU C k n)=stmtI C k n cShutSemi q:=by
 rw[zP,zP,stmtI]
 refine zaf fun a _=>?_
 rw[show zaG C cShutSemi cShutSemi.size 0 a=bd (zd C 4 za8 a) (zd C 4 cSemi) from zjq C 41 59 a,zP]
theorem ztA (C:Cx) (k:Int) (n:ByteArray) (q:PS):bd (bd (bd (pE C .sum 0 q) (zd C 4 cSemi)) (zd C 4 zb2)) (zU C k n)=stmtI C k n cSemiRight q:=by
 rw[zP,zP,stmtI]
 refine zaf fun a _=>?_
 rw[show zaG C cSemiRight cSemiRight.size 0 a=bd (zd C 4 cSemi a) (zd C 4 zb2) from zjq C 59 125 a,zP]
theorem zlL {C:Cx} {q:PS} (h:isT C q.pos 1 zG=true):zc9 C q=bd (letJ C 1 (adv q)) fun a=>.ok (a,(ze C (q.pos+1)).text):=by
 rw[zc9,withN,zcc h,zC,letJ,zP]
 refine zaf fun a j=>?_
 rw[zP,zC,zP,zP,zP]
 refine zaf fun b _=>?_
 rw[←zP,←zP,zeR,(zbq j).1]
 rfl
theorem zlM {C:Cx} {q:PS} (h:isT C q.pos 1 zX=true):fnP C q=bd (fnI C (adv q)) fun a=>.ok (a,(ze C (q.pos+1)).text):=by
 rw[fnP,withN,zcc h,zC,fnI,zP]
 refine zaf fun a j=>?_
 rw[show zaG C cCall cCall.size 0 a.1=bd (zd C 4 zr a.1) fun a=>bd (zd C 4 za8 a) (zd C 4 zM) from znz C 40 41 123 a.1,zP,zP,zC]
 rw[(zbq j).1]
 simp only[zP,←ztA]
 rfl
theorem zlN (x:PR) (n:ByteArray):zaR (bd x fun a=>.ok (a,n))=x:=by rw[zaR,zP];exact zeA x
theorem zi1 (C:Cx) (l:List Ep) (q:PS):impFromI C l q=bd (zba C (zaI C (.ok q))) fun b=>zV (fun e=>zal C (zca b.2 e)) l (.ok b.1):=by
 rw[impFromI,zba,zaI,zC,zP,zP]
 refine zaf fun a _=>zaf fun b _=>?_
 rw[zP]
 rfl
theorem ztB {C:Cx} {q:PS} (h:isT C q.pos 1 zao=true):zaX C q=zaQ C (adv q):=by
 rw[zaX,zcc h,zC,zaQ]
 cases I:isT C (adv q).pos 4 zM with
 |true=>
  have j:((ze C (adv q).pos).kind==3)=false:=by
   have:=zgr I
   rw[beq_iff_eq] at this
   rw[this]
   rfl
  rw[j]
  simp only[Bool.false_eq_true,↓reduceIte]
  rw[zcM,zcc I,zC]
  refine zaf fun a _=>?_
  rw[zi1]
 |false=>
  cases H:isT C (adv q).pos 4 zy with
  |true=>
   have j:((ze C (adv q).pos).kind==3)=false:=by
    have:=zgr H
    rw[beq_iff_eq] at this
    rw[this]
    rfl
   rw[j]
   simp only[Bool.false_eq_true,↓reduceIte]
   rw[zcc H,zC,zP]
   refine zaf fun a _=>zaf fun b _=>?_
   rw[zi1]
   rfl
  |false=>
   cases A:zH C (adv q).pos false with
   |true=>
    have j:((ze C (adv q).pos).kind==3)=false:=by
     have z:=A
     simp only[zH,Bool.and_eq_true,beq_iff_eq] at z
     rw[z.1]
     rfl
    rw[j]
    simp only[Bool.false_eq_true,↓reduceIte]
    refine zaf fun a _=>?_
    rw[zi1]
    rfl
   |false=>
    cases j:((ze C (adv q).pos).kind==3) with
    |true=>simp only[Bool.false_eq_true,↓reduceIte]
    |false=>
     simp only[Bool.false_eq_true,↓reduceIte]
     rw[zF,j,zo,A]
     rfl
theorem ztC (C:Cx) (l:List Ep) (q:PS) (h:isT C q.pos 1 zY=false) (j:zaF l=false):zaC C l q=bd (zd C 4 cSemi q) fun q=>zV (fun e=>zq C (zD e)) l (.ok q):=by rw[zaC,h,j];rfl
theorem zlO (C:Cx) (l:List Ep) (q:PS) (h:(isT C q.pos 1 zY||zaF l)=true):zaC C l q=bd (zba C (zaI C (.ok q))) fun b=>zV (fun e=>zq C (zap b.2 e)) l (.ok b.1):=by
 rw[zaC,h,if_pos rfl,zba,zaI,zC,zP,zP]
 refine zaf fun a _=>zaf fun b _=>?_
 rw[zP]
 rfl
theorem ztD {C:Cx} {q:PS} (h:isT C q.pos 1 zaj=true):zam C q=zay C (adv q):=by
 rw[zam,zcc h,zC,zay]
 cases I:isT C (adv q).pos 4 zM with
 |true=>
  simp only[↓reduceIte]
  rw[zcM,zcc I,zC]
  refine zaf fun a _=>?_
  cases z:isT C a.1.pos 1 zY with
  |true=>rw[zlO C a.2 a.1 (by rw[z];rfl),if_neg (by simp)]
  |false=>
   cases j:zaF a.2 with
   |true=>rw[zlO C a.2 a.1 (by rw[j];simp),if_neg (by simp)]
   |false=>rw[ztC C a.2 a.1 z j,if_pos (by simp)]
 |false=>
  cases A:isT C (adv q).pos 4 zy with
  |true=>
   simp only[Bool.false_eq_true,↓reduceIte]
   rw[zcc A,zba,zaI,zC,zP,zP]
   refine zaf fun a _=>zaf fun b _=>?_
   rw[zP]
   rfl
  |false=>
   cases L:isT C (adv q).pos 1 sDefault with
   |true=>
    simp only[Bool.false_eq_true,↓reduceIte]
    rw[zcc L,zC,zeR]
   |false=>
    cases H:isT C (adv q).pos 1 zG with
    |true=>
     simp only[Bool.false_eq_true,↓reduceIte]
     rw[zlL H,zP]
     rfl
    |false=>
     cases J:isT C (adv q).pos 1 zX with
     |true=>
      simp only[Bool.false_eq_true,↓reduceIte]
      rw[zlM J,zP]
      rfl
     |false=>simp only[Bool.false_eq_true,↓reduceIte]
theorem zdQ {C:Cx} {i:Nat} {x y:ByteArray} (h:isT C i 1 x=true) (j:(x.toList==y.toList)=false):isT C i 1 y=false:=by
 have e:=zh4 h
 rw[isT,e,j]
 simp
theorem zlP (C:Cx) (q:PS):zaD C q=zA C q:=by
 rw[zaD,zA]
 cases A:isT C q.pos 1 zG with
 |true=>
  rw[zdQ A (y:=zao) (by simp),zdQ A (y:=zaj) (by simp)]
  simp only[Bool.false_eq_true,↓reduceIte,Bool.and_false]
  rw[zlL A,zlN]
 |false=>
  cases j:isT C q.pos 1 zX with
  |true=>
   rw[zdQ j (y:=zao) (by simp),zdQ j (y:=zaj) (by simp)]
   simp only[Bool.false_eq_true,↓reduceIte,Bool.and_false]
   rw[zlM j,zlN]
  |false=>
   cases H:isT C q.pos 1 za0 with
   |true=>
    rw[zdQ H (y:=zao) (by simp),zdQ H (y:=zaj) (by simp)]
    simp only[Bool.false_eq_true,↓reduceIte,Bool.and_false]
    rw[zcc H,zC,printI,zP,zP,zP]
    refine zaf fun a _=>?_
    rw[←zt9,zP,zP]
   |false=>
    cases z:isT C q.pos 1 zaA with
    |true=>
     rw[zdQ z (y:=zao) (by simp),zdQ z (y:=zaj) (by simp)]
     simp only[Bool.false_eq_true,↓reduceIte,Bool.and_false]
     rw[zcc z,zC,zeR]
    |false=>
     cases M:C.scr with
     |true=>
      cases L:isT C q.pos 1 zbQ with
      |true=>
       simp only[Bool.false_eq_true,↓reduceIte,Bool.not_true,Bool.false_and,Bool.and_self]
       rw[zcc L,zC,zeR]
      |false=>
       simp only[Bool.false_eq_true,↓reduceIte,Bool.not_true,Bool.false_and,Bool.and_false]
       rw[letJ]
       refine zaf fun a _=>?_
       rw[zP,zP]
       refine zaf fun b _=>?_
       rw[←zP,zeR]
     |false=>
      cases I:isT C q.pos 1 zao with
      |true=>
       simp only[Bool.false_eq_true,↓reduceIte,Bool.not_false,Bool.false_and,Bool.and_self]
       rw[ztB I]
      |false=>
       cases J:isT C q.pos 1 zaj with
       |true=>
        simp only[Bool.false_eq_true,↓reduceIte,Bool.not_false,Bool.false_and,Bool.and_self,Bool.and_false]
        rw[ztD J]
       |false=>
        simp only[Bool.false_eq_true,↓reduceIte,Bool.not_false,Bool.false_and,Bool.and_false]
        rw[letJ]
        refine zaf fun a _=>?_
        rw[zP,zP]
        refine zaf fun b _=>?_
        rw[←zP,zeR]
theorem zdb {C:Cx} {i:Nat} {k:ByteArray} (h:isT C i 1 k=true):zcC C i=k:=by
 rw[zcC,zgr h,zh4 h]
 rfl
theorem zdc {C:Cx} {i:Nat} {k:ByteArray} (h:isT C i 1 k=false) (q:sNone≠k):(zcC C i==k)=false:=by
 rw[Bool.eq_false_iff]
 intro e
 rw[MapKept.bytes_beq] at e
 cases j:((ze C i).kind==1) with
 |false=>
  rw[zcC,j] at e
  exact q e
 |true=>
  rw[zcC,j,if_pos rfl] at e
  rw[isT,j,e] at h
  simp at h
theorem zbC {C:Cx} {J A z H g c:Nat} {S S':Sv} {q:PS} {W w':World} {I:Array MapEntry} (h:IM C J A z H S q W) (j:W.heap[g]? =some (.map I c)) (s:IS H S W S' w'):w'.heap[g]? =some (.map I c):=by
 refine (s.block g (Array.getElem?_eq_some_iff.1 j).1 (fun k=>?_) (fun e=>?_)).trans j
 ·rcases k with k|k|k|k|k|k
  ·obtain⟨_,_,c,e⟩:=h.mem.own.rq.typed k
   rw[j] at e;cases e
  ·obtain⟨_,_,c,e⟩:=h.mem.own.im.typed k
   rw[j] at e;cases e
  ·obtain⟨_,_,c,e⟩:=h.mem.own.ep.typed k
   rw[j] at e;cases e
  ·obtain⟨_,_,c,e⟩:=h.mem.own.st.typed k
   rw[j] at e;cases e
  ·obtain⟨_,_,c,e⟩:=h.mem.own.ex.typed k
   rw[j] at e;cases e
  ·obtain⟨_,_,c,e⟩:=h.mem.own.la.typed k
   rw[j] at e;cases e
 ·have:=h.cells
  rw[←e,j] at this
  cases this
theorem zc4 {C:Cx} {q:PS} {y:PR} (j:q.pos<C.ts.length) (z:zaD C q=y):za1 C q=bd y (za1 C):=by rw[zgf,if_pos j,←zlP,z]
theorem zlQ {C:Cx} {q:PS} (j: ¬q.pos<C.ts.length):za1 C q= .ok q:=by rw[zgf,if_neg j]
theorem zc5 {C:Cx} {q a:PS} {y:PR} (j:zaD C q=y) (h:y= .ok a):q.pos<a.pos:=zge (by rw[←zlP,j,h])
def zi2 (base gp:Nat) (y:PR) (w:World) (e:Ending) (w':World):Prop:=
 match y with
 | .ok q=>e= .returned (.tuple #[])∧∃S,OwnMod w' base S q∧(∃v0 v1 v2 v3 v9,w'.heap[gp]? =some (.cells #[v0,v1,v2,v3,.slice S.rq.a q.rq.length S.rq.cap,.slice S.im.a q.im.length S.im.cap,.slice S.ep.a (q.ep++q.la).length S.ep.cap,.slice S.st.a q.st.length S.st.cap,.slice S.ex.a q.ex.length S.ex.cap,v9] 160 (0,0)))∧Below base w w'
 | .error p=>e=Pan p∧Below base w w'
theorem ztE (C:Cx) (gt L A z:Nat) (S:Sv) (q:PS) (w:World) (h:IM C gt L A z S q w) (hs:C.scr=true):
  Calls Tryz.prog 120 #[.pointer (some ⟨z,0,none⟩)] w (zi2 A z (za1 C q) w):=by
 obtain⟨i0,hi,aC,aI,aG⟩:=info_parts Tryz.infoExp
 go_enter Tryz.func120,Tryz.ntmps120
 go_wp2_with fail
 refine (ztt C gt L A z S q _ h hs).mono ?_
 rintro e w1 ⟨rfl,hg,hb⟩
 have aJ:=h.later hb
 have aB:IS z S w S w1:=IS.below hb
 have aK:=zc hg
 clear hg hb
 go_wp2
 go_loopg [] (C.ts.length+1) (fun k wr=>∃(O:Sv) (j:PS),za1 C q=za1 C j∧C.ts.length-j.pos<k∧IM C gt L A z O j wr∧IS z S w O wr∧wr.heap[w.heap.size]? =some (.map (esS z) 5))
 case atStart=>exact⟨S,q,rfl,by omega,aJ,aB,aK.out⟩
 case round=>
  obtain⟨O,j,hy,hk,m',s',g'⟩:=hrel
  have af:=zc hy
  have ap:=m'
  have ay:=s'
  have av:Hid (wr.heap[w.heap.size]? =some (.map (esS z) 5)):=g'
  obtain⟨c0,c1,_,_,_,_,_,_,_,_,_⟩:=zag m'.cells
  have C0:=zc c0
  have C1:=zc c1
  have aM:=m'.mem.inv.pos
  have aL:=m'.mem.few
  clear hy m' s' g' c0 c1
  have k0:=cell_regrown C0.out
  have k1:=cell_regrown C1.out
  by_cases hp:j.pos<C.ts.length
  ·have aE:((j.pos:Int)<(C.ts.length:Int)):=by omega
   go_wp2_with fail
   refine wp_region_quiet_below (by kernel_rfl) (by kernel_rfl) ?_
   repeat (go_big_quiet_step (fail))
   refine wpQuiet_nil ?_
   intro w2 ar
   obtain⟨⟨dq,aF⟩,ad⟩:=ar
   have ah:Below wr.heap.size wr w2:=by show Below _ _ _;rw[ad];exact below_regrown _ _ _
   clear ad k0 k1 C0 C1
   have J:Hid (IM C gt L A z O j w2):=ap.later ah
   have ao:=ay.trans (IS.below ah)
   have aq:Hid (w2.heap[w.heap.size]? =some (.map (esS z) 5)):=zbC ap av.out (IS.below ah)
   go_wp2_with fail
   refine (zjz C gt L A z O j _ J.out).mono ?_
   rintro e w3 ⟨rfl,hb⟩
   have ae:Hid (IM C gt L A z O j w3):=J.out.later hb
   have ag:=ao.trans (IS.below hb)
   have U:Hid (w3.heap[w.heap.size]? =some (.map (esS z) 5)):=zbC J.out aq.out (IS.below hb)
   clear hb
   have ak:w.heap.size≠z:=by have:=h.lt;omega
   obtain⟨c0,c1,c2,c3,c4,c5,c6,c7,c8,c9,cf⟩:=zag ae.out.cells
   cases t0:isT C j.pos 1 zG with
   |true=>
    have H:zaD C j=letJ C 1 (adv j):=by rw[zaD,t0];rfl
    have HZ:=zc (af.out.trans (zc4 hp H))
    have Z:=zc H
    clear H
    rw[zdb t0]
    have al:=zda U.out (ztu z)
    go_wp2_with fail
    have N:=ae.out.adv hp
    have M:IS z S w O (w3.setCell ⟨z,1,none⟩ (.int .i64 ((j.pos:Int)+1))):=ag.set _ _
    have ac:Hid ((w3.setCell ⟨z,1,none⟩ (.int .i64 ((j.pos:Int)+1))).heap[w.heap.size]? =some (.map (esS z) 5)):=(zn ak).trans U.out
    refine (zh6 C gt L A z O (adv j) _ N).mono ?_
    cases I:letJ C 1 (adv j) with
    |error p=>
     rintro e w5 ⟨rfl,hb⟩
     have HB:=(h.back M).trans hb
     have HX:Hid (za1 C q= .error p):=bdE HZ.out I
     unfold Pan
     go_wp2
     refine⟨rfl,?_⟩
     rw[HX.out]
     exact⟨rfl,HB⟩
    |ok a5=>
     rintro e w5 ⟨rfl,S5,X,s⟩
     have V:Hid (w5.heap[w.heap.size]? =some (.map (esS z) 5)):=zbC N ac.out s
     have aa:=M.trans s
     clear s
     have Y:=zc (bdO HZ.out I)
     have ab:=zc (zc5 Z.out I)
     go_wp2
     go_roundg (gk-1)
     case rel=>exact⟨S5,a5,Y.out,by have:=ab.out;omega,X,aa,V.out⟩
     case measure=>omega
   |false=>
    cases t1:isT C j.pos 1 zX with
    |true=>
     have H:zaD C j=fnI C (adv j):=by rw[zaD,t0,t1];simp only[Bool.false_eq_true,↓reduceIte]
     have HZ:=zc (af.out.trans (zc4 hp H))
     have Z:=zc H
     clear H
     rw[zdb t1]
     have al:=zda U.out (ztv z)
     go_wp2_with fail
     have N:=ae.out.adv hp
     have M:IS z S w O (w3.setCell ⟨z,1,none⟩ (.int .i64 ((j.pos:Int)+1))):=ag.set _ _
     have ac:Hid ((w3.setCell ⟨z,1,none⟩ (.int .i64 ((j.pos:Int)+1))).heap[w.heap.size]? =some (.map (esS z) 5)):=(zn ak).trans U.out
     refine (zh7 C gt L A z O (adv j) _ N).mono ?_
     cases I:fnI C (adv j) with
     |error p=>
      rintro e w5 ⟨rfl,hb⟩
      have HB:=(h.back M).trans hb
      have HX:Hid (za1 C q= .error p):=bdE HZ.out I
      unfold Pan
      go_wp2
      refine⟨rfl,?_⟩
      rw[HX.out]
      exact⟨rfl,HB⟩
     |ok a5=>
      rintro e w5 ⟨rfl,S5,X,s⟩
      have V:Hid (w5.heap[w.heap.size]? =some (.map (esS z) 5)):=zbC N ac.out s
      have aa:=M.trans s
      clear s
      have Y:=zc (bdO HZ.out I)
      have ab:=zc (zc5 Z.out I)
      go_wp2
      go_roundg (gk-1)
      case rel=>exact⟨S5,a5,Y.out,by have:=ab.out;omega,X,aa,V.out⟩
      case measure=>omega
    |false=>
     cases t2:isT C j.pos 1 za0 with
     |true=>
      have H:zaD C j=printI C (adv j):=by rw[zaD,t0,t1,t2];simp only[Bool.false_eq_true,↓reduceIte]
      have HZ:=zc (af.out.trans (zc4 hp H))
      have Z:=zc H
      clear H
      rw[zdb t2]
      have al:=zda U.out (ztw z)
      go_wp2_with fail
      have N:=ae.out.adv hp
      have M:IS z S w O (w3.setCell ⟨z,1,none⟩ (.int .i64 ((j.pos:Int)+1))):=ag.set _ _
      have ac:Hid ((w3.setCell ⟨z,1,none⟩ (.int .i64 ((j.pos:Int)+1))).heap[w.heap.size]? =some (.map (esS z) 5)):=(zn ak).trans U.out
      refine (zjx C gt L A z O (adv j) _ N).mono ?_
      cases I:printI C (adv j) with
      |error p=>
       rintro e w5 ⟨rfl,hb⟩
       have HB:=(h.back M).trans hb
       have HX:Hid (za1 C q= .error p):=bdE HZ.out I
       unfold Pan
       go_wp2
       refine⟨rfl,?_⟩
       rw[HX.out]
       exact⟨rfl,HB⟩
      |ok a5=>
       rintro e w5 ⟨rfl,S5,X,s⟩
       have V:Hid (w5.heap[w.heap.size]? =some (.map (esS z) 5)):=zbC N ac.out s
       have aa:=M.trans s
       clear s
       have Y:=zc (bdO HZ.out I)
       have ab:=zc (zc5 Z.out I)
       go_wp2
       go_roundg (gk-1)
       case rel=>exact⟨S5,a5,Y.out,by have:=ab.out;omega,X,aa,V.out⟩
       case measure=>omega
     |false=>
      cases t3:isT C j.pos 1 zaA with
      |true=>
       have H:zaD C j=stmtI C 5 sNone cSemi (adv j):=by rw[zaD,t0,t1,t2,t3];simp only[Bool.false_eq_true,↓reduceIte]
       have HZ:=zc (af.out.trans (zc4 hp H))
       have Z:=zc H
       clear H
       rw[zdb t3]
       have al:=zda U.out (ztx z)
       go_wp2_with fail
       have N:=ae.out.adv hp
       have M:IS z S w O (w3.setCell ⟨z,1,none⟩ (.int .i64 ((j.pos:Int)+1))):=ag.set _ _
       have ac:Hid ((w3.setCell ⟨z,1,none⟩ (.int .i64 ((j.pos:Int)+1))).heap[w.heap.size]? =some (.map (esS z) 5)):=(zn ak).trans U.out
       refine (zjy C gt L A z O (adv j) _ N).mono ?_
       cases I:stmtI C 5 sNone cSemi (adv j) with
       |error p=>
        rintro e w5 ⟨rfl,hb⟩
        have HB:=(h.back M).trans hb
        have HX:Hid (za1 C q= .error p):=bdE HZ.out I
        unfold Pan
        go_wp2
        refine⟨rfl,?_⟩
        rw[HX.out]
        exact⟨rfl,HB⟩
       |ok a5=>
        rintro e w5 ⟨rfl,S5,X,s⟩
        have V:Hid (w5.heap[w.heap.size]? =some (.map (esS z) 5)):=zbC N ac.out s
        have aa:=M.trans s
        clear s
        have Y:=zc (bdO HZ.out I)
        have ab:=zc (zc5 Z.out I)
        go_wp2
        go_roundg (gk-1)
        case rel=>exact⟨S5,a5,Y.out,by have:=ab.out;omega,X,aa,V.out⟩
        case measure=>omega
      |false=>
       cases t4:isT C j.pos 1 zbQ with
       |true=>
        have H:zaD C j=stmtI C 6 sNone cSemi (adv j):=by rw[zaD,t0,t1,t2,t3,t4,hs];simp only[Bool.false_eq_true,↓reduceIte,Bool.and_self]
        have HZ:=zc (af.out.trans (zc4 hp H))
        have Z:=zc H
        clear H
        rw[zdb t4]
        have al:=zda U.out (zty z)
        go_wp2_with fail
        have N:=ae.out.adv hp
        have M:IS z S w O (w3.setCell ⟨z,1,none⟩ (.int .i64 ((j.pos:Int)+1))):=ag.set _ _
        have ac:Hid ((w3.setCell ⟨z,1,none⟩ (.int .i64 ((j.pos:Int)+1))).heap[w.heap.size]? =some (.map (esS z) 5)):=(zn ak).trans U.out
        refine (znL C gt L A z O (adv j) _ N).mono ?_
        cases I:stmtI C 6 sNone cSemi (adv j) with
        |error p=>
         rintro e w5 ⟨rfl,hb⟩
         have HB:=(h.back M).trans hb
         have HX:Hid (za1 C q= .error p):=bdE HZ.out I
         unfold Pan
         go_wp2
         refine⟨rfl,?_⟩
         rw[HX.out]
         exact⟨rfl,HB⟩
        |ok a5=>
         rintro e w5 ⟨rfl,S5,X,s⟩
         have V:Hid (w5.heap[w.heap.size]? =some (.map (esS z) 5)):=zbC N ac.out s
         have aa:=M.trans s
         clear s
         have Y:=zc (bdO HZ.out I)
         have ab:=zc (zc5 Z.out I)
         go_wp2
         go_roundg (gk-1)
         case rel=>exact⟨S5,a5,Y.out,by have:=ab.out;omega,X,aa,V.out⟩
         case measure=>omega
       |false=>
        have H:zaD C j=letJ C 3 j:=by rw[zaD,t0,t1,t2,t3,t4,hs];simp only[Bool.false_eq_true,↓reduceIte,Bool.and_false,Bool.not_true,Bool.false_and]
        have HZ:=zc (af.out.trans (zc4 hp H))
        have Z:=zc H
        clear H
        obtain⟨vz,al⟩:=zlK U.out (ztz z (zcC C j.pos) (zdc t0 (by decide)) (zdc t1 (by decide)) (zdc t2 (by decide)) (zdc t3 (by decide)) (zdc t4 (by decide)))
        go_wp2_with fail
        refine (zjw C gt L A z O j _ ae.out).mono ?_
        cases I:letJ C 3 j with
        |error p=>
         rintro e w5 ⟨rfl,hb⟩
         have HB:=(h.back ag).trans hb
         have HX:Hid (za1 C q= .error p):=bdE HZ.out I
         unfold Pan
         go_wp2
         refine⟨rfl,?_⟩
         rw[HX.out]
         exact⟨rfl,HB⟩
        |ok a5=>
         rintro e w5 ⟨rfl,S5,X,s⟩
         have V:Hid (w5.heap[w.heap.size]? =some (.map (esS z) 5)):=zbC ae.out U.out s
         have aa:=ag.trans s
         clear s
         have Y:=zc (bdO HZ.out I)
         have ab:=zc (zc5 Z.out I)
         go_wp2
         go_roundg (gk-1)
         case rel=>exact⟨S5,a5,Y.out,by have:=ab.out;omega,X,aa,V.out⟩
         case measure=>omega
  ·have aE: ¬((j.pos:Int)<(C.ts.length:Int)):=by omega
   go_wp2_with fail
   refine wp_region_quiet_below (by kernel_rfl) (by kernel_rfl) ?_
   repeat (go_big_quiet_step (fail))
   refine wpQuiet_nil ?_
   intro w2 ar
   obtain⟨⟨dq,aF⟩,ad⟩:=ar
   have ah:Below wr.heap.size wr w2:=by show Below _ _ _;rw[ad];exact below_regrown _ _ _
   clear ad k0 k1 C0 C1
   have J:Hid (IM C gt L A z O j w2):=ap.later ah
   have ao:=ay.trans (IS.below ah)
   have aq:Hid (w2.heap[w.heap.size]? =some (.map (esS z) 5)):=zbC ap av.out (IS.below ah)
   have HX:=zc (af.out.trans (zlQ hp))
   obtain⟨c0,c1,c2,c3,c4,c5,c6,c7,c8,c9,cf⟩:=zag J.out.cells
   have an:=J.out.mem.own.ep
   have aN:=J.out.mem.inv.ep
   have am:=J.out.free
   have ai:=zc am
   clear am
   have aw:=J.out.lt
   rcases J.out.mem.own.la.nil_or with ⟨ha,hc,hn⟩|⟨gl,ha⟩
   ·have HN:=zc (List.eq_nil_of_length_eq_zero hn)
    rw[ha,hc,hn] at c9
    clear ha hc hn
    go_wp2_with fail
    go_region_law (first|(refine zid rfl (.tmp 41) (.tmp 45) 32 rfl 86 i0 Tryz.underlying32 hi A 4 j.ep.length O.ep _ (by rfl) (by exact an) (by rfl) ?_))
    all_goals
     go_wp2
     go_end0
     rw[HX.out]
     refine⟨rfl,O,J.out.mem.wholeI0 HN.out ai.out (fun k hk=>zn hk),⟨.slice (some ⟨gt,0,none⟩) C.ts.length L,.int .i64 j.pos,.int .i64 C.fin,.bool C.scr,.slice O.la.a j.la.length O.la.cap,(zaz J.out.cells).trans (by simp[HN.out])⟩,?_⟩
     exact (h.back (ao.set _ _)).drew
   ·have ax:OwnR w2 A 86 4 ⟨some ⟨gl,0,none⟩,O.la.cap⟩ j.la.length (j.la.flatMap epL):=by have:=J.out.mem.own.la;unfold OwnR at this ⊢;rw[ha] at this;exact this
    rw[ha] at c9
    have aA:=J.out.mem.base
    have aH:Hid (some z≠O.ep.blk):=fun e=>ai.out (.inr (.inr (.inl e.symm)))
    go_wp2_with fail
    go_region_law (first|(refine zic rfl (.tmp 41) (.tmp 45) 32 rfl A 86 i0 _ 4 56 Tryz.underlying32 hi aC aI aG rfl (by decide) (by decide) O.ep j.ep.length _ (by rfl) (by exact an) gl j.la.length O.la.cap A _ (by rfl) (by exact ax) (zgh _) (by omega) (by exact aA) ?_;intro r' wz hr au az;have g2:=(au.block z (by exact aw) aH.out).trans (by exact J.out.cells);obtain⟨d0,d1,d2,d3,d4,d5,d6,d7,d8,d9,df⟩:=zag g2))
    all_goals
     have HR:=zc hr
     have aj:=zc au
     have aD:=zc az
     have aq:=zc g2
     clear hr au az g2 c0 c1 c2 c3 c4 c5 c6 c7 c8 c9 cf an ax
     go_wp2
     go_end0
     rw[HX.out]
     refine⟨rfl,{O with ep:=r'},J.out.drew.mem.wholeI aj.out HR.out aD.out aw ai.out (fun k hk=>zn hk),⟨.slice (some ⟨gt,0,none⟩) C.ts.length L,.int .i64 j.pos,.int .i64 C.fin,.bool C.scr,.slice O.la.a j.la.length O.la.cap,(zaz aq.out).trans (by simp)⟩,?_⟩
     exact ((h.back ao).trans ⟨aj.out.os,aj.out.tape,aj.out.output,aj.out.size,fun k hk=>aj.out.block k (show k<w2.heap.size by omega) (fun e=>by have:=(J.out.mem.own.ep.typed e.symm).1;omega)⟩).setCell J.out.ge _
theorem ztF (C:Cx) (gt N A z:Nat) (S:Sv) (q:PS) (w:World) (h:IM C gt N A z S q w) (hC:zbu C) (hs:C.scr=false):
  Calls Tryz.prog 120 #[.pointer (some ⟨z,0,none⟩)] w (zi2 A z (za1 C q) w):=by
 obtain⟨i0,hi,aC,aI,aG⟩:=info_parts Tryz.infoExp
 go_enter Tryz.func120,Tryz.ntmps120
 go_wp2_with fail
 refine (zt0 C gt N A z S q _ h hs).mono ?_
 rintro e w1 ⟨rfl,hg,hb⟩
 have aJ:=h.later hb
 have aB:IS z S w S w1:=IS.below hb
 have aK:=zc hg
 clear hg hb
 go_wp2
 go_loopg [] (C.ts.length+1) (fun k wr=>∃(O:Sv) (j:PS),za1 C q=za1 C j∧C.ts.length-j.pos<k∧IM C gt N A z O j wr∧IS z S w O wr∧wr.heap[w.heap.size]? =some (.map (esM z) 6))
 case atStart=>exact⟨S,q,rfl,by omega,aJ,aB,aK.out⟩
 case round=>
  obtain⟨O,j,hy,hk,m',s',g'⟩:=hrel
  have ae:=zc hy
  have ap:=m'
  have ay:=s'
  have av:Hid (wr.heap[w.heap.size]? =some (.map (esM z) 6)):=g'
  obtain⟨c0,c1,_,_,_,_,_,_,_,_,_⟩:=zag m'.cells
  have C0:=zc c0
  have C1:=zc c1
  have aM:=m'.mem.inv.pos
  have aL:=m'.mem.few
  clear hy m' s' g' c0 c1
  have k0:=cell_regrown C0.out
  have k1:=cell_regrown C1.out
  by_cases hp:j.pos<C.ts.length
  ·have aE:((j.pos:Int)<(C.ts.length:Int)):=by omega
   go_wp2_with fail
   refine wp_region_quiet_below (by kernel_rfl) (by kernel_rfl) ?_
   repeat (go_big_quiet_step (fail))
   refine wpQuiet_nil ?_
   intro w2 ar
   obtain⟨⟨dq,aF⟩,ag⟩:=ar
   have ah:Below wr.heap.size wr w2:=by show Below _ _ _;rw[ag];exact below_regrown _ _ _
   clear ag k0 k1 C0 C1
   have J:Hid (IM C gt N A z O j w2):=ap.later ah
   have ao:=ay.trans (IS.below ah)
   have aq:Hid (w2.heap[w.heap.size]? =some (.map (esM z) 6)):=zbC ap av.out (IS.below ah)
   go_wp2_with fail
   refine (zjz C gt N A z O j _ J.out).mono ?_
   rintro e w3 ⟨rfl,hb⟩
   have ad:Hid (IM C gt N A z O j w3):=J.out.later hb
   have af:=ao.trans (IS.below hb)
   have U:Hid (w3.heap[w.heap.size]? =some (.map (esM z) 6)):=zbC J.out aq.out (IS.below hb)
   clear hb
   have aj:w.heap.size≠z:=by have:=h.lt;omega
   obtain⟨c0,c1,c2,c3,c4,c5,c6,c7,c8,c9,cf⟩:=zag ad.out.cells
   cases t0:isT C j.pos 1 zG with
   |true=>
    have H:zaD C j=letJ C 1 (adv j):=by rw[zaD,t0];rfl
    have HZ:=zc (ae.out.trans (zc4 hp H))
    have Z:=zc H
    clear H
    rw[zdb t0]
    have ak:=zda U.out (zt1 z)
    go_wp2_with fail
    have M:=ad.out.adv hp
    have L:IS z S w O (w3.setCell ⟨z,1,none⟩ (.int .i64 ((j.pos:Int)+1))):=af.set _ _
    have ac:Hid ((w3.setCell ⟨z,1,none⟩ (.int .i64 ((j.pos:Int)+1))).heap[w.heap.size]? =some (.map (esM z) 6)):=(zn aj).trans U.out
    refine (zh6 C gt N A z O (adv j) _ M).mono ?_
    cases I:letJ C 1 (adv j) with
    |error p=>
     rintro e w5 ⟨rfl,hb⟩
     have HB:=(h.back L).trans hb
     have HX:Hid (za1 C q= .error p):=bdE HZ.out I
     unfold Pan
     go_wp2
     refine⟨rfl,?_⟩
     rw[HX.out]
     exact⟨rfl,HB⟩
    |ok a5=>
     rintro e w5 ⟨rfl,S5,X,s⟩
     have V:Hid (w5.heap[w.heap.size]? =some (.map (esM z) 6)):=zbC M ac.out s
     have aa:=L.trans s
     clear s
     have Y:=zc (bdO HZ.out I)
     have ab:=zc (zc5 Z.out I)
     go_wp2
     go_roundg (gk-1)
     case rel=>exact⟨S5,a5,Y.out,by have:=ab.out;omega,X,aa,V.out⟩
     case measure=>omega
   |false=>
    cases t1:isT C j.pos 1 zX with
    |true=>
     have H:zaD C j=fnI C (adv j):=by rw[zaD,t0,t1];simp only[Bool.false_eq_true,↓reduceIte]
     have HZ:=zc (ae.out.trans (zc4 hp H))
     have Z:=zc H
     clear H
     rw[zdb t1]
     have ak:=zda U.out (zt2 z)
     go_wp2_with fail
     have M:=ad.out.adv hp
     have L:IS z S w O (w3.setCell ⟨z,1,none⟩ (.int .i64 ((j.pos:Int)+1))):=af.set _ _
     have ac:Hid ((w3.setCell ⟨z,1,none⟩ (.int .i64 ((j.pos:Int)+1))).heap[w.heap.size]? =some (.map (esM z) 6)):=(zn aj).trans U.out
     refine (zh7 C gt N A z O (adv j) _ M).mono ?_
     cases I:fnI C (adv j) with
     |error p=>
      rintro e w5 ⟨rfl,hb⟩
      have HB:=(h.back L).trans hb
      have HX:Hid (za1 C q= .error p):=bdE HZ.out I
      unfold Pan
      go_wp2
      refine⟨rfl,?_⟩
      rw[HX.out]
      exact⟨rfl,HB⟩
     |ok a5=>
      rintro e w5 ⟨rfl,S5,X,s⟩
      have V:Hid (w5.heap[w.heap.size]? =some (.map (esM z) 6)):=zbC M ac.out s
      have aa:=L.trans s
      clear s
      have Y:=zc (bdO HZ.out I)
      have ab:=zc (zc5 Z.out I)
      go_wp2
      go_roundg (gk-1)
      case rel=>exact⟨S5,a5,Y.out,by have:=ab.out;omega,X,aa,V.out⟩
      case measure=>omega
    |false=>
     cases t2:isT C j.pos 1 za0 with
     |true=>
      have H:zaD C j=printI C (adv j):=by rw[zaD,t0,t1,t2];simp only[Bool.false_eq_true,↓reduceIte]
      have HZ:=zc (ae.out.trans (zc4 hp H))
      have Z:=zc H
      clear H
      rw[zdb t2]
      have ak:=zda U.out (zt3 z)
      go_wp2_with fail
      have M:=ad.out.adv hp
      have L:IS z S w O (w3.setCell ⟨z,1,none⟩ (.int .i64 ((j.pos:Int)+1))):=af.set _ _
      have ac:Hid ((w3.setCell ⟨z,1,none⟩ (.int .i64 ((j.pos:Int)+1))).heap[w.heap.size]? =some (.map (esM z) 6)):=(zn aj).trans U.out
      refine (zjx C gt N A z O (adv j) _ M).mono ?_
      cases I:printI C (adv j) with
      |error p=>
       rintro e w5 ⟨rfl,hb⟩
       have HB:=(h.back L).trans hb
       have HX:Hid (za1 C q= .error p):=bdE HZ.out I
       unfold Pan
       go_wp2
       refine⟨rfl,?_⟩
       rw[HX.out]
       exact⟨rfl,HB⟩
      |ok a5=>
       rintro e w5 ⟨rfl,S5,X,s⟩
       have V:Hid (w5.heap[w.heap.size]? =some (.map (esM z) 6)):=zbC M ac.out s
       have aa:=L.trans s
       clear s
       have Y:=zc (bdO HZ.out I)
       have ab:=zc (zc5 Z.out I)
       go_wp2
       go_roundg (gk-1)
       case rel=>exact⟨S5,a5,Y.out,by have:=ab.out;omega,X,aa,V.out⟩
       case measure=>omega
     |false=>
      cases t3:isT C j.pos 1 zaA with
      |true=>
       have H:zaD C j=stmtI C 5 sNone cSemi (adv j):=by rw[zaD,t0,t1,t2,t3];simp only[Bool.false_eq_true,↓reduceIte]
       have HZ:=zc (ae.out.trans (zc4 hp H))
       have Z:=zc H
       clear H
       rw[zdb t3]
       have ak:=zda U.out (zt4 z)
       go_wp2_with fail
       have M:=ad.out.adv hp
       have L:IS z S w O (w3.setCell ⟨z,1,none⟩ (.int .i64 ((j.pos:Int)+1))):=af.set _ _
       have ac:Hid ((w3.setCell ⟨z,1,none⟩ (.int .i64 ((j.pos:Int)+1))).heap[w.heap.size]? =some (.map (esM z) 6)):=(zn aj).trans U.out
       refine (zjy C gt N A z O (adv j) _ M).mono ?_
       cases I:stmtI C 5 sNone cSemi (adv j) with
       |error p=>
        rintro e w5 ⟨rfl,hb⟩
        have HB:=(h.back L).trans hb
        have HX:Hid (za1 C q= .error p):=bdE HZ.out I
        unfold Pan
        go_wp2
        refine⟨rfl,?_⟩
        rw[HX.out]
        exact⟨rfl,HB⟩
       |ok a5=>
        rintro e w5 ⟨rfl,S5,X,s⟩
        have V:Hid (w5.heap[w.heap.size]? =some (.map (esM z) 6)):=zbC M ac.out s
        have aa:=L.trans s
        clear s
        have Y:=zc (bdO HZ.out I)
        have ab:=zc (zc5 Z.out I)
        go_wp2
        go_roundg (gk-1)
        case rel=>exact⟨S5,a5,Y.out,by have:=ab.out;omega,X,aa,V.out⟩
        case measure=>omega
      |false=>
       cases t4:isT C j.pos 1 zao with
       |true=>
        have H:zaD C j=zaQ C (adv j):=by rw[zaD,t0,t1,t2,t3,t4,hs];simp only[Bool.false_eq_true,↓reduceIte,Bool.false_and,Bool.not_false,Bool.and_self]
        have HZ:=zc (ae.out.trans (zc4 hp H))
        have Z:=zc H
        clear H
        rw[zdb t4]
        have ak:=zda U.out (zt5 z)
        go_wp2_with fail
        have M:=ad.out.adv hp
        have L:IS z S w O (w3.setCell ⟨z,1,none⟩ (.int .i64 ((j.pos:Int)+1))):=af.set _ _
        have ac:Hid ((w3.setCell ⟨z,1,none⟩ (.int .i64 ((j.pos:Int)+1))).heap[w.heap.size]? =some (.map (esM z) 6)):=(zn aj).trans U.out
        refine (zsV C gt N A z O (adv j) _ M hC).mono ?_
        cases I:zaQ C (adv j) with
        |error p=>
         rintro e w5 ⟨rfl,hb⟩
         have HB:=(h.back L).trans hb
         have HX:Hid (za1 C q= .error p):=bdE HZ.out I
         unfold Pan
         go_wp2
         refine⟨rfl,?_⟩
         rw[HX.out]
         exact⟨rfl,HB⟩
        |ok a5=>
         rintro e w5 ⟨rfl,S5,X,s⟩
         have V:Hid (w5.heap[w.heap.size]? =some (.map (esM z) 6)):=zbC M ac.out s
         have aa:=L.trans s
         clear s
         have Y:=zc (bdO HZ.out I)
         have ab:=zc (zc5 Z.out I)
         go_wp2
         go_roundg (gk-1)
         case rel=>exact⟨S5,a5,Y.out,by have:=ab.out;omega,X,aa,V.out⟩
         case measure=>omega
       |false=>
        cases t5:isT C j.pos 1 zaj with
        |true=>
         have H:zaD C j=zay C (adv j):=by rw[zaD,t0,t1,t2,t3,t4,t5,hs];simp only[Bool.false_eq_true,↓reduceIte,Bool.false_and,Bool.not_false,Bool.and_self,Bool.and_false]
         have HZ:=zc (ae.out.trans (zc4 hp H))
         have Z:=zc H
         clear H
         rw[zdb t5]
         have ak:=zda U.out (zt6 z)
         go_wp2_with fail
         have M:=ad.out.adv hp
         have L:IS z S w O (w3.setCell ⟨z,1,none⟩ (.int .i64 ((j.pos:Int)+1))):=af.set _ _
         have ac:Hid ((w3.setCell ⟨z,1,none⟩ (.int .i64 ((j.pos:Int)+1))).heap[w.heap.size]? =some (.map (esM z) 6)):=(zn aj).trans U.out
         refine (zts C gt N A z O (adv j) _ M hC).mono ?_
         cases I:zay C (adv j) with
         |error p=>
          rintro e w5 ⟨rfl,hb⟩
          have HB:=(h.back L).trans hb
          have HX:Hid (za1 C q= .error p):=bdE HZ.out I
          unfold Pan
          go_wp2
          refine⟨rfl,?_⟩
          rw[HX.out]
          exact⟨rfl,HB⟩
         |ok a5=>
          rintro e w5 ⟨rfl,S5,X,s⟩
          have V:Hid (w5.heap[w.heap.size]? =some (.map (esM z) 6)):=zbC M ac.out s
          have aa:=L.trans s
          clear s
          have Y:=zc (bdO HZ.out I)
          have ab:=zc (zc5 Z.out I)
          go_wp2
          go_roundg (gk-1)
          case rel=>exact⟨S5,a5,Y.out,by have:=ab.out;omega,X,aa,V.out⟩
          case measure=>omega
        |false=>
         have H:zaD C j=letJ C 3 j:=by rw[zaD,t0,t1,t2,t3,t4,t5,hs];simp only[Bool.false_eq_true,↓reduceIte,Bool.false_and,Bool.not_false,Bool.and_false]
         have HZ:=zc (ae.out.trans (zc4 hp H))
         have Z:=zc H
         clear H
         obtain⟨vz,ak⟩:=zlK U.out (zt7 z (zcC C j.pos) (zdc t0 (by decide)) (zdc t1 (by decide)) (zdc t2 (by decide)) (zdc t3 (by decide)) (zdc t4 (by decide)) (zdc t5 (by decide)))
         go_wp2_with fail
         refine (zjw C gt N A z O j _ ad.out).mono ?_
         cases I:letJ C 3 j with
         |error p=>
          rintro e w5 ⟨rfl,hb⟩
          have HB:=(h.back af).trans hb
          have HX:Hid (za1 C q= .error p):=bdE HZ.out I
          unfold Pan
          go_wp2
          refine⟨rfl,?_⟩
          rw[HX.out]
          exact⟨rfl,HB⟩
         |ok a5=>
          rintro e w5 ⟨rfl,S5,X,s⟩
          have V:Hid (w5.heap[w.heap.size]? =some (.map (esM z) 6)):=zbC ad.out U.out s
          have aa:=af.trans s
          clear s
          have Y:=zc (bdO HZ.out I)
          have ab:=zc (zc5 Z.out I)
          go_wp2
          go_roundg (gk-1)
          case rel=>exact⟨S5,a5,Y.out,by have:=ab.out;omega,X,aa,V.out⟩
          case measure=>omega
  ·have aE: ¬((j.pos:Int)<(C.ts.length:Int)):=by omega
   go_wp2_with fail
   refine wp_region_quiet_below (by kernel_rfl) (by kernel_rfl) ?_
   repeat (go_big_quiet_step (fail))
   refine wpQuiet_nil ?_
   intro w2 ar
   obtain⟨⟨dq,aF⟩,ag⟩:=ar
   have ah:Below wr.heap.size wr w2:=by show Below _ _ _;rw[ag];exact below_regrown _ _ _
   clear ag k0 k1 C0 C1
   have J:Hid (IM C gt N A z O j w2):=ap.later ah
   have ao:=ay.trans (IS.below ah)
   have aq:Hid (w2.heap[w.heap.size]? =some (.map (esM z) 6)):=zbC ap av.out (IS.below ah)
   have HX:=zc (ae.out.trans (zlQ hp))
   obtain⟨c0,c1,c2,c3,c4,c5,c6,c7,c8,c9,cf⟩:=zag J.out.cells
   have an:=J.out.mem.own.ep
   have aN:=J.out.mem.inv.ep
   have am:=J.out.free
   have ai:=zc am
   clear am
   have aw:=J.out.lt
   rcases J.out.mem.own.la.nil_or with ⟨ha,hc,hn⟩|⟨gl,ha⟩
   ·have HN:=zc (List.eq_nil_of_length_eq_zero hn)
    rw[ha,hc,hn] at c9
    clear ha hc hn
    go_wp2_with fail
    go_region_law (first|(refine zid rfl (.tmp 41) (.tmp 45) 32 rfl 86 i0 Tryz.underlying32 hi A 4 j.ep.length O.ep _ (by rfl) (by exact an) (by rfl) ?_))
    all_goals
     go_wp2
     go_end0
     rw[HX.out]
     refine⟨rfl,O,J.out.mem.wholeI0 HN.out ai.out (fun k hk=>zn hk),⟨.slice (some ⟨gt,0,none⟩) C.ts.length N,.int .i64 j.pos,.int .i64 C.fin,.bool C.scr,.slice O.la.a j.la.length O.la.cap,(zaz J.out.cells).trans (by simp[HN.out])⟩,?_⟩
     exact (h.back (ao.set _ _)).drew
   ·have ax:OwnR w2 A 86 4 ⟨some ⟨gl,0,none⟩,O.la.cap⟩ j.la.length (j.la.flatMap epL):=by have:=J.out.mem.own.la;unfold OwnR at this ⊢;rw[ha] at this;exact this
    rw[ha] at c9
    have aA:=J.out.mem.base
    have aH:Hid (some z≠O.ep.blk):=fun e=>ai.out (.inr (.inr (.inl e.symm)))
    go_wp2_with fail
    go_region_law (first|(refine zic rfl (.tmp 41) (.tmp 45) 32 rfl A 86 i0 _ 4 56 Tryz.underlying32 hi aC aI aG rfl (by decide) (by decide) O.ep j.ep.length _ (by rfl) (by exact an) gl j.la.length O.la.cap A _ (by rfl) (by exact ax) (zgh _) (by omega) (by exact aA) ?_;intro r' wz hr au az;have g2:=(au.block z (by exact aw) aH.out).trans (by exact J.out.cells);obtain⟨d0,d1,d2,d3,d4,d5,d6,d7,d8,d9,df⟩:=zag g2))
    all_goals
     have HR:=zc hr
     have al:=zc au
     have aD:=zc az
     have aq:=zc g2
     clear hr au az g2 c0 c1 c2 c3 c4 c5 c6 c7 c8 c9 cf an ax
     go_wp2
     go_end0
     rw[HX.out]
     refine⟨rfl,{O with ep:=r'},J.out.drew.mem.wholeI al.out HR.out aD.out aw ai.out (fun k hk=>zn hk),⟨.slice (some ⟨gt,0,none⟩) C.ts.length N,.int .i64 j.pos,.int .i64 C.fin,.bool C.scr,.slice O.la.a j.la.length O.la.cap,(zaz aq.out).trans (by simp)⟩,?_⟩
     exact ((h.back ao).trans ⟨al.out.os,al.out.tape,al.out.output,al.out.size,fun k hk=>al.out.block k (show k<w2.heap.size by omega) (fun e=>by have:=(J.out.mem.own.ep.typed e.symm).1;omega)⟩).setCell J.out.ge _
end Go.Proofs.YtjdddblpfbmpaaaGreat
