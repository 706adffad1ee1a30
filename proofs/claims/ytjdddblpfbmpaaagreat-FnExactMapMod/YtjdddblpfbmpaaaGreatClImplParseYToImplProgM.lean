/-
  The table of items of impl's parser: what is stored in it,what is looked up.
  What the items of impl's parser read is what the items of the document are. No program is spoken of.
  What program of impl's parser answers: the walks.
  What program of impl's parser answers of a module: the walk.
-/
import Derived.Maps.Own
import Derived.Test.YtjdddblpfbmpaaaGreatClImplParseVToImplParseX
namespace Go.Proofs.YtjdddblpfbmpaaaGreat
set_option maxRecDepth 100000
set_option maxHeartbeats 3200000
open Go.RowKit Go.PlainAid Go.Sort Go.Maps Go.ChangeMaps
def eM (gp:Nat) (k:ByteArray) (f b:Nat):MapEntry:=⟨.string k,.func (.func f) #[.pointer (some ⟨gp,0,none⟩)] #[],b⟩
def esS (gp:Nat):Array MapEntry:=#[eM gp zE 186 0,eM gp zT 187 1,eM gp zay 188 2,eM gp zaA 189 3,eM gp zbR 190 4]
def esM (gp:Nat):Array MapEntry:=#[eM gp zE 186 0,eM gp zT 187 1,eM gp zay 188 2,eM gp zaA 189 3,eM gp zan 191 4,eM gp zal 192 5]
theorem zhQ (b:Bool) (k:ByteArray) (W:World):(Instr.checkKey b 10000 9 (.string k)).run Tryz.prog W= .ok () W:=by
 show (Instr.checkKey b (9999+1) 9 (.string k)).run Tryz.prog W= .ok () W
 rw[Instr.checkKey]
 simp[run_underlying Tryz.underlying9]
theorem zhR {k:ByteArray} {h:List MapEntry} {r:Option (Nat×Value)} (j:Instr.findNow .string (.string k) h 0=some r) (W:World):(Instr.findKey 9 (.string k) h).run Tryz.prog W= .ok r W:=by
 simp[Instr.findKey,run_underlying Tryz.underlying9,j]
theorem zcR {W w0:World} {B g c:Nat} {j:Array MapEntry} {k:ByteArray} {v:Value} (w:W.heap[g]? =some (.map j c)) (A:Instr.findNow .string (.string k) j.toList 0=some none) (h:Below B w0 W) (I:B≤g):
  ∃z,(Instr.mapUpdate 194 (.map (some g)) (.string k) v).run Tryz.prog W= .ok () z∧z.heap[g]? =some (.map (j.push ⟨.string k,v,c⟩) (c+1))∧Below B w0 z:=by
 refine⟨setBlock W g (.map (j.push ⟨.string k,v,c⟩) (c+1)),?_,heap_setBlock_same w _,⟨h.os,h.tape,h.output,by simpa [setBlock] using h.size,fun i H=>(heap_setBlock_other w _ (by omega)).trans (h.block i H)⟩⟩
 simp[Instr.mapUpdate,run_underlying Tryz.underlying194,MapKept.run_getObj_map w,zhQ,zhR A,MapKept.run_setObj_map _ w,Result.andThen,setBlock]
theorem zcS {W:World} {g c i:Nat} {h:Array MapEntry} {k:ByteArray} {v:Value} (j:W.heap[g]? =some (.map h c)) (w:Instr.findNow .string (.string k) h.toList 0=some (some (i,v))):
  (Instr.lookup 194 (.map (some g)) (.string k) true).run Tryz.prog W= .ok (.tuple #[v,.bool true]) W:=by
 simp[Instr.lookup,run_underlying Tryz.underlying194,MapKept.run_getObj_map j,zhQ,zhR w,Result.andThen]
theorem zlj {W:World} {g c:Nat} {j:Array MapEntry} {k:ByteArray} (w:W.heap[g]? =some (.map j c)) (z:Instr.findNow .string (.string k) j.toList 0=some none):
  ∃v,(Instr.lookup 194 (.map (some g)) (.string k) true).run Tryz.prog W= .ok (.tuple #[v,.bool false]) W:=by
 have h: ∃v,(zeroValue 1).run Tryz.prog W= .ok v W:=⟨.nilFunc,by kernel_rfl⟩
 obtain⟨v,h⟩:=h
 exact⟨v,by simp[Instr.lookup,run_underlying Tryz.underlying194,MapKept.run_getObj_map w,zhQ,zhR z,Result.andThen,h]⟩
theorem ztj (C:Cx) (gt j A z:Nat) (S:Sv) (q:PS) (w:World) (h:IM C gt j A z S q w) (hs:C.scr=true):
  Calls Tryz.prog 163 #[.pointer (some ⟨z,0,none⟩)] w fun e w'=>e= .returned (.map (some w.heap.size))∧w'.heap[w.heap.size]? =some (.map (esS z) 5)∧Below w.heap.size w w':=by
 have HH:=zc h
 have Z:=@run_makeMap Tryz.prog
 have aa: ∀(U:Fn) (first j:Array Value) (w:World),(Instr.makeFunc U first j).run Tryz.prog w= .ok (.func U first j) w:=fun _ _ _ _=>rfl
 obtain⟨W1,r1,O,I⟩:=zcR (k:=zE) (v:=.func (.func 186) #[.pointer (some ⟨z,0,none⟩)] #[]) (heap_alloc_new w (.map #[] 0)) rfl ((Below.refl w.heap.size w).alloc (Nat.le_refl _) _) (Nat.le_refl _)
 obtain⟨W2,r2,M,V⟩:=zcR (k:=zT) (v:=.func (.func 187) #[.pointer (some ⟨z,0,none⟩)] #[]) O rfl I (Nat.le_refl _)
 obtain⟨W3,r3,Y,L⟩:=zcR (k:=zay) (v:=.func (.func 188) #[.pointer (some ⟨z,0,none⟩)] #[]) M rfl V (Nat.le_refl _)
 obtain⟨W4,r4,N,H⟩:=zcR (k:=zaA) (v:=.func (.func 189) #[.pointer (some ⟨z,0,none⟩)] #[]) Y rfl L (Nat.le_refl _)
 obtain⟨W5,r5,X,J⟩:=zcR (k:=zbR) (v:=.func (.func 190) #[.pointer (some ⟨z,0,none⟩)] #[]) N rfl H (Nat.le_refl _)
 have G:=zc X
 have B:=zc J
 obtain⟨_,_,_,c3,_,_,_,_,_,_,cf⟩:=zah (HH.out.later H).cells
 rw[hs] at c3
 clear h O I M V Y L N H X J
 go_enter Tryz.func163,Tryz.ntmps163
 go_wp2
 go_ret
 exact⟨rfl,G.out,B.out⟩
theorem ztk (h:Nat):Instr.findNow .string (.string zE) (esS h).toList 0=some (some (0,.func (.func 186) #[.pointer (some ⟨h,0,none⟩)] #[])):=by rfl
theorem ztl (h:Nat):Instr.findNow .string (.string zT) (esS h).toList 0=some (some (1,.func (.func 187) #[.pointer (some ⟨h,0,none⟩)] #[])):=by rfl
theorem ztm (h:Nat):Instr.findNow .string (.string zay) (esS h).toList 0=some (some (2,.func (.func 188) #[.pointer (some ⟨h,0,none⟩)] #[])):=by rfl
theorem ztn (h:Nat):Instr.findNow .string (.string zaA) (esS h).toList 0=some (some (3,.func (.func 189) #[.pointer (some ⟨h,0,none⟩)] #[])):=by rfl
theorem zto (h:Nat):Instr.findNow .string (.string zbR) (esS h).toList 0=some (some (4,.func (.func 190) #[.pointer (some ⟨h,0,none⟩)] #[])):=by rfl
theorem ztp (h:Nat) (x:ByteArray) (A:(x==zE)=false) (z:(x==zT)=false) (j:(x==zay)=false) (H:(x==zaA)=false) (w:(x==zbR)=false):Instr.findNow .string (.string x) (esS h).toList 0=some none:=by
 simp[esS,eM,Instr.findNow,Instr.sameNow,A,z,j,H,w]
theorem ztq (C:Cx) (gt z A j:Nat) (S:Sv) (q:PS) (w:World) (h:IM C gt z A j S q w) (hs:C.scr=false):
  Calls Tryz.prog 163 #[.pointer (some ⟨j,0,none⟩)] w fun e w'=>e= .returned (.map (some w.heap.size))∧w'.heap[w.heap.size]? =some (.map (esM j) 6)∧Below w.heap.size w w':=by
 have HH:=zc h
 have aa:=@run_makeMap Tryz.prog
 have ab: ∀(X:Fn) (first z:Array Value) (w:World),(Instr.makeFunc X first z).run Tryz.prog w= .ok (.func X first z) w:=fun _ _ _ _=>rfl
 obtain⟨W1,r1,V,J⟩:=zcR (k:=zE) (v:=.func (.func 186) #[.pointer (some ⟨j,0,none⟩)] #[]) (heap_alloc_new w (.map #[] 0)) rfl ((Below.refl w.heap.size w).alloc (Nat.le_refl _) _) (Nat.le_refl _)
 obtain⟨W2,r2,O,Y⟩:=zcR (k:=zT) (v:=.func (.func 187) #[.pointer (some ⟨j,0,none⟩)] #[]) V rfl J (Nat.le_refl _)
 obtain⟨W3,r3,g3,N⟩:=zcR (k:=zay) (v:=.func (.func 188) #[.pointer (some ⟨j,0,none⟩)] #[]) O rfl Y (Nat.le_refl _)
 obtain⟨W4,r4,U,H⟩:=zcR (k:=zaA) (v:=.func (.func 189) #[.pointer (some ⟨j,0,none⟩)] #[]) g3 rfl N (Nat.le_refl _)
 obtain⟨W5,r5,Z,L⟩:=zcR (k:=zan) (v:=.func (.func 191) #[.pointer (some ⟨j,0,none⟩)] #[]) U rfl H (Nat.le_refl _)
 obtain⟨W6,r6,I,M⟩:=zcR (k:=zal) (v:=.func (.func 192) #[.pointer (some ⟨j,0,none⟩)] #[]) Z rfl L (Nat.le_refl _)
 have G:=zc I
 have B:=zc M
 obtain⟨_,_,_,c3,_,_,_,_,_,_,cf⟩:=zah (HH.out.later H).cells
 rw[hs] at c3
 clear h V J O Y g3 N U H Z L I M
 go_enter Tryz.func163,Tryz.ntmps163
 go_wp2
 go_ret
 exact⟨rfl,G.out,B.out⟩
theorem ztr (h:Nat):Instr.findNow .string (.string zE) (esM h).toList 0=some (some (0,.func (.func 186) #[.pointer (some ⟨h,0,none⟩)] #[])):=by rfl
theorem zts (h:Nat):Instr.findNow .string (.string zT) (esM h).toList 0=some (some (1,.func (.func 187) #[.pointer (some ⟨h,0,none⟩)] #[])):=by rfl
theorem ztt (h:Nat):Instr.findNow .string (.string zay) (esM h).toList 0=some (some (2,.func (.func 188) #[.pointer (some ⟨h,0,none⟩)] #[])):=by rfl
theorem ztu (h:Nat):Instr.findNow .string (.string zaA) (esM h).toList 0=some (some (3,.func (.func 189) #[.pointer (some ⟨h,0,none⟩)] #[])):=by rfl
theorem ztv (h:Nat):Instr.findNow .string (.string zan) (esM h).toList 0=some (some (4,.func (.func 191) #[.pointer (some ⟨h,0,none⟩)] #[])):=by rfl
theorem ztw (h:Nat):Instr.findNow .string (.string zal) (esM h).toList 0=some (some (5,.func (.func 192) #[.pointer (some ⟨h,0,none⟩)] #[])):=by rfl
theorem ztx (h:Nat) (x:ByteArray) (H:(x==zE)=false) (z:(x==zT)=false) (j:(x==zay)=false) (I:(x==zaA)=false) (w:(x==zan)=false) (A:(x==zal)=false):Instr.findNow .string (.string x) (esM h).toList 0=some none:=by
 simp[esM,eM,Instr.findNow,Instr.sameNow,H,z,j,I,w,A]
def zaE (C:Cx) (q:PS):PR:=
 if isT C q.pos 1 zE then letJ C 1 (adv q)
 else if isT C q.pos 1 zT then fnI C (adv q)
 else if isT C q.pos 1 zay then printI C (adv q)
 else if isT C q.pos 1 zaA then stmtI C 5 sNone cSemi (adv q)
 else if C.scr&&isT C q.pos 1 zbR then stmtI C 6 sNone cSemi (adv q)
 else if !C.scr&&isT C q.pos 1 zan then zaQ C (adv q)
 else if !C.scr&&isT C q.pos 1 zal then zax C (adv q)
 else letJ C 3 q
theorem zty (C:Cx) (k:Int) (n:ByteArray) (q:PS):stmtI C k n cSemi q=bd (bd (bd (pE C .sum 0 q) (ze C 4 cSemi)) (zW C k n)) .ok:=by
 rw[ze3,zO,stmtI]
 refine zag fun a _=>?_
 rw[show zaH C cSemi cSemi.size 0 a=ze C 4 cSemi a from ziN C 59 a]
theorem zeH (C:Cx) (k:Int) (n:ByteArray) (q:PS):bd (bd (pE C .sum 0 q) (ze C 4 cSemi)) (zW C k n)=stmtI C k n cSemi q:=by rw[zty,ze3]
theorem ztz (C:Cx) (k:Int) (n:ByteArray) (q:PS):bd (bd (bd (pE C .sum 0 q) (ze C 4 za8)) (ze C 4 cSemi)) (zW C k n)=stmtI C k n cShutSemi q:=by
 rw[zO,zO,stmtI]
 refine zag fun a _=>?_
 rw[show zaH C cShutSemi cShutSemi.size 0 a=bd (ze C 4 za8 a) (ze C 4 cSemi) from ziO C 41 59 a,zO]
theorem zt0 (C:Cx) (k:Int) (n:ByteArray) (q:PS):bd (bd (bd (pE C .sum 0 q) (ze C 4 cSemi)) (ze C 4 zbz)) (zW C k n)=stmtI C k n cSemiRight q:=by
 rw[zO,zO,stmtI]
 refine zag fun a _=>?_
 rw[show zaH C cSemiRight cSemiRight.size 0 a=bd (ze C 4 cSemi a) (ze C 4 zbz) from ziO C 59 125 a,zO]
theorem zlk {C:Cx} {q:PS} (h:isT C q.pos 1 zE=true):zcJ C q=bd (letJ C 1 (adv q)) fun a=>.ok (a,(zf C (q.pos+1)).text):=by
 rw[zcJ,withN,zcc h,zB,letJ,zO]
 refine zag fun a j=>?_
 rw[zO,zB,zO,zO,zO]
 refine zag fun b _=>?_
 rw[←zO,←zO,zeH,(zb0 j).1]
 rfl
theorem zll {C:Cx} {q:PS} (h:isT C q.pos 1 zT=true):fnP C q=bd (fnI C (adv q)) fun a=>.ok (a,(zf C (q.pos+1)).text):=by
 rw[fnP,withN,zcc h,zB,fnI,zO]
 refine zag fun a j=>?_
 rw[show zaH C cCall cCall.size 0 a.1=bd (ze C 4 zr a.1) fun a=>bd (ze C 4 za8 a) (ze C 4 zL) from zmT C 40 41 123 a.1,zO,zO,zB]
 rw[(zb0 j).1]
 simp only[zO,←zt0]
 rfl
theorem zlm (x:PR) (n:ByteArray):zaS (bd x fun a=>.ok (a,n))=x:=by rw[zaS,zO];exact ze3 x
theorem zhS (C:Cx) (l:List Ep) (q:PS):impFromI C l q=bd (zbg C (zaL C (.ok q))) fun b=>zX (fun e=>zao C (zcb b.2 e)) l (.ok b.1):=by
 rw[impFromI,zbg,zaL,zB,zO,zO]
 refine zag fun a _=>zag fun b _=>?_
 rw[zO]
 rfl
theorem zt1 {C:Cx} {q:PS} (h:isT C q.pos 1 zan=true):zaY C q=zaQ C (adv q):=by
 rw[zaY,zcc h,zB,zaQ]
 cases H:isT C (adv q).pos 4 zL with
 |true=>
  have j:((zf C (adv q).pos).kind==3)=false:=by
   have:=zfX H
   rw[beq_iff_eq] at this
   rw[this]
   rfl
  rw[j]
  simp only[Bool.false_eq_true,↓reduceIte]
  rw[zcY,zcc H,zB]
  refine zag fun a _=>?_
  rw[zhS]
 |false=>
  cases A:isT C (adv q).pos 4 zz with
  |true=>
   have j:((zf C (adv q).pos).kind==3)=false:=by
    have:=zfX A
    rw[beq_iff_eq] at this
    rw[this]
    rfl
   rw[j]
   simp only[Bool.false_eq_true,↓reduceIte]
   rw[zcc A,zB,zO]
   refine zag fun a _=>zag fun b _=>?_
   rw[zhS]
   rfl
  |false=>
   cases z:zF C (adv q).pos false with
   |true=>
    have j:((zf C (adv q).pos).kind==3)=false:=by
     have w:=z
     simp only[zF,Bool.and_eq_true,beq_iff_eq] at w
     rw[w.1]
     rfl
    rw[j]
    simp only[Bool.false_eq_true,↓reduceIte]
    refine zag fun a _=>?_
    rw[zhS]
    rfl
   |false=>
    cases j:((zf C (adv q).pos).kind==3) with
    |true=>simp only[Bool.false_eq_true,↓reduceIte]
    |false=>
     simp only[Bool.false_eq_true,↓reduceIte]
     rw[zJ,j,zo,z]
     rfl
theorem zt2 (C:Cx) (l:List Ep) (q:PS) (h:isT C q.pos 1 zU=false) (j:zaG l=false):zaD C l q=bd (ze C 4 cSemi q) fun q=>zX (fun e=>zs C (zD e)) l (.ok q):=by rw[zaD,h,j];rfl
theorem zln (C:Cx) (l:List Ep) (q:PS) (h:(isT C q.pos 1 zU||zaG l)=true):zaD C l q=bd (zbg C (zaL C (.ok q))) fun b=>zX (fun e=>zs C (zav b.2 e)) l (.ok b.1):=by
 rw[zaD,h,if_pos rfl,zbg,zaL,zB,zO,zO]
 refine zag fun a _=>zag fun b _=>?_
 rw[zO]
 rfl
theorem zt3 {C:Cx} {q:PS} (h:isT C q.pos 1 zal=true):zap C q=zax C (adv q):=by
 rw[zap,zcc h,zB,zax]
 cases H:isT C (adv q).pos 4 zL with
 |true=>
  simp only[↓reduceIte]
  rw[zcY,zcc H,zB]
  refine zag fun a _=>?_
  cases w:isT C a.1.pos 1 zU with
  |true=>rw[zln C a.2 a.1 (by rw[w];rfl),if_neg (by simp)]
  |false=>
   cases j:zaG a.2 with
   |true=>rw[zln C a.2 a.1 (by rw[j];simp),if_neg (by simp)]
   |false=>rw[zt2 C a.2 a.1 w j,if_pos (by simp)]
 |false=>
  cases z:isT C (adv q).pos 4 zz with
  |true=>
   simp only[Bool.false_eq_true,↓reduceIte]
   rw[zcc z,zbg,zaL,zB,zO,zO]
   refine zag fun a _=>zag fun b _=>?_
   rw[zO]
   rfl
  |false=>
   cases J:isT C (adv q).pos 1 sDefault with
   |true=>
    simp only[Bool.false_eq_true,↓reduceIte]
    rw[zcc J,zB,zeH]
   |false=>
    cases A:isT C (adv q).pos 1 zE with
    |true=>
     simp only[Bool.false_eq_true,↓reduceIte]
     rw[zlk A,zO]
     rfl
    |false=>
     cases I:isT C (adv q).pos 1 zT with
     |true=>
      simp only[Bool.false_eq_true,↓reduceIte]
      rw[zll I,zO]
      rfl
     |false=>simp only[Bool.false_eq_true,↓reduceIte]
theorem zdG {C:Cx} {i:Nat} {x y:ByteArray} (h:isT C i 1 x=true) (j:(x.toList==y.toList)=false):isT C i 1 y=false:=by
 have e:=zhi h
 rw[isT,e,j]
 simp
theorem zlo (C:Cx) (q:PS):zaE C q=zC C q:=by
 rw[zaE,zC]
 cases w:isT C q.pos 1 zE with
 |true=>
  rw[zdG w (y:=zan) (by simp),zdG w (y:=zal) (by simp)]
  simp only[Bool.false_eq_true,↓reduceIte,Bool.and_false]
  rw[zlk w,zlm]
 |false=>
  cases h:isT C q.pos 1 zT with
  |true=>
   rw[zdG h (y:=zan) (by simp),zdG h (y:=zal) (by simp)]
   simp only[Bool.false_eq_true,↓reduceIte,Bool.and_false]
   rw[zll h,zlm]
  |false=>
   cases z:isT C q.pos 1 zay with
   |true=>
    rw[zdG z (y:=zan) (by simp),zdG z (y:=zal) (by simp)]
    simp only[Bool.false_eq_true,↓reduceIte,Bool.and_false]
    rw[zcc z,zB,printI,zO,zO,zO]
    refine zag fun a _=>?_
    rw[←ztz,zO,zO]
   |false=>
    cases j:isT C q.pos 1 zaA with
    |true=>
     rw[zdG j (y:=zan) (by simp),zdG j (y:=zal) (by simp)]
     simp only[Bool.false_eq_true,↓reduceIte,Bool.and_false]
     rw[zcc j,zB,zeH]
    |false=>
     cases J:C.scr with
     |true=>
      cases I:isT C q.pos 1 zbR with
      |true=>
       simp only[Bool.false_eq_true,↓reduceIte,Bool.not_true,Bool.false_and,Bool.and_self]
       rw[zcc I,zB,zeH]
      |false=>
       simp only[Bool.false_eq_true,↓reduceIte,Bool.not_true,Bool.false_and,Bool.and_false]
       rw[letJ]
       refine zag fun a _=>?_
       rw[zO,zO]
       refine zag fun b _=>?_
       rw[←zO,zeH]
     |false=>
      cases A:isT C q.pos 1 zan with
      |true=>
       simp only[Bool.false_eq_true,↓reduceIte,Bool.not_false,Bool.false_and,Bool.and_self]
       rw[zt1 A]
      |false=>
       cases H:isT C q.pos 1 zal with
       |true=>
        simp only[Bool.false_eq_true,↓reduceIte,Bool.not_false,Bool.false_and,Bool.and_self,Bool.and_false]
        rw[zt3 H]
       |false=>
        simp only[Bool.false_eq_true,↓reduceIte,Bool.not_false,Bool.false_and,Bool.and_false]
        rw[letJ]
        refine zag fun a _=>?_
        rw[zO,zO]
        refine zag fun b _=>?_
        rw[←zO,zeH]
theorem zcT {C:Cx} {i:Nat} {k:ByteArray} (h:isT C i 1 k=true):zcC C i=k:=by
 rw[zcC,zfX h,zhi h]
 rfl
theorem zcU {C:Cx} {i:Nat} {k:ByteArray} (h:isT C i 1 k=false) (w:sNone≠k):(zcC C i==k)=false:=by
 rw[Bool.eq_false_iff]
 intro e
 rw[MapKept.bytes_beq] at e
 cases j:((zf C i).kind==1) with
 |false=>
  rw[zcC,j] at e
  exact w e
 |true=>
  rw[zcC,j,if_pos rfl] at e
  rw[isT,j,e] at h
  simp at h
theorem zbA {C:Cx} {I z w A g c:Nat} {S S':Sv} {q:PS} {W w':World} {H:Array MapEntry} (h:IM C I z w A S q W) (j:W.heap[g]? =some (.map H c)) (s:IS A S W S' w'):w'.heap[g]? =some (.map H c):=by
 refine (s.block g (Array.getElem?_eq_some_iff.1 j).1 (fun k=>?_) (fun e=>?_)).trans j
 ·rcases k with k|k|k|k|k|k
  ·obtain⟨_,_,c,e⟩:=h.mem.own.rq.typed k
   rw[j] at e;cases e
  ·obtain⟨_,_,c,e⟩:=h.mem.own.im.typed k
   rw[j] at e;cases e
  ·obtain⟨_,_,c,e⟩:=h.mem.own.ep.typed k
   rw[j] at e;cases e
  ·obtain⟨_,_,c,e⟩:=h.mem.own.st.typed k
   rw[j] at e;cases e
  ·obtain⟨_,_,c,e⟩:=h.mem.own.ex.typed k
   rw[j] at e;cases e
  ·obtain⟨_,_,c,e⟩:=h.mem.own.la.typed k
   rw[j] at e;cases e
 ·have:=h.cells
  rw[←e,j] at this
  cases this
theorem zc6 {C:Cx} {q:PS} {y:PR} (h:q.pos<C.ts.length) (j:zaE C q=y):zaz C q=bd y (zaz C):=by rw[zfK,if_pos h,←zlo,j]
theorem zlp {C:Cx} {q:PS} (h: ¬q.pos<C.ts.length):zaz C q= .ok q:=by rw[zfK,if_neg h]
theorem zc7 {C:Cx} {q a:PS} {y:PR} (j:zaE C q=y) (h:y= .ok a):q.pos<a.pos:=zfJ (by rw[←zlo,j,h])
def zhT (base gp:Nat) (y:PR) (w:World) (e:Ending) (w':World):Prop:=
 match y with
 | .ok q=>e= .returned (.tuple #[])∧∃S,OwnMod w' base S q∧(∃v0 v1 v2 v3 v9,w'.heap[gp]? =some (.cells #[v0,v1,v2,v3,.slice S.rq.a q.rq.length S.rq.cap,.slice S.im.a q.im.length S.im.cap,.slice S.ep.a (q.ep++q.la).length S.ep.cap,.slice S.st.a q.st.length S.st.cap,.slice S.ex.a q.ex.length S.ex.cap,v9] 160 (0,0)))∧Below base w w'
 | .error p=>e=Pan p∧Below base w w'
theorem zt4 (C:Cx) (gt L A z:Nat) (S:Sv) (q:PS) (w:World) (h:IM C gt L A z S q w) (hs:C.scr=true):
  Calls Tryz.prog 120 #[.pointer (some ⟨z,0,none⟩)] w (zhT A z (zaz C q) w):=by
 obtain⟨i0,hi,aC,aI,aG⟩:=info_parts Tryz.infoExp
 go_enter Tryz.func120,Tryz.ntmps120
 go_wp2_with fail
 refine (ztj C gt L A z S q _ h hs).mono ?_
 rintro e w1 ⟨rfl,hg,hb⟩
 have aJ:=h.later hb
 have aB:IS z S w S w1:=IS.below hb
 have aK:=zc hg
 clear hg hb
 go_wp2
 go_loopg [] (C.ts.length+1) (fun k wr=>∃(O:Sv) (j:PS),zaz C q=zaz C j∧C.ts.length-j.pos<k∧IM C gt L A z O j wr∧IS z S w O wr∧wr.heap[w.heap.size]? =some (.map (esS z) 5))
 case atStart=>exact⟨S,q,rfl,by omega,aJ,aB,aK.out⟩
 case round=>
  obtain⟨O,j,hy,hk,m',s',g'⟩:=hrel
  have af:=zc hy
  have ap:=m'
  have ay:=s'
  have av:Hid (wr.heap[w.heap.size]? =some (.map (esS z) 5)):=g'
  obtain⟨c0,c1,_,_,_,_,_,_,_,_,_⟩:=zah m'.cells
  have C0:=zc c0
  have C1:=zc c1
  have aM:=m'.mem.inv.pos
  have aL:=m'.mem.few
  clear hy m' s' g' c0 c1
  have k0:=cell_regrown C0.out
  have k1:=cell_regrown C1.out
  by_cases hp:j.pos<C.ts.length
  ·have aE:((j.pos:Int)<(C.ts.length:Int)):=by omega
   go_wp2_with fail
   refine wp_region_quiet_below (by kernel_rfl) (by kernel_rfl) ?_
   repeat (go_big_quiet_step (fail))
   refine wpQuiet_nil ?_
   intro w2 ar
   obtain⟨⟨dq,aF⟩,ad⟩:=ar
   have ah:Below wr.heap.size wr w2:=by show Below _ _ _;rw[ad];exact below_regrown _ _ _
   clear ad k0 k1 C0 C1
   have J:Hid (IM C gt L A z O j w2):=ap.later ah
   have ao:=ay.trans (IS.below ah)
   have aq:Hid (w2.heap[w.heap.size]? =some (.map (esS z) 5)):=zbA ap av.out (IS.below ah)
   go_wp2_with fail
   refine (ziW C gt L A z O j _ J.out).mono ?_
   rintro e w3 ⟨rfl,hb⟩
   have ae:Hid (IM C gt L A z O j w3):=J.out.later hb
   have ag:=ao.trans (IS.below hb)
   have U:Hid (w3.heap[w.heap.size]? =some (.map (esS z) 5)):=zbA J.out aq.out (IS.below hb)
   clear hb
   have ak:w.heap.size≠z:=by have:=h.lt;omega
   obtain⟨c0,c1,c2,c3,c4,c5,c6,c7,c8,c9,cf⟩:=zah ae.out.cells
   cases t0:isT C j.pos 1 zE with
   |true=>
    have H:zaE C j=letJ C 1 (adv j):=by rw[zaE,t0];rfl
    have HZ:=zc (af.out.trans (zc6 hp H))
    have Z:=zc H
    clear H
    rw[zcT t0]
    have al:=zcS U.out (ztk z)
    go_wp2_with fail
    have N:=ae.out.adv hp
    have M:IS z S w O (w3.setCell ⟨z,1,none⟩ (.int .i64 ((j.pos:Int)+1))):=ag.set _ _
    have ac:Hid ((w3.setCell ⟨z,1,none⟩ (.int .i64 ((j.pos:Int)+1))).heap[w.heap.size]? =some (.map (esS z) 5)):=(zx ak).trans U.out
    refine (zhk C gt L A z O (adv j) _ N).mono ?_
    cases I:letJ C 1 (adv j) with
    |error p=>
     rintro e w5 ⟨rfl,hb⟩
     have HB:=(h.back M).trans hb
     have HX:Hid (zaz C q= .error p):=bdE HZ.out I
     unfold Pan
     go_wp2
     refine⟨rfl,?_⟩
     rw[HX.out]
     exact⟨rfl,HB⟩
    |ok a5=>
     rintro e w5 ⟨rfl,S5,X,s⟩
     have V:Hid (w5.heap[w.heap.size]? =some (.map (esS z) 5)):=zbA N ac.out s
     have aa:=M.trans s
     clear s
     have Y:=zc (bdO HZ.out I)
     have ab:=zc (zc7 Z.out I)
     go_wp2
     go_roundg (gk-1)
     case rel=>exact⟨S5,a5,Y.out,by have:=ab.out;omega,X,aa,V.out⟩
     case measure=>omega
   |false=>
    cases t1:isT C j.pos 1 zT with
    |true=>
     have H:zaE C j=fnI C (adv j):=by rw[zaE,t0,t1];simp only[Bool.false_eq_true,↓reduceIte]
     have HZ:=zc (af.out.trans (zc6 hp H))
     have Z:=zc H
     clear H
     rw[zcT t1]
     have al:=zcS U.out (ztl z)
     go_wp2_with fail
     have N:=ae.out.adv hp
     have M:IS z S w O (w3.setCell ⟨z,1,none⟩ (.int .i64 ((j.pos:Int)+1))):=ag.set _ _
     have ac:Hid ((w3.setCell ⟨z,1,none⟩ (.int .i64 ((j.pos:Int)+1))).heap[w.heap.size]? =some (.map (esS z) 5)):=(zx ak).trans U.out
     refine (zhl C gt L A z O (adv j) _ N).mono ?_
     cases I:fnI C (adv j) with
     |error p=>
      rintro e w5 ⟨rfl,hb⟩
      have HB:=(h.back M).trans hb
      have HX:Hid (zaz C q= .error p):=bdE HZ.out I
      unfold Pan
      go_wp2
      refine⟨rfl,?_⟩
      rw[HX.out]
      exact⟨rfl,HB⟩
     |ok a5=>
      rintro e w5 ⟨rfl,S5,X,s⟩
      have V:Hid (w5.heap[w.heap.size]? =some (.map (esS z) 5)):=zbA N ac.out s
      have aa:=M.trans s
      clear s
      have Y:=zc (bdO HZ.out I)
      have ab:=zc (zc7 Z.out I)
      go_wp2
      go_roundg (gk-1)
      case rel=>exact⟨S5,a5,Y.out,by have:=ab.out;omega,X,aa,V.out⟩
      case measure=>omega
    |false=>
     cases t2:isT C j.pos 1 zay with
     |true=>
      have H:zaE C j=printI C (adv j):=by rw[zaE,t0,t1,t2];simp only[Bool.false_eq_true,↓reduceIte]
      have HZ:=zc (af.out.trans (zc6 hp H))
      have Z:=zc H
      clear H
      rw[zcT t2]
      have al:=zcS U.out (ztm z)
      go_wp2_with fail
      have N:=ae.out.adv hp
      have M:IS z S w O (w3.setCell ⟨z,1,none⟩ (.int .i64 ((j.pos:Int)+1))):=ag.set _ _
      have ac:Hid ((w3.setCell ⟨z,1,none⟩ (.int .i64 ((j.pos:Int)+1))).heap[w.heap.size]? =some (.map (esS z) 5)):=(zx ak).trans U.out
      refine (ziU C gt L A z O (adv j) _ N).mono ?_
      cases I:printI C (adv j) with
      |error p=>
       rintro e w5 ⟨rfl,hb⟩
       have HB:=(h.back M).trans hb
       have HX:Hid (zaz C q= .error p):=bdE HZ.out I
       unfold Pan
       go_wp2
       refine⟨rfl,?_⟩
       rw[HX.out]
       exact⟨rfl,HB⟩
      |ok a5=>
       rintro e w5 ⟨rfl,S5,X,s⟩
       have V:Hid (w5.heap[w.heap.size]? =some (.map (esS z) 5)):=zbA N ac.out s
       have aa:=M.trans s
       clear s
       have Y:=zc (bdO HZ.out I)
       have ab:=zc (zc7 Z.out I)
       go_wp2
       go_roundg (gk-1)
       case rel=>exact⟨S5,a5,Y.out,by have:=ab.out;omega,X,aa,V.out⟩
       case measure=>omega
     |false=>
      cases t3:isT C j.pos 1 zaA with
      |true=>
       have H:zaE C j=stmtI C 5 sNone cSemi (adv j):=by rw[zaE,t0,t1,t2,t3];simp only[Bool.false_eq_true,↓reduceIte]
       have HZ:=zc (af.out.trans (zc6 hp H))
       have Z:=zc H
       clear H
       rw[zcT t3]
       have al:=zcS U.out (ztn z)
       go_wp2_with fail
       have N:=ae.out.adv hp
       have M:IS z S w O (w3.setCell ⟨z,1,none⟩ (.int .i64 ((j.pos:Int)+1))):=ag.set _ _
       have ac:Hid ((w3.setCell ⟨z,1,none⟩ (.int .i64 ((j.pos:Int)+1))).heap[w.heap.size]? =some (.map (esS z) 5)):=(zx ak).trans U.out
       refine (ziV C gt L A z O (adv j) _ N).mono ?_
       cases I:stmtI C 5 sNone cSemi (adv j) with
       |error p=>
        rintro e w5 ⟨rfl,hb⟩
        have HB:=(h.back M).trans hb
        have HX:Hid (zaz C q= .error p):=bdE HZ.out I
        unfold Pan
        go_wp2
        refine⟨rfl,?_⟩
        rw[HX.out]
        exact⟨rfl,HB⟩
       |ok a5=>
        rintro e w5 ⟨rfl,S5,X,s⟩
        have V:Hid (w5.heap[w.heap.size]? =some (.map (esS z) 5)):=zbA N ac.out s
        have aa:=M.trans s
        clear s
        have Y:=zc (bdO HZ.out I)
        have ab:=zc (zc7 Z.out I)
        go_wp2
        go_roundg (gk-1)
        case rel=>exact⟨S5,a5,Y.out,by have:=ab.out;omega,X,aa,V.out⟩
        case measure=>omega
      |false=>
       cases t4:isT C j.pos 1 zbR with
       |true=>
        have H:zaE C j=stmtI C 6 sNone cSemi (adv j):=by rw[zaE,t0,t1,t2,t3,t4,hs];simp only[Bool.false_eq_true,↓reduceIte,Bool.and_self]
        have HZ:=zc (af.out.trans (zc6 hp H))
        have Z:=zc H
        clear H
        rw[zcT t4]
        have al:=zcS U.out (zto z)
        go_wp2_with fail
        have N:=ae.out.adv hp
        have M:IS z S w O (w3.setCell ⟨z,1,none⟩ (.int .i64 ((j.pos:Int)+1))):=ag.set _ _
        have ac:Hid ((w3.setCell ⟨z,1,none⟩ (.int .i64 ((j.pos:Int)+1))).heap[w.heap.size]? =some (.map (esS z) 5)):=(zx ak).trans U.out
        refine (znq C gt L A z O (adv j) _ N).mono ?_
        cases I:stmtI C 6 sNone cSemi (adv j) with
        |error p=>
         rintro e w5 ⟨rfl,hb⟩
         have HB:=(h.back M).trans hb
         have HX:Hid (zaz C q= .error p):=bdE HZ.out I
         unfold Pan
         go_wp2
         refine⟨rfl,?_⟩
         rw[HX.out]
         exact⟨rfl,HB⟩
        |ok a5=>
         rintro e w5 ⟨rfl,S5,X,s⟩
         have V:Hid (w5.heap[w.heap.size]? =some (.map (esS z) 5)):=zbA N ac.out s
         have aa:=M.trans s
         clear s
         have Y:=zc (bdO HZ.out I)
         have ab:=zc (zc7 Z.out I)
         go_wp2
         go_roundg (gk-1)
         case rel=>exact⟨S5,a5,Y.out,by have:=ab.out;omega,X,aa,V.out⟩
         case measure=>omega
       |false=>
        have H:zaE C j=letJ C 3 j:=by rw[zaE,t0,t1,t2,t3,t4,hs];simp only[Bool.false_eq_true,↓reduceIte,Bool.and_false,Bool.not_true,Bool.false_and]
        have HZ:=zc (af.out.trans (zc6 hp H))
        have Z:=zc H
        clear H
        obtain⟨vz,al⟩:=zlj U.out (ztp z (zcC C j.pos) (zcU t0 (by decide)) (zcU t1 (by decide)) (zcU t2 (by decide)) (zcU t3 (by decide)) (zcU t4 (by decide)))
        go_wp2_with fail
        refine (ziT C gt L A z O j _ ae.out).mono ?_
        cases I:letJ C 3 j with
        |error p=>
         rintro e w5 ⟨rfl,hb⟩
         have HB:=(h.back ag).trans hb
         have HX:Hid (zaz C q= .error p):=bdE HZ.out I
         unfold Pan
         go_wp2
         refine⟨rfl,?_⟩
         rw[HX.out]
         exact⟨rfl,HB⟩
        |ok a5=>
         rintro e w5 ⟨rfl,S5,X,s⟩
         have V:Hid (w5.heap[w.heap.size]? =some (.map (esS z) 5)):=zbA ae.out U.out s
         have aa:=ag.trans s
         clear s
         have Y:=zc (bdO HZ.out I)
         have ab:=zc (zc7 Z.out I)
         go_wp2
         go_roundg (gk-1)
         case rel=>exact⟨S5,a5,Y.out,by have:=ab.out;omega,X,aa,V.out⟩
         case measure=>omega
  ·have aE: ¬((j.pos:Int)<(C.ts.length:Int)):=by omega
   go_wp2_with fail
   refine wp_region_quiet_below (by kernel_rfl) (by kernel_rfl) ?_
   repeat (go_big_quiet_step (fail))
   refine wpQuiet_nil ?_
   intro w2 ar
   obtain⟨⟨dq,aF⟩,ad⟩:=ar
   have ah:Below wr.heap.size wr w2:=by show Below _ _ _;rw[ad];exact below_regrown _ _ _
   clear ad k0 k1 C0 C1
   have J:Hid (IM C gt L A z O j w2):=ap.later ah
   have ao:=ay.trans (IS.below ah)
   have aq:Hid (w2.heap[w.heap.size]? =some (.map (esS z) 5)):=zbA ap av.out (IS.below ah)
   have HX:=zc (af.out.trans (zlp hp))
   obtain⟨c0,c1,c2,c3,c4,c5,c6,c7,c8,c9,cf⟩:=zah J.out.cells
   have an:=J.out.mem.own.ep
   have aN:=J.out.mem.inv.ep
   have am:=J.out.free
   have ai:=zc am
   clear am
   have aw:=J.out.lt
   rcases J.out.mem.own.la.nil_or with ⟨ha,hc,hn⟩|⟨gl,ha⟩
   ·have HN:=zc (List.eq_nil_of_length_eq_zero hn)
    rw[ha,hc,hn] at c9
    clear ha hc hn
    go_wp2_with fail
    go_region_law (first|(refine zh2 rfl (.tmp 41) (.tmp 45) 32 rfl 86 i0 Tryz.underlying32 hi A 4 j.ep.length O.ep _ (by rfl) (by exact an) (by rfl) ?_))
    all_goals
     go_wp2
     go_end0
     rw[HX.out]
     refine⟨rfl,O,J.out.mem.wholeI0 HN.out ai.out (fun k hk=>zx hk),⟨.slice (some ⟨gt,0,none⟩) C.ts.length L,.int .i64 j.pos,.int .i64 C.fin,.bool C.scr,.slice O.la.a j.la.length O.la.cap,(zam J.out.cells).trans (by simp[HN.out])⟩,?_⟩
     exact (h.back (ao.set _ _)).drew
   ·have ax:OwnR w2 A 86 4 ⟨some ⟨gl,0,none⟩,O.la.cap⟩ j.la.length (j.la.flatMap epL):=by have:=J.out.mem.own.la;unfold OwnR at this ⊢;rw[ha] at this;exact this
    rw[ha] at c9
    have aA:=J.out.mem.base
    have aH:Hid (some z≠O.ep.blk):=fun e=>ai.out (.inr (.inr (.inl e.symm)))
    go_wp2_with fail
    go_region_law (first|(refine zh1 rfl (.tmp 41) (.tmp 45) 32 rfl A 86 i0 _ 4 56 Tryz.underlying32 hi aC aI aG rfl (by decide) (by decide) O.ep j.ep.length _ (by rfl) (by exact an) gl j.la.length O.la.cap A _ (by rfl) (by exact ax) (zfM _) (by omega) (by exact aA) ?_;intro r' wz hr au az;have g2:=(au.block z (by exact aw) aH.out).trans (by exact J.out.cells);obtain⟨d0,d1,d2,d3,d4,d5,d6,d7,d8,d9,df⟩:=zah g2))
    all_goals
     have HR:=zc hr
     have aj:=zc au
     have aD:=zc az
     have aq:=zc g2
     clear hr au az g2 c0 c1 c2 c3 c4 c5 c6 c7 c8 c9 cf an ax
     go_wp2
     go_end0
     rw[HX.out]
     refine⟨rfl,{O with ep:=r'},J.out.drew.mem.wholeI aj.out HR.out aD.out aw ai.out (fun k hk=>zx hk),⟨.slice (some ⟨gt,0,none⟩) C.ts.length L,.int .i64 j.pos,.int .i64 C.fin,.bool C.scr,.slice O.la.a j.la.length O.la.cap,(zam aq.out).trans (by simp)⟩,?_⟩
     exact ((h.back ao).trans ⟨aj.out.os,aj.out.tape,aj.out.output,aj.out.size,fun k hk=>aj.out.block k (show k<w2.heap.size by omega) (fun e=>by have:=(J.out.mem.own.ep.typed e.symm).1;omega)⟩).setCell J.out.ge _
theorem zt5 (C:Cx) (gt N A z:Nat) (S:Sv) (q:PS) (w:World) (h:IM C gt N A z S q w) (hC:zbn C) (hs:C.scr=false):
  Calls Tryz.prog 120 #[.pointer (some ⟨z,0,none⟩)] w (zhT A z (zaz C q) w):=by
 obtain⟨i0,hi,aC,aI,aG⟩:=info_parts Tryz.infoExp
 go_enter Tryz.func120,Tryz.ntmps120
 go_wp2_with fail
 refine (ztq C gt N A z S q _ h hs).mono ?_
 rintro e w1 ⟨rfl,hg,hb⟩
 have aJ:=h.later hb
 have aB:IS z S w S w1:=IS.below hb
 have aK:=zc hg
 clear hg hb
 go_wp2
 go_loopg [] (C.ts.length+1) (fun k wr=>∃(O:Sv) (j:PS),zaz C q=zaz C j∧C.ts.length-j.pos<k∧IM C gt N A z O j wr∧IS z S w O wr∧wr.heap[w.heap.size]? =some (.map (esM z) 6))
 case atStart=>exact⟨S,q,rfl,by omega,aJ,aB,aK.out⟩
 case round=>
  obtain⟨O,j,hy,hk,m',s',g'⟩:=hrel
  have ae:=zc hy
  have ap:=m'
  have ay:=s'
  have av:Hid (wr.heap[w.heap.size]? =some (.map (esM z) 6)):=g'
  obtain⟨c0,c1,_,_,_,_,_,_,_,_,_⟩:=zah m'.cells
  have C0:=zc c0
  have C1:=zc c1
  have aM:=m'.mem.inv.pos
  have aL:=m'.mem.few
  clear hy m' s' g' c0 c1
  have k0:=cell_regrown C0.out
  have k1:=cell_regrown C1.out
  by_cases hp:j.pos<C.ts.length
  ·have aE:((j.pos:Int)<(C.ts.length:Int)):=by omega
   go_wp2_with fail
   refine wp_region_quiet_below (by kernel_rfl) (by kernel_rfl) ?_
   repeat (go_big_quiet_step (fail))
   refine wpQuiet_nil ?_
   intro w2 ar
   obtain⟨⟨dq,aF⟩,ag⟩:=ar
   have ah:Below wr.heap.size wr w2:=by show Below _ _ _;rw[ag];exact below_regrown _ _ _
   clear ag k0 k1 C0 C1
   have J:Hid (IM C gt N A z O j w2):=ap.later ah
   have ao:=ay.trans (IS.below ah)
   have aq:Hid (w2.heap[w.heap.size]? =some (.map (esM z) 6)):=zbA ap av.out (IS.below ah)
   go_wp2_with fail
   refine (ziW C gt N A z O j _ J.out).mono ?_
   rintro e w3 ⟨rfl,hb⟩
   have ad:Hid (IM C gt N A z O j w3):=J.out.later hb
   have af:=ao.trans (IS.below hb)
   have U:Hid (w3.heap[w.heap.size]? =some (.map (esM z) 6)):=zbA J.out aq.out (IS.below hb)
   clear hb
   have aj:w.heap.size≠z:=by have:=h.lt;omega
   obtain⟨c0,c1,c2,c3,c4,c5,c6,c7,c8,c9,cf⟩:=zah ad.out.cells
   cases t0:isT C j.pos 1 zE with
   |true=>
    have H:zaE C j=letJ C 1 (adv j):=by rw[zaE,t0];rfl
    have HZ:=zc (ae.out.trans (zc6 hp H))
    have Z:=zc H
    clear H
    rw[zcT t0]
    have ak:=zcS U.out (ztr z)
    go_wp2_with fail
    have M:=ad.out.adv hp
    have L:IS z S w O (w3.setCell ⟨z,1,none⟩ (.int .i64 ((j.pos:Int)+1))):=af.set _ _
    have ac:Hid ((w3.setCell ⟨z,1,none⟩ (.int .i64 ((j.pos:Int)+1))).heap[w.heap.size]? =some (.map (esM z) 6)):=(zx aj).trans U.out
    refine (zhk C gt N A z O (adv j) _ M).mono ?_
    cases I:letJ C 1 (adv j) with
    |error p=>
     rintro e w5 ⟨rfl,hb⟩
     have HB:=(h.back L).trans hb
     have HX:Hid (zaz C q= .error p):=bdE HZ.out I
     unfold Pan
     go_wp2
     refine⟨rfl,?_⟩
     rw[HX.out]
     exact⟨rfl,HB⟩
    |ok a5=>
     rintro e w5 ⟨rfl,S5,X,s⟩
     have V:Hid (w5.heap[w.heap.size]? =some (.map (esM z) 6)):=zbA M ac.out s
     have aa:=L.trans s
     clear s
     have Y:=zc (bdO HZ.out I)
     have ab:=zc (zc7 Z.out I)
     go_wp2
     go_roundg (gk-1)
     case rel=>exact⟨S5,a5,Y.out,by have:=ab.out;omega,X,aa,V.out⟩
     case measure=>omega
   |false=>
    cases t1:isT C j.pos 1 zT with
    |true=>
     have H:zaE C j=fnI C (adv j):=by rw[zaE,t0,t1];simp only[Bool.false_eq_true,↓reduceIte]
     have HZ:=zc (ae.out.trans (zc6 hp H))
     have Z:=zc H
     clear H
     rw[zcT t1]
     have ak:=zcS U.out (zts z)
     go_wp2_with fail
     have M:=ad.out.adv hp
     have L:IS z S w O (w3.setCell ⟨z,1,none⟩ (.int .i64 ((j.pos:Int)+1))):=af.set _ _
     have ac:Hid ((w3.setCell ⟨z,1,none⟩ (.int .i64 ((j.pos:Int)+1))).heap[w.heap.size]? =some (.map (esM z) 6)):=(zx aj).trans U.out
     refine (zhl C gt N A z O (adv j) _ M).mono ?_
     cases I:fnI C (adv j) with
     |error p=>
      rintro e w5 ⟨rfl,hb⟩
      have HB:=(h.back L).trans hb
      have HX:Hid (zaz C q= .error p):=bdE HZ.out I
      unfold Pan
      go_wp2
      refine⟨rfl,?_⟩
      rw[HX.out]
      exact⟨rfl,HB⟩
     |ok a5=>
      rintro e w5 ⟨rfl,S5,X,s⟩
      have V:Hid (w5.heap[w.heap.size]? =some (.map (esM z) 6)):=zbA M ac.out s
      have aa:=L.trans s
      clear s
      have Y:=zc (bdO HZ.out I)
      have ab:=zc (zc7 Z.out I)
      go_wp2
      go_roundg (gk-1)
      case rel=>exact⟨S5,a5,Y.out,by have:=ab.out;omega,X,aa,V.out⟩
      case measure=>omega
    |false=>
     cases t2:isT C j.pos 1 zay with
     |true=>
      have H:zaE C j=printI C (adv j):=by rw[zaE,t0,t1,t2];simp only[Bool.false_eq_true,↓reduceIte]
      have HZ:=zc (ae.out.trans (zc6 hp H))
      have Z:=zc H
      clear H
      rw[zcT t2]
      have ak:=zcS U.out (ztt z)
      go_wp2_with fail
      have M:=ad.out.adv hp
      have L:IS z S w O (w3.setCell ⟨z,1,none⟩ (.int .i64 ((j.pos:Int)+1))):=af.set _ _
      have ac:Hid ((w3.setCell ⟨z,1,none⟩ (.int .i64 ((j.pos:Int)+1))).heap[w.heap.size]? =some (.map (esM z) 6)):=(zx aj).trans U.out
      refine (ziU C gt N A z O (adv j) _ M).mono ?_
      cases I:printI C (adv j) with
      |error p=>
       rintro e w5 ⟨rfl,hb⟩
       have HB:=(h.back L).trans hb
       have HX:Hid (zaz C q= .error p):=bdE HZ.out I
       unfold Pan
       go_wp2
       refine⟨rfl,?_⟩
       rw[HX.out]
       exact⟨rfl,HB⟩
      |ok a5=>
       rintro e w5 ⟨rfl,S5,X,s⟩
       have V:Hid (w5.heap[w.heap.size]? =some (.map (esM z) 6)):=zbA M ac.out s
       have aa:=L.trans s
       clear s
       have Y:=zc (bdO HZ.out I)
       have ab:=zc (zc7 Z.out I)
       go_wp2
       go_roundg (gk-1)
       case rel=>exact⟨S5,a5,Y.out,by have:=ab.out;omega,X,aa,V.out⟩
       case measure=>omega
     |false=>
      cases t3:isT C j.pos 1 zaA with
      |true=>
       have H:zaE C j=stmtI C 5 sNone cSemi (adv j):=by rw[zaE,t0,t1,t2,t3];simp only[Bool.false_eq_true,↓reduceIte]
       have HZ:=zc (ae.out.trans (zc6 hp H))
       have Z:=zc H
       clear H
       rw[zcT t3]
       have ak:=zcS U.out (ztu z)
       go_wp2_with fail
       have M:=ad.out.adv hp
       have L:IS z S w O (w3.setCell ⟨z,1,none⟩ (.int .i64 ((j.pos:Int)+1))):=af.set _ _
       have ac:Hid ((w3.setCell ⟨z,1,none⟩ (.int .i64 ((j.pos:Int)+1))).heap[w.heap.size]? =some (.map (esM z) 6)):=(zx aj).trans U.out
       refine (ziV C gt N A z O (adv j) _ M).mono ?_
       cases I:stmtI C 5 sNone cSemi (adv j) with
       |error p=>
        rintro e w5 ⟨rfl,hb⟩
        have HB:=(h.back L).trans hb
        have HX:Hid (zaz C q= .error p):=bdE HZ.out I
        unfold Pan
        go_wp2
        refine⟨rfl,?_⟩
        rw[HX.out]
        exact⟨rfl,HB⟩
       |ok a5=>
        rintro e w5 ⟨rfl,S5,X,s⟩
        have V:Hid (w5.heap[w.heap.size]? =some (.map (esM z) 6)):=zbA M ac.out s
        have aa:=L.trans s
        clear s
        have Y:=zc (bdO HZ.out I)
        have ab:=zc (zc7 Z.out I)
        go_wp2
        go_roundg (gk-1)
        case rel=>exact⟨S5,a5,Y.out,by have:=ab.out;omega,X,aa,V.out⟩
        case measure=>omega
      |false=>
       cases t4:isT C j.pos 1 zan with
       |true=>
        have H:zaE C j=zaQ C (adv j):=by rw[zaE,t0,t1,t2,t3,t4,hs];simp only[Bool.false_eq_true,↓reduceIte,Bool.false_and,Bool.not_false,Bool.and_self]
        have HZ:=zc (ae.out.trans (zc6 hp H))
        have Z:=zc H
        clear H
        rw[zcT t4]
        have ak:=zcS U.out (ztv z)
        go_wp2_with fail
        have M:=ad.out.adv hp
        have L:IS z S w O (w3.setCell ⟨z,1,none⟩ (.int .i64 ((j.pos:Int)+1))):=af.set _ _
        have ac:Hid ((w3.setCell ⟨z,1,none⟩ (.int .i64 ((j.pos:Int)+1))).heap[w.heap.size]? =some (.map (esM z) 6)):=(zx aj).trans U.out
        refine (zsL C gt N A z O (adv j) _ M hC).mono ?_
        cases I:zaQ C (adv j) with
        |error p=>
         rintro e w5 ⟨rfl,hb⟩
         have HB:=(h.back L).trans hb
         have HX:Hid (zaz C q= .error p):=bdE HZ.out I
         unfold Pan
         go_wp2
         refine⟨rfl,?_⟩
         rw[HX.out]
         exact⟨rfl,HB⟩
        |ok a5=>
         rintro e w5 ⟨rfl,S5,X,s⟩
         have V:Hid (w5.heap[w.heap.size]? =some (.map (esM z) 6)):=zbA M ac.out s
         have aa:=L.trans s
         clear s
         have Y:=zc (bdO HZ.out I)
         have ab:=zc (zc7 Z.out I)
         go_wp2
         go_roundg (gk-1)
         case rel=>exact⟨S5,a5,Y.out,by have:=ab.out;omega,X,aa,V.out⟩
         case measure=>omega
       |false=>
        cases t5:isT C j.pos 1 zal with
        |true=>
         have H:zaE C j=zax C (adv j):=by rw[zaE,t0,t1,t2,t3,t4,t5,hs];simp only[Bool.false_eq_true,↓reduceIte,Bool.false_and,Bool.not_false,Bool.and_self,Bool.and_false]
         have HZ:=zc (ae.out.trans (zc6 hp H))
         have Z:=zc H
         clear H
         rw[zcT t5]
         have ak:=zcS U.out (ztw z)
         go_wp2_with fail
         have M:=ad.out.adv hp
         have L:IS z S w O (w3.setCell ⟨z,1,none⟩ (.int .i64 ((j.pos:Int)+1))):=af.set _ _
         have ac:Hid ((w3.setCell ⟨z,1,none⟩ (.int .i64 ((j.pos:Int)+1))).heap[w.heap.size]? =some (.map (esM z) 6)):=(zx aj).trans U.out
         refine (zti C gt N A z O (adv j) _ M hC).mono ?_
         cases I:zax C (adv j) with
         |error p=>
          rintro e w5 ⟨rfl,hb⟩
          have HB:=(h.back L).trans hb
          have HX:Hid (zaz C q= .error p):=bdE HZ.out I
          unfold Pan
          go_wp2
          refine⟨rfl,?_⟩
          rw[HX.out]
          exact⟨rfl,HB⟩
         |ok a5=>
          rintro e w5 ⟨rfl,S5,X,s⟩
          have V:Hid (w5.heap[w.heap.size]? =some (.map (esM z) 6)):=zbA M ac.out s
          have aa:=L.trans s
          clear s
          have Y:=zc (bdO HZ.out I)
          have ab:=zc (zc7 Z.out I)
          go_wp2
          go_roundg (gk-1)
          case rel=>exact⟨S5,a5,Y.out,by have:=ab.out;omega,X,aa,V.out⟩
          case measure=>omega
        |false=>
         have H:zaE C j=letJ C 3 j:=by rw[zaE,t0,t1,t2,t3,t4,t5,hs];simp only[Bool.false_eq_true,↓reduceIte,Bool.false_and,Bool.not_false,Bool.and_false]
         have HZ:=zc (ae.out.trans (zc6 hp H))
         have Z:=zc H
         clear H
         obtain⟨vz,ak⟩:=zlj U.out (ztx z (zcC C j.pos) (zcU t0 (by decide)) (zcU t1 (by decide)) (zcU t2 (by decide)) (zcU t3 (by decide)) (zcU t4 (by decide)) (zcU t5 (by decide)))
         go_wp2_with fail
         refine (ziT C gt N A z O j _ ad.out).mono ?_
         cases I:letJ C 3 j with
         |error p=>
          rintro e w5 ⟨rfl,hb⟩
          have HB:=(h.back af).trans hb
          have HX:Hid (zaz C q= .error p):=bdE HZ.out I
          unfold Pan
          go_wp2
          refine⟨rfl,?_⟩
          rw[HX.out]
          exact⟨rfl,HB⟩
         |ok a5=>
          rintro e w5 ⟨rfl,S5,X,s⟩
          have V:Hid (w5.heap[w.heap.size]? =some (.map (esM z) 6)):=zbA ad.out U.out s
          have aa:=af.trans s
          clear s
          have Y:=zc (bdO HZ.out I)
          have ab:=zc (zc7 Z.out I)
          go_wp2
          go_roundg (gk-1)
          case rel=>exact⟨S5,a5,Y.out,by have:=ab.out;omega,X,aa,V.out⟩
          case measure=>omega
  ·have aE: ¬((j.pos:Int)<(C.ts.length:Int)):=by omega
   go_wp2_with fail
   refine wp_region_quiet_below (by kernel_rfl) (by kernel_rfl) ?_
   repeat (go_big_quiet_step (fail))
   refine wpQuiet_nil ?_
   intro w2 ar
   obtain⟨⟨dq,aF⟩,ag⟩:=ar
   have ah:Below wr.heap.size wr w2:=by show Below _ _ _;rw[ag];exact below_regrown _ _ _
   clear ag k0 k1 C0 C1
   have J:Hid (IM C gt N A z O j w2):=ap.later ah
   have ao:=ay.trans (IS.below ah)
   have aq:Hid (w2.heap[w.heap.size]? =some (.map (esM z) 6)):=zbA ap av.out (IS.below ah)
   have HX:=zc (ae.out.trans (zlp hp))
   obtain⟨c0,c1,c2,c3,c4,c5,c6,c7,c8,c9,cf⟩:=zah J.out.cells
   have an:=J.out.mem.own.ep
   have aN:=J.out.mem.inv.ep
   have am:=J.out.free
   have ai:=zc am
   clear am
   have aw:=J.out.lt
   rcases J.out.mem.own.la.nil_or with ⟨ha,hc,hn⟩|⟨gl,ha⟩
   ·have HN:=zc (List.eq_nil_of_length_eq_zero hn)
    rw[ha,hc,hn] at c9
    clear ha hc hn
    go_wp2_with fail
    go_region_law (first|(refine zh2 rfl (.tmp 41) (.tmp 45) 32 rfl 86 i0 Tryz.underlying32 hi A 4 j.ep.length O.ep _ (by rfl) (by exact an) (by rfl) ?_))
    all_goals
     go_wp2
     go_end0
     rw[HX.out]
     refine⟨rfl,O,J.out.mem.wholeI0 HN.out ai.out (fun k hk=>zx hk),⟨.slice (some ⟨gt,0,none⟩) C.ts.length N,.int .i64 j.pos,.int .i64 C.fin,.bool C.scr,.slice O.la.a j.la.length O.la.cap,(zam J.out.cells).trans (by simp[HN.out])⟩,?_⟩
     exact (h.back (ao.set _ _)).drew
   ·have ax:OwnR w2 A 86 4 ⟨some ⟨gl,0,none⟩,O.la.cap⟩ j.la.length (j.la.flatMap epL):=by have:=J.out.mem.own.la;unfold OwnR at this ⊢;rw[ha] at this;exact this
    rw[ha] at c9
    have aA:=J.out.mem.base
    have aH:Hid (some z≠O.ep.blk):=fun e=>ai.out (.inr (.inr (.inl e.symm)))
    go_wp2_with fail
    go_region_law (first|(refine zh1 rfl (.tmp 41) (.tmp 45) 32 rfl A 86 i0 _ 4 56 Tryz.underlying32 hi aC aI aG rfl (by decide) (by decide) O.ep j.ep.length _ (by rfl) (by exact an) gl j.la.length O.la.cap A _ (by rfl) (by exact ax) (zfM _) (by omega) (by exact aA) ?_;intro r' wz hr au az;have g2:=(au.block z (by exact aw) aH.out).trans (by exact J.out.cells);obtain⟨d0,d1,d2,d3,d4,d5,d6,d7,d8,d9,df⟩:=zah g2))
    all_goals
     have HR:=zc hr
     have al:=zc au
     have aD:=zc az
     have aq:=zc g2
     clear hr au az g2 c0 c1 c2 c3 c4 c5 c6 c7 c8 c9 cf an ax
     go_wp2
     go_end0
     rw[HX.out]
     refine⟨rfl,{O with ep:=r'},J.out.drew.mem.wholeI al.out HR.out aD.out aw ai.out (fun k hk=>zx hk),⟨.slice (some ⟨gt,0,none⟩) C.ts.length N,.int .i64 j.pos,.int .i64 C.fin,.bool C.scr,.slice O.la.a j.la.length O.la.cap,(zam aq.out).trans (by simp)⟩,?_⟩
     exact ((h.back ao).trans ⟨al.out.os,al.out.tape,al.out.output,al.out.size,fun k hk=>al.out.block k (show k<w2.heap.size by omega) (fun e=>by have:=(J.out.mem.own.ep.typed e.symm).1;omega)⟩).setCell J.out.ge _
end Go.Proofs.YtjdddblpfbmpaaaGreat
