/-
  The table of items of impl's parser: what is stored in it,what is looked up.
  What the items of impl's parser read is what the items of the document are. No program is spoken of.
  'append' of a row onto a row of the call's own,as one step of a region that draws its order; a program handed back. No program is spoken of but for the numbers of its types.
  What program of impl's parser answers: the walks.
  What program of impl's parser answers of a module: the walk.
-/
import Derived.Maps.Own
import Derived.Test.YthfeoomfiafldaaGreatCdImplParseVToImplParseX
namespace Go.Proofs.YthfeoomfiafldaaGreat
set_option maxRecDepth 100000
set_option maxHeartbeats 3200000
open Go.RowKit Go.PlainAid Go.Sort Go.Maps Go.ChangeMaps
def eM (gp:Nat) (k:ByteArray) (f b:Nat):MapEntry:=⟨.string k,.func (.func f) #[.pointer (some ⟨gp,0,none⟩)] #[],b⟩
def esS (gp:Nat):Array MapEntry:=#[eM gp sLet 85 0,eM gp sFunction 86 1,eM gp sPrint 87 2,eM gp sThrow 88 3,eM gp sFail 89 4]
def esM (gp:Nat):Array MapEntry:=#[eM gp sLet 85 0,eM gp sFunction 86 1,eM gp sPrint 87 2,eM gp sThrow 88 3,eM gp sImport 90 4,eM gp sExport 91 5]
theorem ziU (b:Bool) (k:ByteArray) (W:World):(Instr.checkKey b 10000 9 (.string k)).run Tryz.prog W= .ok () W:=by
 show (Instr.checkKey b (9999+1) 9 (.string k)).run Tryz.prog W= .ok () W
 rw[Instr.checkKey]
 simp[run_underlying Tryz.underlying9]
theorem ziV {k:ByteArray} {j:List MapEntry} {r:Option (Nat×Value)} (o:Instr.findNow .string (.string k) j 0=some r) (W:World):(Instr.findKey 9 (.string k) j).run Tryz.prog W= .ok r W:=by
 simp[Instr.findKey,run_underlying Tryz.underlying9,o]
theorem zcL {W w0:World} {B g c:Nat} {o:Array MapEntry} {k:ByteArray} {v:Value} (z:W.heap[g]? =some (.map o c)) (H:Instr.findNow .string (.string k) o.toList 0=some none) (j:Below B w0 W) (I:B≤g):
  ∃D,(Instr.mapUpdate 95 (.map (some g)) (.string k) v).run Tryz.prog W= .ok () D∧D.heap[g]? =some (.map (o.push ⟨.string k,v,c⟩) (c+1))∧Below B w0 D:=by
 refine⟨setBlock W g (.map (o.push ⟨.string k,v,c⟩) (c+1)),?_,heap_setBlock_same z _,⟨j.os,j.tape,j.output,by simpa [setBlock] using j.size,fun i E=>(heap_setBlock_other z _ (by omega)).trans (j.block i E)⟩⟩
 simp[Instr.mapUpdate,run_underlying Tryz.underlying95,MapKept.run_getObj_map z,ziU,ziV H,MapKept.run_setObj_map _ z,Result.andThen,setBlock]
theorem zcM {W:World} {g c i:Nat} {j:Array MapEntry} {k:ByteArray} {v:Value} (o:W.heap[g]? =some (.map j c)) (z:Instr.findNow .string (.string k) j.toList 0=some (some (i,v))):
  (Instr.lookup 95 (.map (some g)) (.string k) true).run Tryz.prog W= .ok (.tuple #[v,.bool true]) W:=by
 simp[Instr.lookup,run_underlying Tryz.underlying95,MapKept.run_getObj_map o,ziU,ziV z,Result.andThen]
theorem zmc {W:World} {g c:Nat} {o:Array MapEntry} {k:ByteArray} (z:W.heap[g]? =some (.map o c)) (D:Instr.findNow .string (.string k) o.toList 0=some none):
  ∃v,(Instr.lookup 95 (.map (some g)) (.string k) true).run Tryz.prog W= .ok (.tuple #[v,.bool false]) W:=by
 have j: ∃v,(zeroValue 1).run Tryz.prog W= .ok v W:=⟨.nilFunc,by kernel_rfl⟩
 obtain⟨v,j⟩:=j
 exact⟨v,by simp[Instr.lookup,run_underlying Tryz.underlying95,MapKept.run_getObj_map z,ziU,ziV D,Result.andThen,j]⟩
theorem ztk (C:Cx) (gt j z o:Nat) (S:Sv) (q:PS) (w:World) (h:IM C gt j z o S q w) (Y:C.scr=true):
  Calls Tryz.prog 44 #[.pointer (some ⟨o,0,none⟩)] w fun e M=>e= .returned (.map (some w.heap.size))∧M.heap[w.heap.size]? =some (.map (esS o) 5)∧Below w.heap.size w M:=by
 have V:=zc h
 have X:=@run_makeMap Tryz.prog
 have aa: ∀(U:Fn) (first j:Array Value) (w:World),(Instr.makeFunc U first j).run Tryz.prog w= .ok (.func U first j) w:=fun _ _ _ _=>rfl
 obtain⟨W1,r1,Q,J⟩:=zcL (k:=sLet) (v:=.func (.func 85) #[.pointer (some ⟨o,0,none⟩)] #[]) (heap_alloc_new w (.map #[] 0)) rfl ((Below.refl w.heap.size w).alloc (Nat.le_refl _) _) (Nat.le_refl _)
 obtain⟨W2,r2,L,E⟩:=zcL (k:=sFunction) (v:=.func (.func 86) #[.pointer (some ⟨o,0,none⟩)] #[]) Q rfl J (Nat.le_refl _)
 obtain⟨W3,r3,I,O⟩:=zcL (k:=sPrint) (v:=.func (.func 87) #[.pointer (some ⟨o,0,none⟩)] #[]) L rfl E (Nat.le_refl _)
 obtain⟨W4,r4,K,D⟩:=zcL (k:=sThrow) (v:=.func (.func 88) #[.pointer (some ⟨o,0,none⟩)] #[]) I rfl O (Nat.le_refl _)
 obtain⟨W5,r5,N,H⟩:=zcL (k:=sFail) (v:=.func (.func 89) #[.pointer (some ⟨o,0,none⟩)] #[]) K rfl D (Nat.le_refl _)
 have G:=zc N
 have B:=zc H
 obtain⟨_,_,_,Z,_,_,_,_,_,_,cf⟩:=zag (V.out.later D).cells
 rw[Y] at Z
 clear h Q J L E I O K D N H
 go_enter Tryz.func44,Tryz.ntmps44
 go_wp2
 go_ret
 exact⟨rfl,G.out,B.out⟩
theorem ztl (j:Nat):Instr.findNow .string (.string sLet) (esS j).toList 0=some (some (0,.func (.func 85) #[.pointer (some ⟨j,0,none⟩)] #[])):=by rfl
theorem ztm (j:Nat):Instr.findNow .string (.string sFunction) (esS j).toList 0=some (some (1,.func (.func 86) #[.pointer (some ⟨j,0,none⟩)] #[])):=by rfl
theorem ztn (j:Nat):Instr.findNow .string (.string sPrint) (esS j).toList 0=some (some (2,.func (.func 87) #[.pointer (some ⟨j,0,none⟩)] #[])):=by rfl
theorem zto (j:Nat):Instr.findNow .string (.string sThrow) (esS j).toList 0=some (some (3,.func (.func 88) #[.pointer (some ⟨j,0,none⟩)] #[])):=by rfl
theorem ztp (j:Nat):Instr.findNow .string (.string sFail) (esS j).toList 0=some (some (4,.func (.func 89) #[.pointer (some ⟨j,0,none⟩)] #[])):=by rfl
theorem ztq (j:Nat) (x:ByteArray) (D:(x==sLet)=false) (H:(x==sFunction)=false) (E:(x==sPrint)=false) (z:(x==sThrow)=false) (o:(x==sFail)=false):Instr.findNow .string (.string x) (esS j).toList 0=some none:=by
 simp[esS,eM,Instr.findNow,Instr.sameNow,D,H,E,z,o]
theorem ztr (C:Cx) (gt o z j:Nat) (S:Sv) (q:PS) (w:World) (h:IM C gt o z j S q w) (hs:C.scr=false):
  Calls Tryz.prog 44 #[.pointer (some ⟨j,0,none⟩)] w fun e N=>e= .returned (.map (some w.heap.size))∧N.heap[w.heap.size]? =some (.map (esM j) 6)∧Below w.heap.size w N:=by
 have Y:=zc h
 have Z:=@run_makeMap Tryz.prog
 have aa: ∀(X:Fn) (first o:Array Value) (w:World),(Instr.makeFunc X first o).run Tryz.prog w= .ok (.func X first o) w:=fun _ _ _ _=>rfl
 obtain⟨W1,r1,V,J⟩:=zcL (k:=sLet) (v:=.func (.func 85) #[.pointer (some ⟨j,0,none⟩)] #[]) (heap_alloc_new w (.map #[] 0)) rfl ((Below.refl w.heap.size w).alloc (Nat.le_refl _) _) (Nat.le_refl _)
 obtain⟨W2,r2,M,E⟩:=zcL (k:=sFunction) (v:=.func (.func 86) #[.pointer (some ⟨j,0,none⟩)] #[]) V rfl J (Nat.le_refl _)
 obtain⟨W3,r3,I,Q⟩:=zcL (k:=sPrint) (v:=.func (.func 87) #[.pointer (some ⟨j,0,none⟩)] #[]) M rfl E (Nat.le_refl _)
 obtain⟨W4,r4,K,D⟩:=zcL (k:=sThrow) (v:=.func (.func 88) #[.pointer (some ⟨j,0,none⟩)] #[]) I rfl Q (Nat.le_refl _)
 obtain⟨W5,r5,O,H⟩:=zcL (k:=sImport) (v:=.func (.func 90) #[.pointer (some ⟨j,0,none⟩)] #[]) K rfl D (Nat.le_refl _)
 obtain⟨W6,r6,U,L⟩:=zcL (k:=sExport) (v:=.func (.func 91) #[.pointer (some ⟨j,0,none⟩)] #[]) O rfl H (Nat.le_refl _)
 have G:=zc U
 have B:=zc L
 obtain⟨_,_,_,c3,_,_,_,_,_,_,cf⟩:=zag (Y.out.later D).cells
 rw[hs] at c3
 clear h V J M E I Q K D O H U L
 go_enter Tryz.func44,Tryz.ntmps44
 go_wp2
 go_ret
 exact⟨rfl,G.out,B.out⟩
theorem zts (j:Nat):Instr.findNow .string (.string sLet) (esM j).toList 0=some (some (0,.func (.func 85) #[.pointer (some ⟨j,0,none⟩)] #[])):=by rfl
theorem ztt (j:Nat):Instr.findNow .string (.string sFunction) (esM j).toList 0=some (some (1,.func (.func 86) #[.pointer (some ⟨j,0,none⟩)] #[])):=by rfl
theorem ztu (j:Nat):Instr.findNow .string (.string sPrint) (esM j).toList 0=some (some (2,.func (.func 87) #[.pointer (some ⟨j,0,none⟩)] #[])):=by rfl
theorem ztv (j:Nat):Instr.findNow .string (.string sThrow) (esM j).toList 0=some (some (3,.func (.func 88) #[.pointer (some ⟨j,0,none⟩)] #[])):=by rfl
theorem ztw (j:Nat):Instr.findNow .string (.string sImport) (esM j).toList 0=some (some (4,.func (.func 90) #[.pointer (some ⟨j,0,none⟩)] #[])):=by rfl
theorem ztx (j:Nat):Instr.findNow .string (.string sExport) (esM j).toList 0=some (some (5,.func (.func 91) #[.pointer (some ⟨j,0,none⟩)] #[])):=by rfl
theorem zty (j:Nat) (x:ByteArray) (E:(x==sLet)=false) (D:(x==sFunction)=false) (I:(x==sPrint)=false) (z:(x==sThrow)=false) (o:(x==sImport)=false) (H:(x==sExport)=false):Instr.findNow .string (.string x) (esM j).toList 0=some none:=by
 simp[esM,eM,Instr.findNow,Instr.sameNow,E,D,I,z,o,H]
def zaC (C:Cx) (q:PS):PR:=
 if isT C q.pos 1 sLet then letJ C 1 (adv q)
 else if isT C q.pos 1 sFunction then fnI C (adv q)
 else if isT C q.pos 1 sPrint then printI C (adv q)
 else if isT C q.pos 1 sThrow then stmtI C 5 sNone cSemi (adv q)
 else if C.scr&&isT C q.pos 1 sFail then stmtI C 6 sNone cSemi (adv q)
 else if !C.scr&&isT C q.pos 1 sImport then zaW C (adv q)
 else if !C.scr&&isT C q.pos 1 sExport then zat C (adv q)
 else letJ C 3 q
theorem ztz (C:Cx) (k:Int) (n:ByteArray) (q:PS):stmtI C k n cSemi q=bd (bd (bd (pE C .sum 0 q) (zd C 4 cSemi)) (zE C k n)) .ok:=by
 rw[zeX,zR,stmtI]
 refine zaf fun a _=>?_
 rw[show zaE C cSemi cSemi.size 0 a=zd C 4 cSemi a from zjS C 59 a]
theorem zfq (C:Cx) (k:Int) (n:ByteArray) (q:PS):bd (bd (pE C .sum 0 q) (zd C 4 cSemi)) (zE C k n)=stmtI C k n cSemi q:=by rw[ztz,zeX]
theorem zt0 (C:Cx) (k:Int) (n:ByteArray) (q:PS):bd (bd (bd (pE C .sum 0 q) (zd C 4 zU)) (zd C 4 cSemi)) (zE C k n)=stmtI C k n cShutSemi q:=by
 rw[zR,zR,stmtI]
 refine zaf fun a _=>?_
 rw[show zaE C cShutSemi cShutSemi.size 0 a=bd (zd C 4 zU a) (zd C 4 cSemi) from zjT C 41 59 a,zR]
theorem zt1 (C:Cx) (k:Int) (n:ByteArray) (q:PS):bd (bd (bd (pE C .sum 0 q) (zd C 4 cSemi)) (zd C 4 zaJ)) (zE C k n)=stmtI C k n cSemiRight q:=by
 rw[zR,zR,stmtI]
 refine zaf fun a _=>?_
 rw[show zaE C cSemiRight cSemiRight.size 0 a=bd (zd C 4 cSemi a) (zd C 4 zaJ) from zjT C 59 125 a,zR]
theorem zmd {C:Cx} {q:PS} (h:isT C q.pos 1 sLet=true):zbA C q=bd (letJ C 1 (adv q)) fun a=>.ok (a,(zf C (q.pos+1)).text):=by
 rw[zbA,withN,zcd h,zh,letJ,zR]
 refine zaf fun a j=>?_
 rw[zR,zh,zR,zR,zR]
 refine zaf fun b _=>?_
 rw[←zR,←zR,zfq,(zaX j).1]
 rfl
theorem zme {C:Cx} {q:PS} (h:isT C q.pos 1 sFunction=true):fnP C q=bd (fnI C (adv q)) fun a=>.ok (a,(zf C (q.pos+1)).text):=by
 rw[fnP,withN,zcd h,zh,fnI,zR]
 refine zaf fun a j=>?_
 rw[show zaE C cCall cCall.size 0 a.1=bd (zd C 4 cOpen a.1) fun a=>bd (zd C 4 zU a) (zd C 4 zF) from zo6 C 40 41 123 a.1,zR,zR,zh]
 rw[(zaX j).1]
 simp only[zR,←zt1]
 rfl
theorem zmf (x:PR) (n:ByteArray):za7 (bd x fun a=>.ok (a,n))=x:=by rw[za7,zR];exact zeX x
theorem ziW (C:Cx) (l:List Ep) (q:PS):impFromI C l q=bd (zaD C (zav C (.ok q))) fun b=>zK (fun e=>zX C (zbW b.2 e)) l (.ok b.1):=by
 rw[impFromI,zaD,zav,zh,zR,zR]
 refine zaf fun a _=>zaf fun b _=>?_
 rw[zR]
 rfl
theorem zt2 {C:Cx} {q:PS} (h:isT C q.pos 1 sImport=true):za3 C q=zaW C (adv q):=by
 rw[za3,zcd h,zh,zaW]
 cases E:isT C (adv q).pos 4 zF with
 |true=>
  have j:((zf C (adv q).pos).kind==3)=false:=by
   have:=zgB E
   rw[beq_iff_eq] at this
   rw[this]
   rfl
  rw[j]
  simp only[Bool.false_eq_true,↓reduceIte]
  rw[zbB,zcd E,zh]
  refine zaf fun a _=>?_
  rw[ziW]
 |false=>
  cases D:isT C (adv q).pos 4 zp with
  |true=>
   have j:((zf C (adv q).pos).kind==3)=false:=by
    have:=zgB D
    rw[beq_iff_eq] at this
    rw[this]
    rfl
   rw[j]
   simp only[Bool.false_eq_true,↓reduceIte]
   rw[zcd D,zh,zR]
   refine zaf fun a _=>zaf fun b _=>?_
   rw[ziW]
   rfl
  |false=>
   cases z:plainB C (adv q).pos false with
   |true=>
    have j:((zf C (adv q).pos).kind==3)=false:=by
     have o:=z
     simp only[plainB,Bool.and_eq_true,beq_iff_eq] at o
     rw[o.1]
     rfl
    rw[j]
    simp only[Bool.false_eq_true,↓reduceIte]
    refine zaf fun a _=>?_
    rw[ziW]
    rfl
   |false=>
    cases j:((zf C (adv q).pos).kind==3) with
    |true=>simp only[Bool.false_eq_true,↓reduceIte]
    |false=>
     simp only[Bool.false_eq_true,↓reduceIte]
     rw[zy,j,zk,z]
     rfl
theorem zt3 (C:Cx) (l:List Ep) (q:PS) (h:isT C q.pos 1 zH=false) (j:za2 l=false):zaB C l q=bd (zd C 4 cSemi q) fun q=>zK (fun e=>zm C (zD e)) l (.ok q):=by rw[zaB,h,j];rfl
theorem zmg (C:Cx) (l:List Ep) (q:PS) (h:(isT C q.pos 1 zH||za2 l)=true):zaB C l q=bd (zaD C (zav C (.ok q))) fun b=>zK (fun e=>zm C (zaj b.2 e)) l (.ok b.1):=by
 rw[zaB,h,if_pos rfl,zaD,zav,zh,zR,zR]
 refine zaf fun a _=>zaf fun b _=>?_
 rw[zR]
 rfl
theorem zt4 {C:Cx} {q:PS} (h:isT C q.pos 1 sExport=true):zV C q=zat C (adv q):=by
 rw[zV,zcd h,zh,zat]
 cases E:isT C (adv q).pos 4 zF with
 |true=>
  simp only[↓reduceIte]
  rw[zbB,zcd E,zh]
  refine zaf fun a _=>?_
  cases j:isT C a.1.pos 1 zH with
  |true=>rw[zmg C a.2 a.1 (by rw[j];rfl),if_neg (by simp)]
  |false=>
   cases o:za2 a.2 with
   |true=>rw[zmg C a.2 a.1 (by rw[o];simp),if_neg (by simp)]
   |false=>rw[zt3 C a.2 a.1 j o,if_pos (by simp)]
 |false=>
  cases I:isT C (adv q).pos 4 zp with
  |true=>
   simp only[Bool.false_eq_true,↓reduceIte]
   rw[zcd I,zaD,zav,zh,zR,zR]
   refine zaf fun a _=>zaf fun b _=>?_
   rw[zR]
   rfl
  |false=>
   cases D:isT C (adv q).pos 1 sDefault with
   |true=>
    simp only[Bool.false_eq_true,↓reduceIte]
    rw[zcd D,zh,zfq]
   |false=>
    cases z:isT C (adv q).pos 1 sLet with
    |true=>
     simp only[Bool.false_eq_true,↓reduceIte]
     rw[zmd z,zR]
     rfl
    |false=>
     cases H:isT C (adv q).pos 1 sFunction with
     |true=>
      simp only[Bool.false_eq_true,↓reduceIte]
      rw[zme H,zR]
      rfl
     |false=>simp only[Bool.false_eq_true,↓reduceIte]
theorem zdT {C:Cx} {i:Nat} {x y:ByteArray} (h:isT C i 1 x=true) (j:(x.toList==y.toList)=false):isT C i 1 y=false:=by
 have e:=zhT h
 rw[isT,e,j]
 simp
theorem zmh (C:Cx) (q:PS):zaC C q=zo C q:=by
 rw[zaC,zo]
 cases D:isT C q.pos 1 sLet with
 |true=>
  rw[zdT D (y:=sImport) (by simp),zdT D (y:=sExport) (by simp)]
  simp only[Bool.false_eq_true,↓reduceIte,Bool.and_false]
  rw[zmd D,zmf]
 |false=>
  cases z:isT C q.pos 1 sFunction with
  |true=>
   rw[zdT z (y:=sImport) (by simp),zdT z (y:=sExport) (by simp)]
   simp only[Bool.false_eq_true,↓reduceIte,Bool.and_false]
   rw[zme z,zmf]
  |false=>
   cases o:isT C q.pos 1 sPrint with
   |true=>
    rw[zdT o (y:=sImport) (by simp),zdT o (y:=sExport) (by simp)]
    simp only[Bool.false_eq_true,↓reduceIte,Bool.and_false]
    rw[zcd o,zh,printI,zR,zR,zR]
    refine zaf fun a _=>?_
    rw[←zt0,zR,zR]
   |false=>
    cases j:isT C q.pos 1 sThrow with
    |true=>
     rw[zdT j (y:=sImport) (by simp),zdT j (y:=sExport) (by simp)]
     simp only[Bool.false_eq_true,↓reduceIte,Bool.and_false]
     rw[zcd j,zh,zfq]
    |false=>
     cases J:C.scr with
     |true=>
      cases H:isT C q.pos 1 sFail with
      |true=>
       simp only[Bool.false_eq_true,↓reduceIte,Bool.not_true,Bool.false_and,Bool.and_self]
       rw[zcd H,zh,zfq]
      |false=>
       simp only[Bool.false_eq_true,↓reduceIte,Bool.not_true,Bool.false_and,Bool.and_false]
       rw[letJ]
       refine zaf fun a _=>?_
       rw[zR,zR]
       refine zaf fun b _=>?_
       rw[←zR,zfq]
     |false=>
      cases E:isT C q.pos 1 sImport with
      |true=>
       simp only[Bool.false_eq_true,↓reduceIte,Bool.not_false,Bool.false_and,Bool.and_self]
       rw[zt2 E]
      |false=>
       cases I:isT C q.pos 1 sExport with
       |true=>
        simp only[Bool.false_eq_true,↓reduceIte,Bool.not_false,Bool.false_and,Bool.and_self,Bool.and_false]
        rw[zt4 I]
       |false=>
        simp only[Bool.false_eq_true,↓reduceIte,Bool.not_false,Bool.false_and,Bool.and_false]
        rw[letJ]
        refine zaf fun a _=>?_
        rw[zR,zR]
        refine zaf fun b _=>?_
        rw[←zR,zfq]
theorem zmi {P:Program} {X:Array Oper} {o:Oper} {a:Act} {W:World} {K:Act→World→Prop} {Q:Exit→Act→World→Prop} {E:Prop} (aa:o.guard=none) (s x:Operand) (t:TypeId)
  (ho:o.op= .call {callee:=.builtin .append,args:=#[s,x],argTypes:=#[t,t]})
  (I:Nat) (e:TypeId) (i:TypeInfo) (z:Value) (size D:Nat) (ht:P.underlying t=some (.slice e)) (hi:P.info? e=some i) (hz:i.zero=some z) (N:i.size=size) (ad:i.bytes=D) (af:z.cells.size=size) (ab:0<size) (U:D≤100)
  (r:Rw) (n:Nat) (xs:List Value) (hs:a.eval s= .slice r.a n r.cap) (V:OwnR W I e size r n xs)
  (Z m c M:Nat) (H:List Value) (hx:a.eval x= .slice (some ⟨Z,0,none⟩) m c) (hg:OwnR W M e size ⟨some ⟨Z,0,none⟩,c⟩ m H) (h1: ∀u∈H,u.oneCell'=true) (hn:n+m≤1000000) (L:I≤W.heap.size)
  (h: ∀r' O,OwnR O I e size r' (n+m) (xs++H)→W.grownBy O r.blk→(r'.blk=r.blk∨r'.blk=some W.heap.size)→K (a.put o.dst (.slice r'.a (n+m:Nat) r'.cap)) O):
  if Region.wanted o (yielded X a.tmps)=true then Oper.wp P o a W K Q else E:=by
 have hw:Region.wanted o (yielded X a.tmps)=true:=by simp[Region.wanted,aa]
 rw[if_pos hw]
 obtain⟨v',O,hr,h2,h3,_,h5⟩:=run_append_own_at (P:=P) W I t o.type e i z size D ht hi hz N ad af ab _ n xs V ⟨Z,0,none⟩ m c H hg.1 (by
  intro j u hj
  have e1:(⟨Z,0,none⟩:Addr).add j=⟨Z,j,none⟩:=by simp[Addr.add];exact fun h=>h.symm
  have ac:j<H.length:=(List.getElem?_eq_some_iff.1 hj).1
  rw[e1,World.ownsRow.cellAt hg j (by rw[←hg.1];exact ac)]
  exact hj) h1 (by unfold maxLen;omega) (by have:(n+m)*D≤1000000*100:=Nat.mul_le_mul hn U;omega) L
 unfold Oper.wp execOp
 simp only[ho,resolve,invoke,builtin,Sem.run_bind,Sem.run_pure,Result.andThen_ok,List.map_toArray,List.map_cons,List.map_nil,hs,hx,hr]
 rcases h2.2 with ⟨hv,Y⟩|⟨g',J,ag,rfl,ae⟩
 ·subst hv
  have:=h ⟨none,0⟩ O (by rw[Y] at h2 ⊢;exact h2) (by rw[←zb9 r n];exact h3) (by rw[←zb9 r n];exact h5)
  rw[Y] at this
  exact this
 ·refine h ⟨some ⟨g',0,none⟩,J⟩ O h2 ?_ ?_
  ·rw[←zb9 r n];exact h3
  ·rw[←zb9 r n,←zb9 ⟨some ⟨g',0,none⟩,J⟩ (n+m)];exact h5
theorem zmj {P:Program} {j:Array Oper} {o:Oper} {a:Act} {W:World} {K:Act→World→Prop} {Q:Exit→Act→World→Prop} {E:Prop} (H:o.guard=none) (s x:Operand) (t:TypeId)
  (V:o.op= .call {callee:=.builtin .append,args:=#[s,x],argTypes:=#[t,t]})
  (e:TypeId) (i:TypeInfo) (L:P.underlying t=some (.slice e)) (J:P.info? e=some i) (z size n:Nat)
  (r:Rw) (xs:List Value) (Z:a.eval s= .slice r.a n r.cap) (D:OwnR W z e size r n xs) (Y:a.eval x= .slice none 0 0)
  (h:K (a.put o.dst (.slice r.a n r.cap)) W):if Region.wanted o (yielded j a.tmps)=true then Oper.wp P o a W K Q else E:=by
 have U:Region.wanted o (yielded j a.tmps)=true:=by simp[Region.wanted,H]
 rw[if_pos U]
 have N:(Builtin.append_ #[t,t] o.type #[.slice r.a n r.cap,.slice none 0 0]).run P W= .ok (.slice r.a n r.cap) W:=by
  rcases D.2 with ⟨I,_⟩|⟨g,X,M,I,_,_,O,_⟩
  ·rw[I]
   simp[Builtin.append_,run_underlying L,sizeOf,typeInfo,J,Builtin.lenOf,Builtin.firstCells]
  ·rw[I]
   simp[Builtin.append_,run_underlying L,sizeOf,typeInfo,J,Builtin.lenOf,Builtin.firstCells,loadCells,O,storeCells]
 unfold Oper.wp execOp
 simp only[V,resolve,invoke,builtin,Sem.run_bind,Sem.run_pure,Result.andThen_ok,List.map_toArray,List.map_cons,List.map_nil,Z,Y,N]
 exact h
theorem Mem.wholeI {C:Cx} {V M j b:Nat} {S:Sv} {q:PS} {W L N:World} {I:Rw} (D:Mem C V M j S q W) (X:W.grownBy L S.ep.blk) (Y:OwnR L j 77 4 I (q.ep.length+q.la.length) (q.ep.flatMap epL++q.la.flatMap epL)) (J:I.blk=S.ep.blk∨I.blk=some W.heap.size) (hb:b<W.heap.size) (z: ¬S.has b)
  (Q: ∀k,k≠b→N.heap[k]? =L.heap[k]?):OwnMod N j {S with ep:=I} q:=by
 have E:(q.ep++q.la).length=q.ep.length+q.la.length:=by simp
 have H: ∀(r:Rw) (e:TypeId) (o n:Nat) (O:List Value),OwnR W j e o r n O→e≠77→(∀k,r.blk=some k→S.has k)→OwnR N j e o r n O:=fun r e o n O h Z U=>
  h.keep fun k g=>(Q k (fun K=>z (by rw[←K];exact U k g))).trans (X.block k (h.typed g).2.1 fun e'=>(h.ne D.own.ep Z g) e'.symm)
 refine⟨H _ _ _ _ _ D.own.rq (by decide) fun k g=>.inl g,H _ _ _ _ _ D.own.im (by decide) fun k g=>.inr (.inl g),?_,H _ _ _ _ _ D.own.st (by decide) fun k g=>.inr (.inr (.inr (.inl g))),H _ _ _ _ _ D.own.ex (by decide) fun k g=>.inr (.inr (.inr (.inr (.inl g)))),D.inv.rq,D.inv.im,D.inv.ep,D.inv.st,D.inv.ex⟩
 rw[E,List.flatMap_append]
 refine Y.keep fun k g=>Q k ?_
 rcases J with e|e
 ·intro K
  exact z (by rw[←K];exact .inr (.inr (.inl (by rw[←e];exact g))))
 ·have:W.heap.size=k:=Option.some.inj (e.symm.trans g)
  omega
theorem Mem.wholeI0 {C:Cx} {O I j b:Nat} {S:Sv} {q:PS} {W J:World} (z:Mem C O I j S q W) (K:q.la=[]) (D: ¬S.has b)
  (M: ∀k,k≠b→J.heap[k]? =W.heap[k]?):OwnMod J j S q:=by
 have E: ∀(r:Rw) (e:TypeId) (o n:Nat) (H:List Value),OwnR W j e o r n H→(∀k,r.blk=some k→S.has k)→OwnR J j e o r n H:=fun r e o n H h N=>
  h.keep fun k g=>M k (fun L=>D (by rw[←L];exact N k g))
 refine⟨E _ _ _ _ _ z.own.rq fun k g=>.inl g,E _ _ _ _ _ z.own.im fun k g=>.inr (.inl g),?_,E _ _ _ _ _ z.own.st fun k g=>.inr (.inr (.inr (.inl g))),E _ _ _ _ _ z.own.ex fun k g=>.inr (.inr (.inr (.inr (.inl g)))),z.inv.rq,z.inv.im,z.inv.ep,z.inv.st,z.inv.ex⟩
 rw[K,List.append_nil]
 exact E _ _ _ _ _ z.own.ep fun k g=>.inr (.inr (.inl g))
theorem zcN {C:Cx} {i:Nat} {k:ByteArray} (h:isT C i 1 k=true):zc6 C i=k:=by
 rw[zc6,zgB h,zhT h]
 rfl
theorem zcO {C:Cx} {i:Nat} {k:ByteArray} (h:isT C i 1 k=false) (o:sNone≠k):(zc6 C i==k)=false:=by
 rw[Bool.eq_false_iff]
 intro e
 rw[MapKept.bytes_beq] at e
 cases j:((zf C i).kind==1) with
 |false=>
  rw[zc6,j] at e
  exact o e
 |true=>
  rw[zc6,j,if_pos rfl] at e
  rw[isT,j,e] at h
  simp at h
theorem zbH {C:Cx} {J z o D g c:Nat} {S I:Sv} {q:PS} {W H:World} {E:Array MapEntry} (h:IM C J z o D S q W) (j:W.heap[g]? =some (.map E c)) (s:IS D S W I H):H.heap[g]? =some (.map E c):=by
 refine (s.block g (Array.getElem?_eq_some_iff.1 j).1 (fun k=>?_) (fun e=>?_)).trans j
 ·rcases k with k|k|k|k|k|k
  ·obtain⟨_,_,c,e⟩:=h.mem.own.rq.typed k
   rw[j] at e;cases e
  ·obtain⟨_,_,c,e⟩:=h.mem.own.im.typed k
   rw[j] at e;cases e
  ·obtain⟨_,_,c,e⟩:=h.mem.own.ep.typed k
   rw[j] at e;cases e
  ·obtain⟨_,_,c,e⟩:=h.mem.own.st.typed k
   rw[j] at e;cases e
  ·obtain⟨_,_,c,e⟩:=h.mem.own.ex.typed k
   rw[j] at e;cases e
  ·obtain⟨_,_,c,e⟩:=h.mem.own.la.typed k
   rw[j] at e;cases e
 ·have:=h.cells
  rw[←e,j] at this
  cases this
theorem zc3 {C:Cx} {q:PS} {y:PR} (o:q.pos<C.ts.length) (j:zaC C q=y):zM C q=bd y (zM C):=by rw[zeQ,if_pos o,←zmh,j]
theorem zmk {C:Cx} {q:PS} (j: ¬q.pos<C.ts.length):zM C q= .ok q:=by rw[zeQ,if_neg j]
theorem zc4 {C:Cx} {q a:PS} {y:PR} (j:zaC C q=y) (h:y= .ok a):q.pos<a.pos:=zgz (by rw[←zmh,j,h])
def ziX (base gp:Nat) (y:PR) (w:World) (e:Ending) (w':World):Prop:=
 match y with
 | .ok q=>e= .returned (.tuple #[])∧∃S,OwnMod w' base S q∧(∃v0 v1 v2 v3 v9,w'.heap[gp]? =some (.cells #[v0,v1,v2,v3,.slice S.rq.a q.rq.length S.rq.cap,.slice S.im.a q.im.length S.im.cap,.slice S.ep.a (q.ep++q.la).length S.ep.cap,.slice S.st.a q.st.length S.st.cap,.slice S.ex.a q.ex.length S.ex.cap,v9] 53 (0,0)))∧Below base w w'
 | .error p=>e=Pan p∧Below base w w'
theorem zt5 (C:Cx) (Z H j o:Nat) (S:Sv) (q:PS) (w:World) (h:IM C Z H j o S q w) (hs:C.scr=true):
  Calls Tryz.prog 20 #[.pointer (some ⟨o,0,none⟩)] w (ziX j o (zM C q) w):=by
 obtain⟨i0,hi,az,aH,aE⟩:=info_parts Tryz.infoExp
 have HH:=zc h
 clear h
 go_enter Tryz.func20,Tryz.ntmps20
 go_wp2_with fail
 refine (ztk C Z H j o S q _ HH.out hs).mono ?_
 rintro e w1 ⟨rfl,hg,hb⟩
 have aA:Hid (IM C Z H j o S q w1):=HH.out.later hb
 have aC:Hid (IS o S w S w1):=IS.below hb
 have aB:=zc hg
 clear hg hb
 go_wp2
 go_loopg [] (C.ts.length+1) (fun k wr=>∃(I:Sv) (z:PS),zM C q=zM C z∧C.ts.length-z.pos<k∧IM C Z H j o I z wr∧IS o S w I wr∧wr.heap[w.heap.size]? =some (.map (esS o) 5))
 case atStart=>exact⟨S,q,rfl,by omega,aA.out,aC.out,aB.out⟩
 case round=>
  obtain⟨I,z,hy,hk,m',s',g'⟩:=hrel
  have ae:=zc hy
  have an:Hid (IM C Z H j o I z wr):=m'
  have ar:Hid (IS o S w I wr):=s'
  have aw:Hid (wr.heap[w.heap.size]? =some (.map (esS o) 5)):=g'
  obtain⟨c0,c1,_,_,_,_,_,_,_,_,_⟩:=zag m'.cells
  have C0:=zc c0
  have C1:=zc c1
  have aL:=m'.mem.inv.pos
  have aJ:=m'.mem.few
  clear hy m' s' g' c0 c1
  have k0:=cell_regrown C0.out
  have k1:=cell_regrown C1.out
  by_cases hp:z.pos<C.ts.length
  ·have aG:((z.pos:Int)<(C.ts.length:Int)):=by omega
   go_wp2_with fail
   refine wp_region_quiet_below (by kernel_rfl) (by kernel_rfl) ?_
   repeat (go_big_quiet_step (fail))
   refine wpQuiet_nil ?_
   intro w2 aq
   obtain⟨⟨dq,aD⟩,ab⟩:=aq
   have ag:Hid (Below wr.heap.size wr w2):=by show Below _ _ _;rw[ab];exact below_regrown _ _ _
   clear ab k0 k1 C0 C1
   have J:Hid (IM C Z H j o I z w2):=an.out.later ag.out
   have ao:Hid (IS o S w I w2):=ar.out.trans (IS.below ag.out)
   have am:Hid (w2.heap[w.heap.size]? =some (.map (esS o) 5)):=zbH an.out aw.out (IS.below ag.out)
   go_wp2_with fail
   refine (zkb C Z H j o I z _ J.out).mono ?_
   rintro e w3 ⟨rfl,hb⟩
   have ac:Hid (IM C Z H j o I z w3):=J.out.later hb
   have ad:Hid (IS o S w I w3):=ao.out.trans (IS.below hb)
   have N:Hid (w3.heap[w.heap.size]? =some (.map (esS o) 5)):=zbH J.out am.out (IS.below hb)
   clear hb
   have ai:w.heap.size≠o:=by have:=HH.out.lt;omega
   obtain⟨c0,c1,c2,c3,c4,c5,c6,c7,c8,c9,cf⟩:=zag ac.out.cells
   cases t0:isT C z.pos 1 sLet with
   |true=>
    have E:zaC C z=letJ C 1 (adv z):=by rw[zaC,t0];rfl
    have HZ:=zc (ae.out.trans (zc3 hp E))
    have V:=zc E
    clear E
    rw[zcN t0]
    have al:=zcM N.out (ztl o)
    go_wp2_with fail
    have K:Hid (IM C Z H j o I (adv z) (w3.setCell ⟨o,1,none⟩ (.int .i64 ((z.pos:Int)+1)))):=ac.out.adv hp
    have M:Hid (IS o S w I (w3.setCell ⟨o,1,none⟩ (.int .i64 ((z.pos:Int)+1)))):=ad.out.set _ _
    have aa:Hid ((w3.setCell ⟨o,1,none⟩ (.int .i64 ((z.pos:Int)+1))).heap[w.heap.size]? =some (.map (esS o) 5)):=(zx ai).trans N.out
    refine (zhV C Z H j o I (adv z) _ K.out).mono ?_
    cases D:letJ C 1 (adv z) with
    |error p=>
     rintro e L ⟨rfl,hb⟩
     have HB:Hid (Below j w L):=(HH.out.back M.out).trans hb
     have HX:Hid (zM C q= .error p):=bdE HZ.out D
     unfold Pan
     go_wp2
     refine⟨rfl,?_⟩
     rw[HX.out]
     exact⟨rfl,HB.out⟩
    |ok a5=>
     rintro e L ⟨rfl,S5,m,s⟩
     have U:Hid (L.heap[w.heap.size]? =some (.map (esS o) 5)):=zbH K.out aa.out s
     have O:=zc m
     have Y:Hid (IS o S w S5 L):=M.out.trans s
     clear m s
     have Q:=zc (bdO HZ.out D)
     have X:=zc (zc4 V.out D)
     go_wp2
     go_roundg (gk-1)
     case rel=>exact⟨S5,a5,Q.out,by have:=X.out;omega,O.out,Y.out,U.out⟩
     case measure=>omega
   |false=>
    cases t1:isT C z.pos 1 sFunction with
    |true=>
     have E:zaC C z=fnI C (adv z):=by rw[zaC,t0,t1];simp only[Bool.false_eq_true,↓reduceIte]
     have HZ:=zc (ae.out.trans (zc3 hp E))
     have V:=zc E
     clear E
     rw[zcN t1]
     have al:=zcM N.out (ztm o)
     go_wp2_with fail
     have K:Hid (IM C Z H j o I (adv z) (w3.setCell ⟨o,1,none⟩ (.int .i64 ((z.pos:Int)+1)))):=ac.out.adv hp
     have M:Hid (IS o S w I (w3.setCell ⟨o,1,none⟩ (.int .i64 ((z.pos:Int)+1)))):=ad.out.set _ _
     have aa:Hid ((w3.setCell ⟨o,1,none⟩ (.int .i64 ((z.pos:Int)+1))).heap[w.heap.size]? =some (.map (esS o) 5)):=(zx ai).trans N.out
     refine (zhW C Z H j o I (adv z) _ K.out).mono ?_
     cases D:fnI C (adv z) with
     |error p=>
      rintro e L ⟨rfl,hb⟩
      have HB:Hid (Below j w L):=(HH.out.back M.out).trans hb
      have HX:Hid (zM C q= .error p):=bdE HZ.out D
      unfold Pan
      go_wp2
      refine⟨rfl,?_⟩
      rw[HX.out]
      exact⟨rfl,HB.out⟩
     |ok a5=>
      rintro e L ⟨rfl,S5,m,s⟩
      have U:Hid (L.heap[w.heap.size]? =some (.map (esS o) 5)):=zbH K.out aa.out s
      have O:=zc m
      have Y:Hid (IS o S w S5 L):=M.out.trans s
      clear m s
      have Q:=zc (bdO HZ.out D)
      have X:=zc (zc4 V.out D)
      go_wp2
      go_roundg (gk-1)
      case rel=>exact⟨S5,a5,Q.out,by have:=X.out;omega,O.out,Y.out,U.out⟩
      case measure=>omega
    |false=>
     cases t2:isT C z.pos 1 sPrint with
     |true=>
      have E:zaC C z=printI C (adv z):=by rw[zaC,t0,t1,t2];simp only[Bool.false_eq_true,↓reduceIte]
      have HZ:=zc (ae.out.trans (zc3 hp E))
      have V:=zc E
      clear E
      rw[zcN t2]
      have al:=zcM N.out (ztn o)
      go_wp2_with fail
      have K:Hid (IM C Z H j o I (adv z) (w3.setCell ⟨o,1,none⟩ (.int .i64 ((z.pos:Int)+1)))):=ac.out.adv hp
      have M:Hid (IS o S w I (w3.setCell ⟨o,1,none⟩ (.int .i64 ((z.pos:Int)+1)))):=ad.out.set _ _
      have aa:Hid ((w3.setCell ⟨o,1,none⟩ (.int .i64 ((z.pos:Int)+1))).heap[w.heap.size]? =some (.map (esS o) 5)):=(zx ai).trans N.out
      refine (zjZ C Z H j o I (adv z) _ K.out).mono ?_
      cases D:printI C (adv z) with
      |error p=>
       rintro e L ⟨rfl,hb⟩
       have HB:Hid (Below j w L):=(HH.out.back M.out).trans hb
       have HX:Hid (zM C q= .error p):=bdE HZ.out D
       unfold Pan
       go_wp2
       refine⟨rfl,?_⟩
       rw[HX.out]
       exact⟨rfl,HB.out⟩
      |ok a5=>
       rintro e L ⟨rfl,S5,m,s⟩
       have U:Hid (L.heap[w.heap.size]? =some (.map (esS o) 5)):=zbH K.out aa.out s
       have O:=zc m
       have Y:Hid (IS o S w S5 L):=M.out.trans s
       clear m s
       have Q:=zc (bdO HZ.out D)
       have X:=zc (zc4 V.out D)
       go_wp2
       go_roundg (gk-1)
       case rel=>exact⟨S5,a5,Q.out,by have:=X.out;omega,O.out,Y.out,U.out⟩
       case measure=>omega
     |false=>
      cases t3:isT C z.pos 1 sThrow with
      |true=>
       have E:zaC C z=stmtI C 5 sNone cSemi (adv z):=by rw[zaC,t0,t1,t2,t3];simp only[Bool.false_eq_true,↓reduceIte]
       have HZ:=zc (ae.out.trans (zc3 hp E))
       have V:=zc E
       clear E
       rw[zcN t3]
       have al:=zcM N.out (zto o)
       go_wp2_with fail
       have K:Hid (IM C Z H j o I (adv z) (w3.setCell ⟨o,1,none⟩ (.int .i64 ((z.pos:Int)+1)))):=ac.out.adv hp
       have M:Hid (IS o S w I (w3.setCell ⟨o,1,none⟩ (.int .i64 ((z.pos:Int)+1)))):=ad.out.set _ _
       have aa:Hid ((w3.setCell ⟨o,1,none⟩ (.int .i64 ((z.pos:Int)+1))).heap[w.heap.size]? =some (.map (esS o) 5)):=(zx ai).trans N.out
       refine (zka C Z H j o I (adv z) _ K.out).mono ?_
       cases D:stmtI C 5 sNone cSemi (adv z) with
       |error p=>
        rintro e L ⟨rfl,hb⟩
        have HB:Hid (Below j w L):=(HH.out.back M.out).trans hb
        have HX:Hid (zM C q= .error p):=bdE HZ.out D
        unfold Pan
        go_wp2
        refine⟨rfl,?_⟩
        rw[HX.out]
        exact⟨rfl,HB.out⟩
       |ok a5=>
        rintro e L ⟨rfl,S5,m,s⟩
        have U:Hid (L.heap[w.heap.size]? =some (.map (esS o) 5)):=zbH K.out aa.out s
        have O:=zc m
        have Y:Hid (IS o S w S5 L):=M.out.trans s
        clear m s
        have Q:=zc (bdO HZ.out D)
        have X:=zc (zc4 V.out D)
        go_wp2
        go_roundg (gk-1)
        case rel=>exact⟨S5,a5,Q.out,by have:=X.out;omega,O.out,Y.out,U.out⟩
        case measure=>omega
      |false=>
       cases t4:isT C z.pos 1 sFail with
       |true=>
        have E:zaC C z=stmtI C 6 sNone cSemi (adv z):=by rw[zaC,t0,t1,t2,t3,t4,hs];simp only[Bool.false_eq_true,↓reduceIte,Bool.and_self]
        have HZ:=zc (ae.out.trans (zc3 hp E))
        have V:=zc E
        clear E
        rw[zcN t4]
        have al:=zcM N.out (ztp o)
        go_wp2_with fail
        have K:Hid (IM C Z H j o I (adv z) (w3.setCell ⟨o,1,none⟩ (.int .i64 ((z.pos:Int)+1)))):=ac.out.adv hp
        have M:Hid (IS o S w I (w3.setCell ⟨o,1,none⟩ (.int .i64 ((z.pos:Int)+1)))):=ad.out.set _ _
        have aa:Hid ((w3.setCell ⟨o,1,none⟩ (.int .i64 ((z.pos:Int)+1))).heap[w.heap.size]? =some (.map (esS o) 5)):=(zx ai).trans N.out
        refine (zoT C Z H j o I (adv z) _ K.out).mono ?_
        cases D:stmtI C 6 sNone cSemi (adv z) with
        |error p=>
         rintro e L ⟨rfl,hb⟩
         have HB:Hid (Below j w L):=(HH.out.back M.out).trans hb
         have HX:Hid (zM C q= .error p):=bdE HZ.out D
         unfold Pan
         go_wp2
         refine⟨rfl,?_⟩
         rw[HX.out]
         exact⟨rfl,HB.out⟩
        |ok a5=>
         rintro e L ⟨rfl,S5,m,s⟩
         have U:Hid (L.heap[w.heap.size]? =some (.map (esS o) 5)):=zbH K.out aa.out s
         have O:=zc m
         have Y:Hid (IS o S w S5 L):=M.out.trans s
         clear m s
         have Q:=zc (bdO HZ.out D)
         have X:=zc (zc4 V.out D)
         go_wp2
         go_roundg (gk-1)
         case rel=>exact⟨S5,a5,Q.out,by have:=X.out;omega,O.out,Y.out,U.out⟩
         case measure=>omega
       |false=>
        have E:zaC C z=letJ C 3 z:=by rw[zaC,t0,t1,t2,t3,t4,hs];simp only[Bool.false_eq_true,↓reduceIte,Bool.and_false,Bool.not_true,Bool.false_and]
        have HZ:=zc (ae.out.trans (zc3 hp E))
        have V:=zc E
        clear E
        obtain⟨vz,al⟩:=zmc N.out (ztq o (zc6 C z.pos) (zcO t0 (by decide)) (zcO t1 (by decide)) (zcO t2 (by decide)) (zcO t3 (by decide)) (zcO t4 (by decide)))
        go_wp2_with fail
        refine (zjY C Z H j o I z _ ac.out).mono ?_
        cases D:letJ C 3 z with
        |error p=>
         rintro e L ⟨rfl,hb⟩
         have HB:Hid (Below j w L):=(HH.out.back ad.out).trans hb
         have HX:Hid (zM C q= .error p):=bdE HZ.out D
         unfold Pan
         go_wp2
         refine⟨rfl,?_⟩
         rw[HX.out]
         exact⟨rfl,HB.out⟩
        |ok a5=>
         rintro e L ⟨rfl,S5,m,s⟩
         have U:Hid (L.heap[w.heap.size]? =some (.map (esS o) 5)):=zbH ac.out N.out s
         have O:=zc m
         have Y:Hid (IS o S w S5 L):=ad.out.trans s
         clear m s
         have Q:=zc (bdO HZ.out D)
         have X:=zc (zc4 V.out D)
         go_wp2
         go_roundg (gk-1)
         case rel=>exact⟨S5,a5,Q.out,by have:=X.out;omega,O.out,Y.out,U.out⟩
         case measure=>omega
  ·have aG: ¬((z.pos:Int)<(C.ts.length:Int)):=by omega
   go_wp2_with fail
   refine wp_region_quiet_below (by kernel_rfl) (by kernel_rfl) ?_
   repeat (go_big_quiet_step (fail))
   refine wpQuiet_nil ?_
   intro w2 aq
   obtain⟨⟨dq,aD⟩,ab⟩:=aq
   have ag:Hid (Below wr.heap.size wr w2):=by show Below _ _ _;rw[ab];exact below_regrown _ _ _
   clear ab k0 k1 C0 C1
   have J:Hid (IM C Z H j o I z w2):=an.out.later ag.out
   have ao:Hid (IS o S w I w2):=ar.out.trans (IS.below ag.out)
   have am:Hid (w2.heap[w.heap.size]? =some (.map (esS o) 5)):=zbH an.out aw.out (IS.below ag.out)
   have HX:=zc (ae.out.trans (zmk hp))
   obtain⟨c0,c1,c2,c3,c4,c5,c6,c7,c8,c9,cf⟩:=zag J.out.cells
   have ak:=J.out.mem.own.ep
   have aK:=J.out.mem.inv.ep
   have aj:=J.out.free
   have af:=zc aj
   clear aj
   have au:=J.out.lt
   rcases J.out.mem.own.la.nil_or with ⟨ha,hc,hn⟩|⟨gl,ha⟩
   ·have HN:=zc (List.eq_nil_of_length_eq_zero hn)
    rw[ha,hc,hn] at c9
    clear ha hc hn
    go_wp2_with fail
    go_region_law (first|(refine zmj rfl (.tmp 41) (.tmp 45) 28 rfl 77 i0 Tryz.underlying28 hi j 4 z.ep.length I.ep _ (by rfl) (by exact ak) (by rfl) ?_))
    all_goals
     go_wp2
     go_end0
     rw[HX.out]
     refine⟨rfl,I,J.out.mem.wholeI0 HN.out af.out (fun k hk=>zx hk),⟨.slice (some ⟨Z,0,none⟩) C.ts.length H,.int .i64 z.pos,.int .i64 C.fin,.bool C.scr,.slice I.la.a z.la.length I.la.cap,(zbf J.out.cells).trans (by simp[HN.out])⟩,?_⟩
     exact (HH.out.back (ao.out.set _ _)).drew
   ·have ax:OwnR w2 j 77 4 ⟨some ⟨gl,0,none⟩,I.la.cap⟩ z.la.length (z.la.flatMap epL):=by have:=J.out.mem.own.la;unfold OwnR at this ⊢;rw[ha] at this;exact this
    rw[ha] at c9
    have aF:=J.out.mem.base
    have aI:Hid (some o≠I.ep.blk):=fun e=>af.out (.inr (.inr (.inl e.symm)))
    go_wp2_with fail
    go_region_law (first|(refine zmi rfl (.tmp 41) (.tmp 45) 28 rfl j 77 i0 _ 4 56 Tryz.underlying28 hi az aH aE rfl (by decide) (by decide) I.ep z.ep.length _ (by rfl) (by exact ak) gl z.la.length I.la.cap j _ (by rfl) (by exact ax) (zhJ _) (by omega) (by exact aF) ?_;intro r' wz hr ap av;have g2:=(ap.block o (by exact au) aI.out).trans (by exact J.out.cells);obtain⟨d0,d1,d2,d3,d4,d5,d6,d7,d8,d9,df⟩:=zag g2))
    all_goals
     have HR:=zc hr
     have ah:=zc ap
     have ay:=zc av
     have am:=zc g2
     clear hr ap av g2 c0 c1 c2 c3 c4 c5 c6 c7 c8 c9 cf ak ax
     go_wp2
     go_end0
     rw[HX.out]
     refine⟨rfl,{I with ep:=r'},J.out.drew.mem.wholeI ah.out HR.out ay.out au af.out (fun k hk=>zx hk),⟨.slice (some ⟨Z,0,none⟩) C.ts.length H,.int .i64 z.pos,.int .i64 C.fin,.bool C.scr,.slice I.la.a z.la.length I.la.cap,(zbf am.out).trans (by simp)⟩,?_⟩
     exact ((HH.out.back ao.out).trans ⟨ah.out.os,ah.out.tape,ah.out.output,ah.out.size,fun k hk=>ah.out.block k (show k<w2.heap.size by omega) (fun e=>by have:=(J.out.mem.own.ep.typed e.symm).1;omega)⟩).setCell J.out.ge _
theorem zt6 (C:Cx) (Z H j o:Nat) (S:Sv) (q:PS) (w:World) (h:IM C Z H j o S q w) (hC:zb0 C) (hs:C.scr=false):
  Calls Tryz.prog 20 #[.pointer (some ⟨o,0,none⟩)] w (ziX j o (zM C q) w):=by
 obtain⟨i0,hi,az,aH,aE⟩:=info_parts Tryz.infoExp
 have HH:=zc h
 clear h
 go_enter Tryz.func20,Tryz.ntmps20
 go_wp2_with fail
 refine (ztr C Z H j o S q _ HH.out hs).mono ?_
 rintro e w1 ⟨rfl,hg,hb⟩
 have aA:Hid (IM C Z H j o S q w1):=HH.out.later hb
 have aC:Hid (IS o S w S w1):=IS.below hb
 have aB:=zc hg
 clear hg hb
 go_wp2
 go_loopg [] (C.ts.length+1) (fun k wr=>∃(I:Sv) (z:PS),zM C q=zM C z∧C.ts.length-z.pos<k∧IM C Z H j o I z wr∧IS o S w I wr∧wr.heap[w.heap.size]? =some (.map (esM o) 6))
 case atStart=>exact⟨S,q,rfl,by omega,aA.out,aC.out,aB.out⟩
 case round=>
  obtain⟨I,z,hy,hk,m',s',g'⟩:=hrel
  have ad:=zc hy
  have an:Hid (IM C Z H j o I z wr):=m'
  have ar:Hid (IS o S w I wr):=s'
  have aw:Hid (wr.heap[w.heap.size]? =some (.map (esM o) 6)):=g'
  obtain⟨c0,c1,_,_,_,_,_,_,_,_,_⟩:=zag m'.cells
  have C0:=zc c0
  have C1:=zc c1
  have aL:=m'.mem.inv.pos
  have aJ:=m'.mem.few
  clear hy m' s' g' c0 c1
  have k0:=cell_regrown C0.out
  have k1:=cell_regrown C1.out
  by_cases hp:z.pos<C.ts.length
  ·have aG:((z.pos:Int)<(C.ts.length:Int)):=by omega
   go_wp2_with fail
   refine wp_region_quiet_below (by kernel_rfl) (by kernel_rfl) ?_
   repeat (go_big_quiet_step (fail))
   refine wpQuiet_nil ?_
   intro w2 aq
   obtain⟨⟨dq,aD⟩,ae⟩:=aq
   have ag:Hid (Below wr.heap.size wr w2):=by show Below _ _ _;rw[ae];exact below_regrown _ _ _
   clear ae k0 k1 C0 C1
   have J:Hid (IM C Z H j o I z w2):=an.out.later ag.out
   have ao:Hid (IS o S w I w2):=ar.out.trans (IS.below ag.out)
   have am:Hid (w2.heap[w.heap.size]? =some (.map (esM o) 6)):=zbH an.out aw.out (IS.below ag.out)
   go_wp2_with fail
   refine (zkb C Z H j o I z _ J.out).mono ?_
   rintro e w3 ⟨rfl,hb⟩
   have ab:Hid (IM C Z H j o I z w3):=J.out.later hb
   have ac:Hid (IS o S w I w3):=ao.out.trans (IS.below hb)
   have N:Hid (w3.heap[w.heap.size]? =some (.map (esM o) 6)):=zbH J.out am.out (IS.below hb)
   clear hb
   have ah:w.heap.size≠o:=by have:=HH.out.lt;omega
   obtain⟨c0,c1,c2,c3,c4,c5,c6,c7,c8,c9,cf⟩:=zag ab.out.cells
   cases t0:isT C z.pos 1 sLet with
   |true=>
    have E:zaC C z=letJ C 1 (adv z):=by rw[zaC,t0];rfl
    have HZ:=zc (ad.out.trans (zc3 hp E))
    have V:=zc E
    clear E
    rw[zcN t0]
    have aj:=zcM N.out (zts o)
    go_wp2_with fail
    have K:Hid (IM C Z H j o I (adv z) (w3.setCell ⟨o,1,none⟩ (.int .i64 ((z.pos:Int)+1)))):=ab.out.adv hp
    have L:Hid (IS o S w I (w3.setCell ⟨o,1,none⟩ (.int .i64 ((z.pos:Int)+1)))):=ac.out.set _ _
    have aa:Hid ((w3.setCell ⟨o,1,none⟩ (.int .i64 ((z.pos:Int)+1))).heap[w.heap.size]? =some (.map (esM o) 6)):=(zx ah).trans N.out
    refine (zhV C Z H j o I (adv z) _ K.out).mono ?_
    cases D:letJ C 1 (adv z) with
    |error p=>
     rintro e M ⟨rfl,hb⟩
     have HB:Hid (Below j w M):=(HH.out.back L.out).trans hb
     have HX:Hid (zM C q= .error p):=bdE HZ.out D
     unfold Pan
     go_wp2
     refine⟨rfl,?_⟩
     rw[HX.out]
     exact⟨rfl,HB.out⟩
    |ok a5=>
     rintro e M ⟨rfl,S5,m,s⟩
     have U:Hid (M.heap[w.heap.size]? =some (.map (esM o) 6)):=zbH K.out aa.out s
     have O:=zc m
     have Y:Hid (IS o S w S5 M):=L.out.trans s
     clear m s
     have Q:=zc (bdO HZ.out D)
     have X:=zc (zc4 V.out D)
     go_wp2
     go_roundg (gk-1)
     case rel=>exact⟨S5,a5,Q.out,by have:=X.out;omega,O.out,Y.out,U.out⟩
     case measure=>omega
   |false=>
    cases t1:isT C z.pos 1 sFunction with
    |true=>
     have E:zaC C z=fnI C (adv z):=by rw[zaC,t0,t1];simp only[Bool.false_eq_true,↓reduceIte]
     have HZ:=zc (ad.out.trans (zc3 hp E))
     have V:=zc E
     clear E
     rw[zcN t1]
     have aj:=zcM N.out (ztt o)
     go_wp2_with fail
     have K:Hid (IM C Z H j o I (adv z) (w3.setCell ⟨o,1,none⟩ (.int .i64 ((z.pos:Int)+1)))):=ab.out.adv hp
     have L:Hid (IS o S w I (w3.setCell ⟨o,1,none⟩ (.int .i64 ((z.pos:Int)+1)))):=ac.out.set _ _
     have aa:Hid ((w3.setCell ⟨o,1,none⟩ (.int .i64 ((z.pos:Int)+1))).heap[w.heap.size]? =some (.map (esM o) 6)):=(zx ah).trans N.out
     refine (zhW C Z H j o I (adv z) _ K.out).mono ?_
     cases D:fnI C (adv z) with
     |error p=>
      rintro e M ⟨rfl,hb⟩
      have HB:Hid (Below j w M):=(HH.out.back L.out).trans hb
      have HX:Hid (zM C q= .error p):=bdE HZ.out D
      unfold Pan
      go_wp2
      refine⟨rfl,?_⟩
      rw[HX.out]
      exact⟨rfl,HB.out⟩
     |ok a5=>
      rintro e M ⟨rfl,S5,m,s⟩
      have U:Hid (M.heap[w.heap.size]? =some (.map (esM o) 6)):=zbH K.out aa.out s
      have O:=zc m
      have Y:Hid (IS o S w S5 M):=L.out.trans s
      clear m s
      have Q:=zc (bdO HZ.out D)
      have X:=zc (zc4 V.out D)
      go_wp2
      go_roundg (gk-1)
      case rel=>exact⟨S5,a5,Q.out,by have:=X.out;omega,O.out,Y.out,U.out⟩
      case measure=>omega
    |false=>
     cases t2:isT C z.pos 1 sPrint with
     |true=>
      have E:zaC C z=printI C (adv z):=by rw[zaC,t0,t1,t2];simp only[Bool.false_eq_true,↓reduceIte]
      have HZ:=zc (ad.out.trans (zc3 hp E))
      have V:=zc E
      clear E
      rw[zcN t2]
      have aj:=zcM N.out (ztu o)
      go_wp2_with fail
      have K:Hid (IM C Z H j o I (adv z) (w3.setCell ⟨o,1,none⟩ (.int .i64 ((z.pos:Int)+1)))):=ab.out.adv hp
      have L:Hid (IS o S w I (w3.setCell ⟨o,1,none⟩ (.int .i64 ((z.pos:Int)+1)))):=ac.out.set _ _
      have aa:Hid ((w3.setCell ⟨o,1,none⟩ (.int .i64 ((z.pos:Int)+1))).heap[w.heap.size]? =some (.map (esM o) 6)):=(zx ah).trans N.out
      refine (zjZ C Z H j o I (adv z) _ K.out).mono ?_
      cases D:printI C (adv z) with
      |error p=>
       rintro e M ⟨rfl,hb⟩
       have HB:Hid (Below j w M):=(HH.out.back L.out).trans hb
       have HX:Hid (zM C q= .error p):=bdE HZ.out D
       unfold Pan
       go_wp2
       refine⟨rfl,?_⟩
       rw[HX.out]
       exact⟨rfl,HB.out⟩
      |ok a5=>
       rintro e M ⟨rfl,S5,m,s⟩
       have U:Hid (M.heap[w.heap.size]? =some (.map (esM o) 6)):=zbH K.out aa.out s
       have O:=zc m
       have Y:Hid (IS o S w S5 M):=L.out.trans s
       clear m s
       have Q:=zc (bdO HZ.out D)
       have X:=zc (zc4 V.out D)
       go_wp2
       go_roundg (gk-1)
       case rel=>exact⟨S5,a5,Q.out,by have:=X.out;omega,O.out,Y.out,U.out⟩
       case measure=>omega
     |false=>
      cases t3:isT C z.pos 1 sThrow with
      |true=>
       have E:zaC C z=stmtI C 5 sNone cSemi (adv z):=by rw[zaC,t0,t1,t2,t3];simp only[Bool.false_eq_true,↓reduceIte]
       have HZ:=zc (ad.out.trans (zc3 hp E))
       have V:=zc E
       clear E
       rw[zcN t3]
       have aj:=zcM N.out (ztv o)
       go_wp2_with fail
       have K:Hid (IM C Z H j o I (adv z) (w3.setCell ⟨o,1,none⟩ (.int .i64 ((z.pos:Int)+1)))):=ab.out.adv hp
       have L:Hid (IS o S w I (w3.setCell ⟨o,1,none⟩ (.int .i64 ((z.pos:Int)+1)))):=ac.out.set _ _
       have aa:Hid ((w3.setCell ⟨o,1,none⟩ (.int .i64 ((z.pos:Int)+1))).heap[w.heap.size]? =some (.map (esM o) 6)):=(zx ah).trans N.out
       refine (zka C Z H j o I (adv z) _ K.out).mono ?_
       cases D:stmtI C 5 sNone cSemi (adv z) with
       |error p=>
        rintro e M ⟨rfl,hb⟩
        have HB:Hid (Below j w M):=(HH.out.back L.out).trans hb
        have HX:Hid (zM C q= .error p):=bdE HZ.out D
        unfold Pan
        go_wp2
        refine⟨rfl,?_⟩
        rw[HX.out]
        exact⟨rfl,HB.out⟩
       |ok a5=>
        rintro e M ⟨rfl,S5,m,s⟩
        have U:Hid (M.heap[w.heap.size]? =some (.map (esM o) 6)):=zbH K.out aa.out s
        have O:=zc m
        have Y:Hid (IS o S w S5 M):=L.out.trans s
        clear m s
        have Q:=zc (bdO HZ.out D)
        have X:=zc (zc4 V.out D)
        go_wp2
        go_roundg (gk-1)
        case rel=>exact⟨S5,a5,Q.out,by have:=X.out;omega,O.out,Y.out,U.out⟩
        case measure=>omega
      |false=>
       cases t4:isT C z.pos 1 sImport with
       |true=>
        have E:zaC C z=zaW C (adv z):=by rw[zaC,t0,t1,t2,t3,t4,hs];simp only[Bool.false_eq_true,↓reduceIte,Bool.false_and,Bool.not_false,Bool.and_self]
        have HZ:=zc (ad.out.trans (zc3 hp E))
        have V:=zc E
        clear E
        rw[zcN t4]
        have aj:=zcM N.out (ztw o)
        go_wp2_with fail
        have K:Hid (IM C Z H j o I (adv z) (w3.setCell ⟨o,1,none⟩ (.int .i64 ((z.pos:Int)+1)))):=ab.out.adv hp
        have L:Hid (IS o S w I (w3.setCell ⟨o,1,none⟩ (.int .i64 ((z.pos:Int)+1)))):=ac.out.set _ _
        have aa:Hid ((w3.setCell ⟨o,1,none⟩ (.int .i64 ((z.pos:Int)+1))).heap[w.heap.size]? =some (.map (esM o) 6)):=(zx ah).trans N.out
        refine (zsM C Z H j o I (adv z) _ K.out hC).mono ?_
        cases D:zaW C (adv z) with
        |error p=>
         rintro e M ⟨rfl,hb⟩
         have HB:Hid (Below j w M):=(HH.out.back L.out).trans hb
         have HX:Hid (zM C q= .error p):=bdE HZ.out D
         unfold Pan
         go_wp2
         refine⟨rfl,?_⟩
         rw[HX.out]
         exact⟨rfl,HB.out⟩
        |ok a5=>
         rintro e M ⟨rfl,S5,m,s⟩
         have U:Hid (M.heap[w.heap.size]? =some (.map (esM o) 6)):=zbH K.out aa.out s
         have O:=zc m
         have Y:Hid (IS o S w S5 M):=L.out.trans s
         clear m s
         have Q:=zc (bdO HZ.out D)
         have X:=zc (zc4 V.out D)
         go_wp2
         go_roundg (gk-1)
         case rel=>exact⟨S5,a5,Q.out,by have:=X.out;omega,O.out,Y.out,U.out⟩
         case measure=>omega
       |false=>
        cases t5:isT C z.pos 1 sExport with
        |true=>
         have E:zaC C z=zat C (adv z):=by rw[zaC,t0,t1,t2,t3,t4,t5,hs];simp only[Bool.false_eq_true,↓reduceIte,Bool.false_and,Bool.not_false,Bool.and_self,Bool.and_false]
         have HZ:=zc (ad.out.trans (zc3 hp E))
         have V:=zc E
         clear E
         rw[zcN t5]
         have aj:=zcM N.out (ztx o)
         go_wp2_with fail
         have K:Hid (IM C Z H j o I (adv z) (w3.setCell ⟨o,1,none⟩ (.int .i64 ((z.pos:Int)+1)))):=ab.out.adv hp
         have L:Hid (IS o S w I (w3.setCell ⟨o,1,none⟩ (.int .i64 ((z.pos:Int)+1)))):=ac.out.set _ _
         have aa:Hid ((w3.setCell ⟨o,1,none⟩ (.int .i64 ((z.pos:Int)+1))).heap[w.heap.size]? =some (.map (esM o) 6)):=(zx ah).trans N.out
         refine (ztj C Z H j o I (adv z) _ K.out hC).mono ?_
         cases D:zat C (adv z) with
         |error p=>
          rintro e M ⟨rfl,hb⟩
          have HB:Hid (Below j w M):=(HH.out.back L.out).trans hb
          have HX:Hid (zM C q= .error p):=bdE HZ.out D
          unfold Pan
          go_wp2
          refine⟨rfl,?_⟩
          rw[HX.out]
          exact⟨rfl,HB.out⟩
         |ok a5=>
          rintro e M ⟨rfl,S5,m,s⟩
          have U:Hid (M.heap[w.heap.size]? =some (.map (esM o) 6)):=zbH K.out aa.out s
          have O:=zc m
          have Y:Hid (IS o S w S5 M):=L.out.trans s
          clear m s
          have Q:=zc (bdO HZ.out D)
          have X:=zc (zc4 V.out D)
          go_wp2
          go_roundg (gk-1)
          case rel=>exact⟨S5,a5,Q.out,by have:=X.out;omega,O.out,Y.out,U.out⟩
          case measure=>omega
        |false=>
         have E:zaC C z=letJ C 3 z:=by rw[zaC,t0,t1,t2,t3,t4,t5,hs];simp only[Bool.false_eq_true,↓reduceIte,Bool.false_and,Bool.not_false,Bool.and_false]
         have HZ:=zc (ad.out.trans (zc3 hp E))
         have V:=zc E
         clear E
         obtain⟨vz,aj⟩:=zmc N.out (zty o (zc6 C z.pos) (zcO t0 (by decide)) (zcO t1 (by decide)) (zcO t2 (by decide)) (zcO t3 (by decide)) (zcO t4 (by decide)) (zcO t5 (by decide)))
         go_wp2_with fail
         refine (zjY C Z H j o I z _ ab.out).mono ?_
         cases D:letJ C 3 z with
         |error p=>
          rintro e M ⟨rfl,hb⟩
          have HB:Hid (Below j w M):=(HH.out.back ac.out).trans hb
          have HX:Hid (zM C q= .error p):=bdE HZ.out D
          unfold Pan
          go_wp2
          refine⟨rfl,?_⟩
          rw[HX.out]
          exact⟨rfl,HB.out⟩
         |ok a5=>
          rintro e M ⟨rfl,S5,m,s⟩
          have U:Hid (M.heap[w.heap.size]? =some (.map (esM o) 6)):=zbH ab.out N.out s
          have O:=zc m
          have Y:Hid (IS o S w S5 M):=ac.out.trans s
          clear m s
          have Q:=zc (bdO HZ.out D)
          have X:=zc (zc4 V.out D)
          go_wp2
          go_roundg (gk-1)
          case rel=>exact⟨S5,a5,Q.out,by have:=X.out;omega,O.out,Y.out,U.out⟩
          case measure=>omega
  ·have aG: ¬((z.pos:Int)<(C.ts.length:Int)):=by omega
   go_wp2_with fail
   refine wp_region_quiet_below (by kernel_rfl) (by kernel_rfl) ?_
   repeat (go_big_quiet_step (fail))
   refine wpQuiet_nil ?_
   intro w2 aq
   obtain⟨⟨dq,aD⟩,ae⟩:=aq
   have ag:Hid (Below wr.heap.size wr w2):=by show Below _ _ _;rw[ae];exact below_regrown _ _ _
   clear ae k0 k1 C0 C1
   have J:Hid (IM C Z H j o I z w2):=an.out.later ag.out
   have ao:Hid (IS o S w I w2):=ar.out.trans (IS.below ag.out)
   have am:Hid (w2.heap[w.heap.size]? =some (.map (esM o) 6)):=zbH an.out aw.out (IS.below ag.out)
   have HX:=zc (ad.out.trans (zmk hp))
   obtain⟨c0,c1,c2,c3,c4,c5,c6,c7,c8,c9,cf⟩:=zag J.out.cells
   have al:=J.out.mem.own.ep
   have aK:=J.out.mem.inv.ep
   have ak:=J.out.free
   have af:=zc ak
   clear ak
   have au:=J.out.lt
   rcases J.out.mem.own.la.nil_or with ⟨ha,hc,hn⟩|⟨gl,ha⟩
   ·have HN:=zc (List.eq_nil_of_length_eq_zero hn)
    rw[ha,hc,hn] at c9
    clear ha hc hn
    go_wp2_with fail
    go_region_law (first|(refine zmj rfl (.tmp 41) (.tmp 45) 28 rfl 77 i0 Tryz.underlying28 hi j 4 z.ep.length I.ep _ (by rfl) (by exact al) (by rfl) ?_))
    all_goals
     go_wp2
     go_end0
     rw[HX.out]
     refine⟨rfl,I,J.out.mem.wholeI0 HN.out af.out (fun k hk=>zx hk),⟨.slice (some ⟨Z,0,none⟩) C.ts.length H,.int .i64 z.pos,.int .i64 C.fin,.bool C.scr,.slice I.la.a z.la.length I.la.cap,(zbf J.out.cells).trans (by simp[HN.out])⟩,?_⟩
     exact (HH.out.back (ao.out.set _ _)).drew
   ·have ax:OwnR w2 j 77 4 ⟨some ⟨gl,0,none⟩,I.la.cap⟩ z.la.length (z.la.flatMap epL):=by have:=J.out.mem.own.la;unfold OwnR at this ⊢;rw[ha] at this;exact this
    rw[ha] at c9
    have aF:=J.out.mem.base
    have aI:Hid (some o≠I.ep.blk):=fun e=>af.out (.inr (.inr (.inl e.symm)))
    go_wp2_with fail
    go_region_law (first|(refine zmi rfl (.tmp 41) (.tmp 45) 28 rfl j 77 i0 _ 4 56 Tryz.underlying28 hi az aH aE rfl (by decide) (by decide) I.ep z.ep.length _ (by rfl) (by exact al) gl z.la.length I.la.cap j _ (by rfl) (by exact ax) (zhJ _) (by omega) (by exact aF) ?_;intro r' wz hr ap av;have g2:=(ap.block o (by exact au) aI.out).trans (by exact J.out.cells);obtain⟨d0,d1,d2,d3,d4,d5,d6,d7,d8,d9,df⟩:=zag g2))
    all_goals
     have HR:=zc hr
     have ai:=zc ap
     have ay:=zc av
     have am:=zc g2
     clear hr ap av g2 c0 c1 c2 c3 c4 c5 c6 c7 c8 c9 cf al ax
     go_wp2
     go_end0
     rw[HX.out]
     refine⟨rfl,{I with ep:=r'},J.out.drew.mem.wholeI ai.out HR.out ay.out au af.out (fun k hk=>zx hk),⟨.slice (some ⟨Z,0,none⟩) C.ts.length H,.int .i64 z.pos,.int .i64 C.fin,.bool C.scr,.slice I.la.a z.la.length I.la.cap,(zbf am.out).trans (by simp)⟩,?_⟩
     exact ((HH.out.back ao.out).trans ⟨ai.out.os,ai.out.tape,ai.out.output,ai.out.size,fun k hk=>ai.out.block k (show k<w2.heap.size by omega) (fun e=>by have:=(J.out.mem.own.ep.typed e.symm).1;omega)⟩).setCell J.out.ge _
end Go.Proofs.YthfeoomfiafldaaGreat
