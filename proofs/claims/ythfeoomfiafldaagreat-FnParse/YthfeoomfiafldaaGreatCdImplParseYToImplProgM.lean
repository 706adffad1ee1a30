/-
  The table of items of impl's parser: what is stored in it,what is looked up.
  What the items of impl's parser read is what the items of the document are. No program is spoken of.
  'append' of a row onto a row of the call's own,as one step of a region that draws its order; a program handed back. No program is spoken of but for the numbers of its types.
  What program of impl's parser answers: the walks.
  What program of impl's parser answers of a module: the walk.
-/
import Derived.Maps.Own
import Derived.Test.YthfeoomfiafldaaGreatCdImplParseVToImplParseX
namespace Go.Proofs.YthfeoomfiafldaaGreat
set_option maxRecDepth 100000
set_option maxHeartbeats 3200000
open Go.RowKit Go.PlainAid Go.Sort Go.Maps Go.ChangeMaps
def eM (gp:Nat) (k:ByteArray) (f b:Nat):MapEntry:=⟨.string k,.func (.func f) #[.pointer (some ⟨gp,0,none⟩)] #[],b⟩
def esS (gp:Nat):Array MapEntry:=#[eM gp sLet 85 0,eM gp sFunction 86 1,eM gp sPrint 87 2,eM gp sThrow 88 3,eM gp sFail 89 4]
def esM (gp:Nat):Array MapEntry:=#[eM gp sLet 85 0,eM gp sFunction 86 1,eM gp sPrint 87 2,eM gp sThrow 88 3,eM gp sImport 90 4,eM gp sExport 91 5]
theorem ziU (b:Bool) (k:ByteArray) (W:World):(Instr.checkKey b 10000 9 (.string k)).run Tryz.prog W= .ok () W:=by
 show (Instr.checkKey b (9999+1) 9 (.string k)).run Tryz.prog W= .ok () W
 rw[Instr.checkKey]
 simp[run_underlying Tryz.underlying9]
theorem ziV {k:ByteArray} {j:List MapEntry} {r:Option (Nat×Value)} (o:Instr.findNow .string (.string k) j 0=some r) (W:World):(Instr.findKey 9 (.string k) j).run Tryz.prog W= .ok r W:=by
 simp[Instr.findKey,run_underlying Tryz.underlying9,o]
theorem zcL {W w0:World} {B g c:Nat} {o:Array MapEntry} {k:ByteArray} {v:Value} (z:W.heap[g]? =some (.map o c)) (E:Instr.findNow .string (.string k) o.toList 0=some none) (j:Below B w0 W) (I:B≤g):
  ∃D,(Instr.mapUpdate 95 (.map (some g)) (.string k) v).run Tryz.prog W= .ok () D∧D.heap[g]? =some (.map (o.push ⟨.string k,v,c⟩) (c+1))∧Below B w0 D:=by
 refine⟨setBlock W g (.map (o.push ⟨.string k,v,c⟩) (c+1)),?_,heap_setBlock_same z _,⟨j.os,j.tape,j.output,by simpa [setBlock] using j.size,fun i H=>(heap_setBlock_other z _ (by omega)).trans (j.block i H)⟩⟩
 simp[Instr.mapUpdate,run_underlying Tryz.underlying95,MapKept.run_getObj_map z,ziU,ziV E,MapKept.run_setObj_map _ z,Result.andThen,setBlock]
theorem zcM {W:World} {g c i:Nat} {j:Array MapEntry} {k:ByteArray} {v:Value} (o:W.heap[g]? =some (.map j c)) (z:Instr.findNow .string (.string k) j.toList 0=some (some (i,v))):
  (Instr.lookup 95 (.map (some g)) (.string k) true).run Tryz.prog W= .ok (.tuple #[v,.bool true]) W:=by
 simp[Instr.lookup,run_underlying Tryz.underlying95,MapKept.run_getObj_map o,ziU,ziV z,Result.andThen]
theorem zmc {W:World} {g c:Nat} {o:Array MapEntry} {k:ByteArray} (z:W.heap[g]? =some (.map o c)) (D:Instr.findNow .string (.string k) o.toList 0=some none):
  ∃v,(Instr.lookup 95 (.map (some g)) (.string k) true).run Tryz.prog W= .ok (.tuple #[v,.bool false]) W:=by
 have j: ∃v,(zeroValue 1).run Tryz.prog W= .ok v W:=⟨.nilFunc,by kernel_rfl⟩
 obtain⟨v,j⟩:=j
 exact⟨v,by simp[Instr.lookup,run_underlying Tryz.underlying95,MapKept.run_getObj_map z,ziU,ziV D,Result.andThen,j]⟩
theorem ztk (C:Cx) (X j z o:Nat) (S:Sv) (q:PS) (w:World) (h:IM C X j z o S q w) (Z:C.scr=true):
  Calls Tryz.prog 44 #[.pointer (some ⟨o,0,none⟩)] w fun e O=>e= .returned (.map (some w.heap.size))∧O.heap[w.heap.size]? =some (.map (esS o) 5)∧Below w.heap.size w O:=by
 have HH:=zc h
 have Y:=@run_makeMap Tryz.prog
 have aa: ∀(N:Fn) (first j:Array Value) (w:World),(Instr.makeFunc N first j).run Tryz.prog w= .ok (.func N first j) w:=fun _ _ _ _=>rfl
 obtain⟨W1,r1,I,Q⟩:=zcL (k:=sLet) (v:=.func (.func 85) #[.pointer (some ⟨o,0,none⟩)] #[]) (heap_alloc_new w (.map #[] 0)) rfl ((Below.refl w.heap.size w).alloc (Nat.le_refl _) _) (Nat.le_refl _)
 obtain⟨W2,r2,L,J⟩:=zcL (k:=sFunction) (v:=.func (.func 86) #[.pointer (some ⟨o,0,none⟩)] #[]) I rfl Q (Nat.le_refl _)
 obtain⟨W3,r3,K,H⟩:=zcL (k:=sPrint) (v:=.func (.func 87) #[.pointer (some ⟨o,0,none⟩)] #[]) L rfl J (Nat.le_refl _)
 obtain⟨W4,r4,E,D⟩:=zcL (k:=sThrow) (v:=.func (.func 88) #[.pointer (some ⟨o,0,none⟩)] #[]) K rfl H (Nat.le_refl _)
 obtain⟨W5,r5,U,M⟩:=zcL (k:=sFail) (v:=.func (.func 89) #[.pointer (some ⟨o,0,none⟩)] #[]) E rfl D (Nat.le_refl _)
 have G:=zc U
 have B:=zc M
 obtain⟨_,_,_,V,_,_,_,_,_,_,cf⟩:=zag (HH.out.later D).cells
 rw[Z] at V
 clear h I Q L J K H E D U M
 go_enter Tryz.func44,Tryz.ntmps44
 go_wp2
 go_ret
 exact⟨rfl,G.out,B.out⟩
theorem ztl (j:Nat):Instr.findNow .string (.string sLet) (esS j).toList 0=some (some (0,.func (.func 85) #[.pointer (some ⟨j,0,none⟩)] #[])):=by rfl
theorem ztm (j:Nat):Instr.findNow .string (.string sFunction) (esS j).toList 0=some (some (1,.func (.func 86) #[.pointer (some ⟨j,0,none⟩)] #[])):=by rfl
theorem ztn (j:Nat):Instr.findNow .string (.string sPrint) (esS j).toList 0=some (some (2,.func (.func 87) #[.pointer (some ⟨j,0,none⟩)] #[])):=by rfl
theorem zto (j:Nat):Instr.findNow .string (.string sThrow) (esS j).toList 0=some (some (3,.func (.func 88) #[.pointer (some ⟨j,0,none⟩)] #[])):=by rfl
theorem ztp (j:Nat):Instr.findNow .string (.string sFail) (esS j).toList 0=some (some (4,.func (.func 89) #[.pointer (some ⟨j,0,none⟩)] #[])):=by rfl
theorem ztq (H:Nat) (x:ByteArray) (E:(x==sLet)=false) (z:(x==sFunction)=false) (o:(x==sPrint)=false) (j:(x==sThrow)=false) (D:(x==sFail)=false):Instr.findNow .string (.string x) (esS H).toList 0=some none:=by
 simp[esS,eM,Instr.findNow,Instr.sameNow,E,z,o,j,D]
theorem ztr (C:Cx) (Z o z j:Nat) (S:Sv) (q:PS) (w:World) (h:IM C Z o z j S q w) (hs:C.scr=false):
  Calls Tryz.prog 44 #[.pointer (some ⟨j,0,none⟩)] w fun e Q=>e= .returned (.map (some w.heap.size))∧Q.heap[w.heap.size]? =some (.map (esM j) 6)∧Below w.heap.size w Q:=by
 have HH:=zc h
 have aa:=@run_makeMap Tryz.prog
 have ab: ∀(O:Fn) (first o:Array Value) (w:World),(Instr.makeFunc O first o).run Tryz.prog w= .ok (.func O first o) w:=fun _ _ _ _=>rfl
 obtain⟨W1,r1,I,U⟩:=zcL (k:=sLet) (v:=.func (.func 85) #[.pointer (some ⟨j,0,none⟩)] #[]) (heap_alloc_new w (.map #[] 0)) rfl ((Below.refl w.heap.size w).alloc (Nat.le_refl _) _) (Nat.le_refl _)
 obtain⟨W2,r2,M,J⟩:=zcL (k:=sFunction) (v:=.func (.func 86) #[.pointer (some ⟨j,0,none⟩)] #[]) I rfl U (Nat.le_refl _)
 obtain⟨W3,r3,L,H⟩:=zcL (k:=sPrint) (v:=.func (.func 87) #[.pointer (some ⟨j,0,none⟩)] #[]) M rfl J (Nat.le_refl _)
 obtain⟨W4,r4,E,D⟩:=zcL (k:=sThrow) (v:=.func (.func 88) #[.pointer (some ⟨j,0,none⟩)] #[]) L rfl H (Nat.le_refl _)
 obtain⟨W5,r5,V,N⟩:=zcL (k:=sImport) (v:=.func (.func 90) #[.pointer (some ⟨j,0,none⟩)] #[]) E rfl D (Nat.le_refl _)
 obtain⟨W6,r6,K,X⟩:=zcL (k:=sExport) (v:=.func (.func 91) #[.pointer (some ⟨j,0,none⟩)] #[]) V rfl N (Nat.le_refl _)
 have G:=zc K
 have B:=zc X
 obtain⟨_,_,_,Y,_,_,_,_,_,_,cf⟩:=zag (HH.out.later D).cells
 rw[hs] at Y
 clear h I U M J L H E D V N K X
 go_enter Tryz.func44,Tryz.ntmps44
 go_wp2
 go_ret
 exact⟨rfl,G.out,B.out⟩
theorem zts (j:Nat):Instr.findNow .string (.string sLet) (esM j).toList 0=some (some (0,.func (.func 85) #[.pointer (some ⟨j,0,none⟩)] #[])):=by rfl
theorem ztt (j:Nat):Instr.findNow .string (.string sFunction) (esM j).toList 0=some (some (1,.func (.func 86) #[.pointer (some ⟨j,0,none⟩)] #[])):=by rfl
theorem ztu (j:Nat):Instr.findNow .string (.string sPrint) (esM j).toList 0=some (some (2,.func (.func 87) #[.pointer (some ⟨j,0,none⟩)] #[])):=by rfl
theorem ztv (j:Nat):Instr.findNow .string (.string sThrow) (esM j).toList 0=some (some (3,.func (.func 88) #[.pointer (some ⟨j,0,none⟩)] #[])):=by rfl
theorem ztw (j:Nat):Instr.findNow .string (.string sImport) (esM j).toList 0=some (some (4,.func (.func 90) #[.pointer (some ⟨j,0,none⟩)] #[])):=by rfl
theorem ztx (j:Nat):Instr.findNow .string (.string sExport) (esM j).toList 0=some (some (5,.func (.func 91) #[.pointer (some ⟨j,0,none⟩)] #[])):=by rfl
theorem zty (I:Nat) (x:ByteArray) (H:(x==sLet)=false) (D:(x==sFunction)=false) (z:(x==sPrint)=false) (o:(x==sThrow)=false) (E:(x==sImport)=false) (j:(x==sExport)=false):Instr.findNow .string (.string x) (esM I).toList 0=some none:=by
 simp[esM,eM,Instr.findNow,Instr.sameNow,H,D,z,o,E,j]
def zaC (C:Cx) (q:PS):PR:=
 if isT C q.pos 1 sLet then letJ C 1 (adv q)
 else if isT C q.pos 1 sFunction then fnI C (adv q)
 else if isT C q.pos 1 sPrint then printI C (adv q)
 else if isT C q.pos 1 sThrow then stmtI C 5 sNone cSemi (adv q)
 else if C.scr&&isT C q.pos 1 sFail then stmtI C 6 sNone cSemi (adv q)
 else if !C.scr&&isT C q.pos 1 sImport then zaW C (adv q)
 else if !C.scr&&isT C q.pos 1 sExport then zat C (adv q)
 else letJ C 3 q
theorem ztz (C:Cx) (k:Int) (n:ByteArray) (q:PS):stmtI C k n cSemi q=bd (bd (bd (pE C .sum 0 q) (zd C 4 cSemi)) (zE C k n)) .ok:=by
 rw[zeX,zR,stmtI]
 refine zaf fun a _=>?_
 rw[show zaE C cSemi cSemi.size 0 a=zd C 4 cSemi a from zjS C 59 a]
theorem zfq (C:Cx) (k:Int) (n:ByteArray) (q:PS):bd (bd (pE C .sum 0 q) (zd C 4 cSemi)) (zE C k n)=stmtI C k n cSemi q:=by rw[ztz,zeX]
theorem zt0 (C:Cx) (k:Int) (n:ByteArray) (q:PS):bd (bd (bd (pE C .sum 0 q) (zd C 4 zU)) (zd C 4 cSemi)) (zE C k n)=stmtI C k n cShutSemi q:=by
 rw[zR,zR,stmtI]
 refine zaf fun a _=>?_
 rw[show zaE C cShutSemi cShutSemi.size 0 a=bd (zd C 4 zU a) (zd C 4 cSemi) from zjT C 41 59 a,zR]
theorem zt1 (C:Cx) (k:Int) (n:ByteArray) (q:PS):bd (bd (bd (pE C .sum 0 q) (zd C 4 cSemi)) (zd C 4 zaJ)) (zE C k n)=stmtI C k n cSemiRight q:=by
 rw[zR,zR,stmtI]
 refine zaf fun a _=>?_
 rw[show zaE C cSemiRight cSemiRight.size 0 a=bd (zd C 4 cSemi a) (zd C 4 zaJ) from zjT C 59 125 a,zR]
theorem zmd {C:Cx} {q:PS} (h:isT C q.pos 1 sLet=true):zbA C q=bd (letJ C 1 (adv q)) fun a=>.ok (a,(zf C (q.pos+1)).text):=by
 rw[zbA,withN,zcd h,zh,letJ,zR]
 refine zaf fun a j=>?_
 rw[zR,zh,zR,zR,zR]
 refine zaf fun b _=>?_
 rw[←zR,←zR,zfq,(zaX j).1]
 rfl
theorem zme {C:Cx} {q:PS} (h:isT C q.pos 1 sFunction=true):fnP C q=bd (fnI C (adv q)) fun a=>.ok (a,(zf C (q.pos+1)).text):=by
 rw[fnP,withN,zcd h,zh,fnI,zR]
 refine zaf fun a j=>?_
 rw[show zaE C cCall cCall.size 0 a.1=bd (zd C 4 cOpen a.1) fun a=>bd (zd C 4 zU a) (zd C 4 zF) from zo6 C 40 41 123 a.1,zR,zR,zh]
 rw[(zaX j).1]
 simp only[zR,←zt1]
 rfl
theorem zmf (x:PR) (n:ByteArray):za7 (bd x fun a=>.ok (a,n))=x:=by rw[za7,zR];exact zeX x
theorem ziW (C:Cx) (l:List Ep) (q:PS):impFromI C l q=bd (zaD C (zav C (.ok q))) fun b=>zK (fun e=>zX C (zbW b.2 e)) l (.ok b.1):=by
 rw[impFromI,zaD,zav,zh,zR,zR]
 refine zaf fun a _=>zaf fun b _=>?_
 rw[zR]
 rfl
theorem zt2 {C:Cx} {q:PS} (h:isT C q.pos 1 sImport=true):za3 C q=zaW C (adv q):=by
 rw[za3,zcd h,zh,zaW]
 cases E:isT C (adv q).pos 4 zF with
 |true=>
  have j:((zf C (adv q).pos).kind==3)=false:=by
   have:=zgB E
   rw[beq_iff_eq] at this
   rw[this]
   rfl
  rw[j]
  simp only[Bool.false_eq_true,↓reduceIte]
  rw[zbB,zcd E,zh]
  refine zaf fun a _=>?_
  rw[ziW]
 |false=>
  cases z:isT C (adv q).pos 4 zp with
  |true=>
   have j:((zf C (adv q).pos).kind==3)=false:=by
    have:=zgB z
    rw[beq_iff_eq] at this
    rw[this]
    rfl
   rw[j]
   simp only[Bool.false_eq_true,↓reduceIte]
   rw[zcd z,zh,zR]
   refine zaf fun a _=>zaf fun b _=>?_
   rw[ziW]
   rfl
  |false=>
   cases D:plainB C (adv q).pos false with
   |true=>
    have j:((zf C (adv q).pos).kind==3)=false:=by
     have o:=D
     simp only[plainB,Bool.and_eq_true,beq_iff_eq] at o
     rw[o.1]
     rfl
    rw[j]
    simp only[Bool.false_eq_true,↓reduceIte]
    refine zaf fun a _=>?_
    rw[ziW]
    rfl
   |false=>
    cases j:((zf C (adv q).pos).kind==3) with
    |true=>simp only[Bool.false_eq_true,↓reduceIte]
    |false=>
     simp only[Bool.false_eq_true,↓reduceIte]
     rw[zy,j,zk,D]
     rfl
theorem zt3 (C:Cx) (l:List Ep) (q:PS) (h:isT C q.pos 1 zH=false) (j:za2 l=false):zaB C l q=bd (zd C 4 cSemi q) fun q=>zK (fun e=>zm C (zD e)) l (.ok q):=by rw[zaB,h,j];rfl
theorem zmg (C:Cx) (l:List Ep) (q:PS) (h:(isT C q.pos 1 zH||za2 l)=true):zaB C l q=bd (zaD C (zav C (.ok q))) fun b=>zK (fun e=>zm C (zaj b.2 e)) l (.ok b.1):=by
 rw[zaB,h,if_pos rfl,zaD,zav,zh,zR,zR]
 refine zaf fun a _=>zaf fun b _=>?_
 rw[zR]
 rfl
theorem zt4 {C:Cx} {q:PS} (h:isT C q.pos 1 sExport=true):zV C q=zat C (adv q):=by
 rw[zV,zcd h,zh,zat]
 cases H:isT C (adv q).pos 4 zF with
 |true=>
  simp only[↓reduceIte]
  rw[zbB,zcd H,zh]
  refine zaf fun a _=>?_
  cases o:isT C a.1.pos 1 zH with
  |true=>rw[zmg C a.2 a.1 (by rw[o];rfl),if_neg (by simp)]
  |false=>
   cases j:za2 a.2 with
   |true=>rw[zmg C a.2 a.1 (by rw[j];simp),if_neg (by simp)]
   |false=>rw[zt3 C a.2 a.1 o j,if_pos (by simp)]
 |false=>
  cases E:isT C (adv q).pos 4 zp with
  |true=>
   simp only[Bool.false_eq_true,↓reduceIte]
   rw[zcd E,zaD,zav,zh,zR,zR]
   refine zaf fun a _=>zaf fun b _=>?_
   rw[zR]
   rfl
  |false=>
   cases D:isT C (adv q).pos 1 sDefault with
   |true=>
    simp only[Bool.false_eq_true,↓reduceIte]
    rw[zcd D,zh,zfq]
   |false=>
    cases I:isT C (adv q).pos 1 sLet with
    |true=>
     simp only[Bool.false_eq_true,↓reduceIte]
     rw[zmd I,zR]
     rfl
    |false=>
     cases z:isT C (adv q).pos 1 sFunction with
     |true=>
      simp only[Bool.false_eq_true,↓reduceIte]
      rw[zme z,zR]
      rfl
     |false=>simp only[Bool.false_eq_true,↓reduceIte]
theorem zdT {C:Cx} {i:Nat} {x y:ByteArray} (h:isT C i 1 x=true) (j:(x.toList==y.toList)=false):isT C i 1 y=false:=by
 have e:=zhT h
 rw[isT,e,j]
 simp
theorem zmh (C:Cx) (q:PS):zaC C q=zo C q:=by
 rw[zaC,zo]
 cases z:isT C q.pos 1 sLet with
 |true=>
  rw[zdT z (y:=sImport) (by simp),zdT z (y:=sExport) (by simp)]
  simp only[Bool.false_eq_true,↓reduceIte,Bool.and_false]
  rw[zmd z,zmf]
 |false=>
  cases o:isT C q.pos 1 sFunction with
  |true=>
   rw[zdT o (y:=sImport) (by simp),zdT o (y:=sExport) (by simp)]
   simp only[Bool.false_eq_true,↓reduceIte,Bool.and_false]
   rw[zme o,zmf]
  |false=>
   cases j:isT C q.pos 1 sPrint with
   |true=>
    rw[zdT j (y:=sImport) (by simp),zdT j (y:=sExport) (by simp)]
    simp only[Bool.false_eq_true,↓reduceIte,Bool.and_false]
    rw[zcd j,zh,printI,zR,zR,zR]
    refine zaf fun a _=>?_
    rw[←zt0,zR,zR]
   |false=>
    cases D:isT C q.pos 1 sThrow with
    |true=>
     rw[zdT D (y:=sImport) (by simp),zdT D (y:=sExport) (by simp)]
     simp only[Bool.false_eq_true,↓reduceIte,Bool.and_false]
     rw[zcd D,zh,zfq]
    |false=>
     cases J:C.scr with
     |true=>
      cases E:isT C q.pos 1 sFail with
      |true=>
       simp only[Bool.false_eq_true,↓reduceIte,Bool.not_true,Bool.false_and,Bool.and_self]
       rw[zcd E,zh,zfq]
      |false=>
       simp only[Bool.false_eq_true,↓reduceIte,Bool.not_true,Bool.false_and,Bool.and_false]
       rw[letJ]
       refine zaf fun a _=>?_
       rw[zR,zR]
       refine zaf fun b _=>?_
       rw[←zR,zfq]
     |false=>
      cases I:isT C q.pos 1 sImport with
      |true=>
       simp only[Bool.false_eq_true,↓reduceIte,Bool.not_false,Bool.false_and,Bool.and_self]
       rw[zt2 I]
      |false=>
       cases H:isT C q.pos 1 sExport with
       |true=>
        simp only[Bool.false_eq_true,↓reduceIte,Bool.not_false,Bool.false_and,Bool.and_self,Bool.and_false]
        rw[zt4 H]
       |false=>
        simp only[Bool.false_eq_true,↓reduceIte,Bool.not_false,Bool.false_and,Bool.and_false]
        rw[letJ]
        refine zaf fun a _=>?_
        rw[zR,zR]
        refine zaf fun b _=>?_
        rw[←zR,zfq]
theorem zmi {P:Program} {X:Array Oper} {o:Oper} {a:Act} {W:World} {K:Act→World→Prop} {Q:Exit→Act→World→Prop} {E:Prop} (ac:o.guard=none) (s x:Operand) (t:TypeId)
  (ho:o.op= .call {callee:=.builtin .append,args:=#[s,x],argTypes:=#[t,t]})
  (I:Nat) (e:TypeId) (i:TypeInfo) (z:Value) (size D:Nat) (ht:P.underlying t=some (.slice e)) (hi:P.info? e=some i) (hz:i.zero=some z) (M:i.size=size) (ad:i.bytes=D) (ab:z.cells.size=size) (af:0<size) (Z:D≤100)
  (r:Rw) (n:Nat) (xs:List Value) (hs:a.eval s= .slice r.a n r.cap) (U:OwnR W I e size r n xs)
  (gx m c L:Nat) (H:List Value) (hx:a.eval x= .slice (some ⟨gx,0,none⟩) m c) (hg:OwnR W L e size ⟨some ⟨gx,0,none⟩,c⟩ m H) (h1: ∀u∈H,u.oneCell'=true) (hn:n+m≤1000000) (N:I≤W.heap.size)
  (h: ∀V O,OwnR O I e size V (n+m) (xs++H)→W.grownBy O r.blk→(V.blk=r.blk∨V.blk=some W.heap.size)→K (a.put o.dst (.slice V.a (n+m:Nat) V.cap)) O):
  if Region.wanted o (yielded X a.tmps)=true then Oper.wp P o a W K Q else E:=by
 have hw:Region.wanted o (yielded X a.tmps)=true:=by simp[Region.wanted,ac]
 rw[if_pos hw]
 obtain⟨v',O,hr,h2,h3,_,h5⟩:=run_append_own_at (P:=P) W I t o.type e i z size D ht hi hz M ad ab af _ n xs U ⟨gx,0,none⟩ m c H hg.1 (by
  intro j u hj
  have e1:(⟨gx,0,none⟩:Addr).add j=⟨gx,j,none⟩:=by simp[Addr.add];exact fun h=>h.symm
  have aa:j<H.length:=(List.getElem?_eq_some_iff.1 hj).1
  rw[e1,World.ownsRow.cellAt hg j (by rw[←hg.1];exact aa)]
  exact hj) h1 (by unfold maxLen;omega) (by have:(n+m)*D≤1000000*100:=Nat.mul_le_mul hn Z;omega) N
 unfold Oper.wp execOp
 simp only[ho,resolve,invoke,builtin,Sem.run_bind,Sem.run_pure,Result.andThen_ok,List.map_toArray,List.map_cons,List.map_nil,hs,hx,hr]
 rcases h2.2 with ⟨hv,Y⟩|⟨g',J,ag,rfl,ae⟩
 ·subst hv
  have:=h ⟨none,0⟩ O (by rw[Y] at h2 ⊢;exact h2) (by rw[←zb9 r n];exact h3) (by rw[←zb9 r n];exact h5)
  rw[Y] at this
  exact this
 ·refine h ⟨some ⟨g',0,none⟩,J⟩ O h2 ?_ ?_
  ·rw[←zb9 r n];exact h3
  ·rw[←zb9 r n,←zb9 ⟨some ⟨g',0,none⟩,J⟩ (n+m)];exact h5
theorem zmj {P:Program} {D:Array Oper} {o:Oper} {a:Act} {W:World} {K:Act→World→Prop} {Q:Exit→Act→World→Prop} {E:Prop} (H:o.guard=none) (s x:Operand) (t:TypeId)
  (U:o.op= .call {callee:=.builtin .append,args:=#[s,x],argTypes:=#[t,t]})
  (e:TypeId) (i:TypeInfo) (J:P.underlying t=some (.slice e)) (L:P.info? e=some i) (z size n:Nat)
  (r:Rw) (xs:List Value) (V:a.eval s= .slice r.a n r.cap) (j:OwnR W z e size r n xs) (Y:a.eval x= .slice none 0 0)
  (h:K (a.put o.dst (.slice r.a n r.cap)) W):if Region.wanted o (yielded D a.tmps)=true then Oper.wp P o a W K Q else E:=by
 have N:Region.wanted o (yielded D a.tmps)=true:=by simp[Region.wanted,H]
 rw[if_pos N]
 have O:(Builtin.append_ #[t,t] o.type #[.slice r.a n r.cap,.slice none 0 0]).run P W= .ok (.slice r.a n r.cap) W:=by
  rcases j.2 with ⟨I,_⟩|⟨g,Z,X,I,_,_,M,_⟩
  ·rw[I]
   simp[Builtin.append_,run_underlying J,sizeOf,typeInfo,L,Builtin.lenOf,Builtin.firstCells]
  ·rw[I]
   simp[Builtin.append_,run_underlying J,sizeOf,typeInfo,L,Builtin.lenOf,Builtin.firstCells,loadCells,M,storeCells]
 unfold Oper.wp execOp
 simp only[U,resolve,invoke,builtin,Sem.run_bind,Sem.run_pure,Result.andThen_ok,List.map_toArray,List.map_cons,List.map_nil,V,Y,O]
 exact h
theorem Mem.wholeI {C:Cx} {V L j b:Nat} {S:Sv} {q:PS} {W M J:World} {H:Rw} (D:Mem C V L j S q W) (U:W.grownBy M S.ep.blk) (X:OwnR M j 77 4 H (q.ep.length+q.la.length) (q.ep.flatMap epL++q.la.flatMap epL)) (K:H.blk=S.ep.blk∨H.blk=some W.heap.size) (hb:b<W.heap.size) (o: ¬S.has b)
  (Q: ∀k,k≠b→J.heap[k]? =M.heap[k]?):OwnMod J j {S with ep:=H} q:=by
 have E:(q.ep++q.la).length=q.ep.length+q.la.length:=by simp
 have I: ∀(r:Rw) (e:TypeId) (z n:Nat) (N:List Value),OwnR W j e z r n N→e≠77→(∀k,r.blk=some k→S.has k)→OwnR J j e z r n N:=fun r e z n N h Z Y=>
  h.keep fun k g=>(Q k (fun O=>o (by rw[←O];exact Y k g))).trans (U.block k (h.typed g).2.1 fun e'=>(h.ne D.own.ep Z g) e'.symm)
 refine⟨I _ _ _ _ _ D.own.rq (by decide) fun k g=>.inl g,I _ _ _ _ _ D.own.im (by decide) fun k g=>.inr (.inl g),?_,I _ _ _ _ _ D.own.st (by decide) fun k g=>.inr (.inr (.inr (.inl g))),I _ _ _ _ _ D.own.ex (by decide) fun k g=>.inr (.inr (.inr (.inr (.inl g)))),D.inv.rq,D.inv.im,D.inv.ep,D.inv.st,D.inv.ex⟩
 rw[E,List.flatMap_append]
 refine X.keep fun k g=>Q k ?_
 rcases K with e|e
 ·intro O
  exact o (by rw[←O];exact .inr (.inr (.inl (by rw[←e];exact g))))
 ·have:W.heap.size=k:=Option.some.inj (e.symm.trans g)
  omega
theorem Mem.wholeI0 {C:Cx} {N I j b:Nat} {S:Sv} {q:PS} {W H:World} (z:Mem C N I j S q W) (M:q.la=[]) (D: ¬S.has b)
  (L: ∀k,k≠b→H.heap[k]? =W.heap[k]?):OwnMod H j S q:=by
 have E: ∀(r:Rw) (e:TypeId) (o n:Nat) (J:List Value),OwnR W j e o r n J→(∀k,r.blk=some k→S.has k)→OwnR H j e o r n J:=fun r e o n J h K=>
  h.keep fun k g=>L k (fun O=>D (by rw[←O];exact K k g))
 refine⟨E _ _ _ _ _ z.own.rq fun k g=>.inl g,E _ _ _ _ _ z.own.im fun k g=>.inr (.inl g),?_,E _ _ _ _ _ z.own.st fun k g=>.inr (.inr (.inr (.inl g))),E _ _ _ _ _ z.own.ex fun k g=>.inr (.inr (.inr (.inr (.inl g)))),z.inv.rq,z.inv.im,z.inv.ep,z.inv.st,z.inv.ex⟩
 rw[M,List.append_nil]
 exact E _ _ _ _ _ z.own.ep fun k g=>.inr (.inr (.inl g))
theorem zcN {C:Cx} {i:Nat} {k:ByteArray} (h:isT C i 1 k=true):zc6 C i=k:=by
 rw[zc6,zgB h,zhT h]
 rfl
theorem zcO {C:Cx} {i:Nat} {k:ByteArray} (h:isT C i 1 k=false) (o:sNone≠k):(zc6 C i==k)=false:=by
 rw[Bool.eq_false_iff]
 intro e
 rw[MapKept.bytes_beq] at e
 cases j:((zf C i).kind==1) with
 |false=>
  rw[zc6,j] at e
  exact o e
 |true=>
  rw[zc6,j,if_pos rfl] at e
  rw[isT,j,e] at h
  simp at h
theorem zbH {C:Cx} {J z o H g c:Nat} {S I:Sv} {q:PS} {W E:World} {D:Array MapEntry} (h:IM C J z o H S q W) (j:W.heap[g]? =some (.map D c)) (s:IS H S W I E):E.heap[g]? =some (.map D c):=by
 refine (s.block g (Array.getElem?_eq_some_iff.1 j).1 (fun k=>?_) (fun e=>?_)).trans j
 ·rcases k with k|k|k|k|k|k
  ·obtain⟨_,_,c,e⟩:=h.mem.own.rq.typed k
   rw[j] at e;cases e
  ·obtain⟨_,_,c,e⟩:=h.mem.own.im.typed k
   rw[j] at e;cases e
  ·obtain⟨_,_,c,e⟩:=h.mem.own.ep.typed k
   rw[j] at e;cases e
  ·obtain⟨_,_,c,e⟩:=h.mem.own.st.typed k
   rw[j] at e;cases e
  ·obtain⟨_,_,c,e⟩:=h.mem.own.ex.typed k
   rw[j] at e;cases e
  ·obtain⟨_,_,c,e⟩:=h.mem.own.la.typed k
   rw[j] at e;cases e
 ·have:=h.cells
  rw[←e,j] at this
  cases this
theorem zc3 {C:Cx} {q:PS} {y:PR} (o:q.pos<C.ts.length) (j:zaC C q=y):zM C q=bd y (zM C):=by rw[zeQ,if_pos o,←zmh,j]
theorem zmk {C:Cx} {q:PS} (j: ¬q.pos<C.ts.length):zM C q= .ok q:=by rw[zeQ,if_neg j]
theorem zc4 {C:Cx} {q a:PS} {y:PR} (j:zaC C q=y) (h:y= .ok a):q.pos<a.pos:=zgz (by rw[←zmh,j,h])
def ziX (base gp:Nat) (y:PR) (w:World) (e:Ending) (w':World):Prop:=
 match y with
 | .ok q=>e= .returned (.tuple #[])∧∃S,OwnMod w' base S q∧(∃v0 v1 v2 v3 v9,w'.heap[gp]? =some (.cells #[v0,v1,v2,v3,.slice S.rq.a q.rq.length S.rq.cap,.slice S.im.a q.im.length S.im.cap,.slice S.ep.a (q.ep++q.la).length S.ep.cap,.slice S.st.a q.st.length S.st.cap,.slice S.ex.a q.ex.length S.ex.cap,v9] 53 (0,0)))∧Below base w w'
 | .error p=>e=Pan p∧Below base w w'
theorem zt5 (C:Cx) (Z H j o:Nat) (S:Sv) (q:PS) (w:World) (h:IM C Z H j o S q w) (hs:C.scr=true):
  Calls Tryz.prog 20 #[.pointer (some ⟨o,0,none⟩)] w (ziX j o (zM C q) w):=by
 obtain⟨i0,hi,aI,aD,aF⟩:=info_parts Tryz.infoExp
 have HH:=zc h
 clear h
 go_enter Tryz.func20,Tryz.ntmps20
 go_wp2_with fail
 refine (ztk C Z H j o S q _ HH.out hs).mono ?_
 rintro e w1 ⟨rfl,hg,hb⟩
 have az:Hid (IM C Z H j o S q w1):=HH.out.later hb
 have aE:Hid (IS o S w S w1):=IS.below hb
 have aH:=zc hg
 clear hg hb
 go_wp2
 go_loopg [] (C.ts.length+1) (fun k wr=>∃(I:Sv) (z:PS),zM C q=zM C z∧C.ts.length-z.pos<k∧IM C Z H j o I z wr∧IS o S w I wr∧wr.heap[w.heap.size]? =some (.map (esS o) 5))
 case atStart=>exact⟨S,q,rfl,by omega,az.out,aE.out,aH.out⟩
 case round=>
  obtain⟨I,z,hy,hk,m',s',g'⟩:=hrel
  have ag:=zc hy
  have an:Hid (IM C Z H j o I z wr):=m'
  have ax:Hid (IS o S w I wr):=s'
  have aw:Hid (wr.heap[w.heap.size]? =some (.map (esS o) 5)):=g'
  obtain⟨c0,c1,_,_,_,_,_,_,_,_,_⟩:=zag m'.cells
  have C0:=zc c0
  have C1:=zc c1
  have aK:=m'.mem.inv.pos
  have aJ:=m'.mem.few
  clear hy m' s' g' c0 c1
  have k0:=cell_regrown C0.out
  have k1:=cell_regrown C1.out
  by_cases hp:z.pos<C.ts.length
  ·have aC:((z.pos:Int)<(C.ts.length:Int)):=by omega
   go_wp2_with fail
   refine wp_region_quiet_below (by kernel_rfl) (by kernel_rfl) ?_
   repeat (go_big_quiet_step (fail))
   refine wpQuiet_nil ?_
   intro w2 ap
   obtain⟨⟨dq,aA⟩,ac⟩:=ap
   have ae:Hid (Below wr.heap.size wr w2):=by show Below _ _ _;rw[ac];exact below_regrown _ _ _
   clear ac k0 k1 C0 C1
   have J:Hid (IM C Z H j o I z w2):=an.out.later ae.out
   have ao:Hid (IS o S w I w2):=ax.out.trans (IS.below ae.out)
   have am:Hid (w2.heap[w.heap.size]? =some (.map (esS o) 5)):=zbH an.out aw.out (IS.below ae.out)
   go_wp2_with fail
   refine (zkb C Z H j o I z _ J.out).mono ?_
   rintro e w3 ⟨rfl,hb⟩
   have ab:Hid (IM C Z H j o I z w3):=J.out.later hb
   have af:Hid (IS o S w I w3):=ao.out.trans (IS.below hb)
   have N:Hid (w3.heap[w.heap.size]? =some (.map (esS o) 5)):=zbH J.out am.out (IS.below hb)
   clear hb
   have al:w.heap.size≠o:=by have:=HH.out.lt;omega
   obtain⟨c0,c1,c2,c3,c4,c5,c6,c7,c8,c9,cf⟩:=zag ab.out.cells
   cases t0:isT C z.pos 1 sLet with
   |true=>
    have E:zaC C z=letJ C 1 (adv z):=by rw[zaC,t0];rfl
    have HZ:=zc (ag.out.trans (zc3 hp E))
    have O:=zc E
    clear E
    rw[zcN t0]
    have aj:=zcM N.out (ztl o)
    go_wp2_with fail
    have K:Hid (IM C Z H j o I (adv z) (w3.setCell ⟨o,1,none⟩ (.int .i64 ((z.pos:Int)+1)))):=ab.out.adv hp
    have L:Hid (IS o S w I (w3.setCell ⟨o,1,none⟩ (.int .i64 ((z.pos:Int)+1)))):=af.out.set _ _
    have aa:Hid ((w3.setCell ⟨o,1,none⟩ (.int .i64 ((z.pos:Int)+1))).heap[w.heap.size]? =some (.map (esS o) 5)):=(zx al).trans N.out
    refine (zhV C Z H j o I (adv z) _ K.out).mono ?_
    cases D:letJ C 1 (adv z) with
    |error p=>
     rintro e M ⟨rfl,hb⟩
     have HB:Hid (Below j w M):=(HH.out.back L.out).trans hb
     have HX:Hid (zM C q= .error p):=bdE HZ.out D
     unfold Pan
     go_wp2
     refine⟨rfl,?_⟩
     rw[HX.out]
     exact⟨rfl,HB.out⟩
    |ok a5=>
     rintro e M ⟨rfl,S5,m,s⟩
     have Y:Hid (M.heap[w.heap.size]? =some (.map (esS o) 5)):=zbH K.out aa.out s
     have Q:=zc m
     have V:Hid (IS o S w S5 M):=L.out.trans s
     clear m s
     have X:=zc (bdO HZ.out D)
     have U:=zc (zc4 O.out D)
     go_wp2
     go_roundg (gk-1)
     case rel=>exact⟨S5,a5,X.out,by have:=U.out;omega,Q.out,V.out,Y.out⟩
     case measure=>omega
   |false=>
    cases t1:isT C z.pos 1 sFunction with
    |true=>
     have E:zaC C z=fnI C (adv z):=by rw[zaC,t0,t1];simp only[Bool.false_eq_true,↓reduceIte]
     have HZ:=zc (ag.out.trans (zc3 hp E))
     have O:=zc E
     clear E
     rw[zcN t1]
     have aj:=zcM N.out (ztm o)
     go_wp2_with fail
     have K:Hid (IM C Z H j o I (adv z) (w3.setCell ⟨o,1,none⟩ (.int .i64 ((z.pos:Int)+1)))):=ab.out.adv hp
     have L:Hid (IS o S w I (w3.setCell ⟨o,1,none⟩ (.int .i64 ((z.pos:Int)+1)))):=af.out.set _ _
     have aa:Hid ((w3.setCell ⟨o,1,none⟩ (.int .i64 ((z.pos:Int)+1))).heap[w.heap.size]? =some (.map (esS o) 5)):=(zx al).trans N.out
     refine (zhW C Z H j o I (adv z) _ K.out).mono ?_
     cases D:fnI C (adv z) with
     |error p=>
      rintro e M ⟨rfl,hb⟩
      have HB:Hid (Below j w M):=(HH.out.back L.out).trans hb
      have HX:Hid (zM C q= .error p):=bdE HZ.out D
      unfold Pan
      go_wp2
      refine⟨rfl,?_⟩
      rw[HX.out]
      exact⟨rfl,HB.out⟩
     |ok a5=>
      rintro e M ⟨rfl,S5,m,s⟩
      have Y:Hid (M.heap[w.heap.size]? =some (.map (esS o) 5)):=zbH K.out aa.out s
      have Q:=zc m
      have V:Hid (IS o S w S5 M):=L.out.trans s
      clear m s
      have X:=zc (bdO HZ.out D)
      have U:=zc (zc4 O.out D)
      go_wp2
      go_roundg (gk-1)
      case rel=>exact⟨S5,a5,X.out,by have:=U.out;omega,Q.out,V.out,Y.out⟩
      case measure=>omega
    |false=>
     cases t2:isT C z.pos 1 sPrint with
     |true=>
      have E:zaC C z=printI C (adv z):=by rw[zaC,t0,t1,t2];simp only[Bool.false_eq_true,↓reduceIte]
      have HZ:=zc (ag.out.trans (zc3 hp E))
      have O:=zc E
      clear E
      rw[zcN t2]
      have aj:=zcM N.out (ztn o)
      go_wp2_with fail
      have K:Hid (IM C Z H j o I (adv z) (w3.setCell ⟨o,1,none⟩ (.int .i64 ((z.pos:Int)+1)))):=ab.out.adv hp
      have L:Hid (IS o S w I (w3.setCell ⟨o,1,none⟩ (.int .i64 ((z.pos:Int)+1)))):=af.out.set _ _
      have aa:Hid ((w3.setCell ⟨o,1,none⟩ (.int .i64 ((z.pos:Int)+1))).heap[w.heap.size]? =some (.map (esS o) 5)):=(zx al).trans N.out
      refine (zjZ C Z H j o I (adv z) _ K.out).mono ?_
      cases D:printI C (adv z) with
      |error p=>
       rintro e M ⟨rfl,hb⟩
       have HB:Hid (Below j w M):=(HH.out.back L.out).trans hb
       have HX:Hid (zM C q= .error p):=bdE HZ.out D
       unfold Pan
       go_wp2
       refine⟨rfl,?_⟩
       rw[HX.out]
       exact⟨rfl,HB.out⟩
      |ok a5=>
       rintro e M ⟨rfl,S5,m,s⟩
       have Y:Hid (M.heap[w.heap.size]? =some (.map (esS o) 5)):=zbH K.out aa.out s
       have Q:=zc m
       have V:Hid (IS o S w S5 M):=L.out.trans s
       clear m s
       have X:=zc (bdO HZ.out D)
       have U:=zc (zc4 O.out D)
       go_wp2
       go_roundg (gk-1)
       case rel=>exact⟨S5,a5,X.out,by have:=U.out;omega,Q.out,V.out,Y.out⟩
       case measure=>omega
     |false=>
      cases t3:isT C z.pos 1 sThrow with
      |true=>
       have E:zaC C z=stmtI C 5 sNone cSemi (adv z):=by rw[zaC,t0,t1,t2,t3];simp only[Bool.false_eq_true,↓reduceIte]
       have HZ:=zc (ag.out.trans (zc3 hp E))
       have O:=zc E
       clear E
       rw[zcN t3]
       have aj:=zcM N.out (zto o)
       go_wp2_with fail
       have K:Hid (IM C Z H j o I (adv z) (w3.setCell ⟨o,1,none⟩ (.int .i64 ((z.pos:Int)+1)))):=ab.out.adv hp
       have L:Hid (IS o S w I (w3.setCell ⟨o,1,none⟩ (.int .i64 ((z.pos:Int)+1)))):=af.out.set _ _
       have aa:Hid ((w3.setCell ⟨o,1,none⟩ (.int .i64 ((z.pos:Int)+1))).heap[w.heap.size]? =some (.map (esS o) 5)):=(zx al).trans N.out
       refine (zka C Z H j o I (adv z) _ K.out).mono ?_
       cases D:stmtI C 5 sNone cSemi (adv z) with
       |error p=>
        rintro e M ⟨rfl,hb⟩
        have HB:Hid (Below j w M):=(HH.out.back L.out).trans hb
        have HX:Hid (zM C q= .error p):=bdE HZ.out D
        unfold Pan
        go_wp2
        refine⟨rfl,?_⟩
        rw[HX.out]
        exact⟨rfl,HB.out⟩
       |ok a5=>
        rintro e M ⟨rfl,S5,m,s⟩
        have Y:Hid (M.heap[w.heap.size]? =some (.map (esS o) 5)):=zbH K.out aa.out s
        have Q:=zc m
        have V:Hid (IS o S w S5 M):=L.out.trans s
        clear m s
        have X:=zc (bdO HZ.out D)
        have U:=zc (zc4 O.out D)
        go_wp2
        go_roundg (gk-1)
        case rel=>exact⟨S5,a5,X.out,by have:=U.out;omega,Q.out,V.out,Y.out⟩
        case measure=>omega
      |false=>
       cases t4:isT C z.pos 1 sFail with
       |true=>
        have E:zaC C z=stmtI C 6 sNone cSemi (adv z):=by rw[zaC,t0,t1,t2,t3,t4,hs];simp only[Bool.false_eq_true,↓reduceIte,Bool.and_self]
        have HZ:=zc (ag.out.trans (zc3 hp E))
        have O:=zc E
        clear E
        rw[zcN t4]
        have aj:=zcM N.out (ztp o)
        go_wp2_with fail
        have K:Hid (IM C Z H j o I (adv z) (w3.setCell ⟨o,1,none⟩ (.int .i64 ((z.pos:Int)+1)))):=ab.out.adv hp
        have L:Hid (IS o S w I (w3.setCell ⟨o,1,none⟩ (.int .i64 ((z.pos:Int)+1)))):=af.out.set _ _
        have aa:Hid ((w3.setCell ⟨o,1,none⟩ (.int .i64 ((z.pos:Int)+1))).heap[w.heap.size]? =some (.map (esS o) 5)):=(zx al).trans N.out
        refine (zoT C Z H j o I (adv z) _ K.out).mono ?_
        cases D:stmtI C 6 sNone cSemi (adv z) with
        |error p=>
         rintro e M ⟨rfl,hb⟩
         have HB:Hid (Below j w M):=(HH.out.back L.out).trans hb
         have HX:Hid (zM C q= .error p):=bdE HZ.out D
         unfold Pan
         go_wp2
         refine⟨rfl,?_⟩
         rw[HX.out]
         exact⟨rfl,HB.out⟩
        |ok a5=>
         rintro e M ⟨rfl,S5,m,s⟩
         have Y:Hid (M.heap[w.heap.size]? =some (.map (esS o) 5)):=zbH K.out aa.out s
         have Q:=zc m
         have V:Hid (IS o S w S5 M):=L.out.trans s
         clear m s
         have X:=zc (bdO HZ.out D)
         have U:=zc (zc4 O.out D)
         go_wp2
         go_roundg (gk-1)
         case rel=>exact⟨S5,a5,X.out,by have:=U.out;omega,Q.out,V.out,Y.out⟩
         case measure=>omega
       |false=>
        have E:zaC C z=letJ C 3 z:=by rw[zaC,t0,t1,t2,t3,t4,hs];simp only[Bool.false_eq_true,↓reduceIte,Bool.and_false,Bool.not_true,Bool.false_and]
        have HZ:=zc (ag.out.trans (zc3 hp E))
        have O:=zc E
        clear E
        obtain⟨vz,aj⟩:=zmc N.out (ztq o (zc6 C z.pos) (zcO t0 (by decide)) (zcO t1 (by decide)) (zcO t2 (by decide)) (zcO t3 (by decide)) (zcO t4 (by decide)))
        go_wp2_with fail
        refine (zjY C Z H j o I z _ ab.out).mono ?_
        cases D:letJ C 3 z with
        |error p=>
         rintro e M ⟨rfl,hb⟩
         have HB:Hid (Below j w M):=(HH.out.back af.out).trans hb
         have HX:Hid (zM C q= .error p):=bdE HZ.out D
         unfold Pan
         go_wp2
         refine⟨rfl,?_⟩
         rw[HX.out]
         exact⟨rfl,HB.out⟩
        |ok a5=>
         rintro e M ⟨rfl,S5,m,s⟩
         have Y:Hid (M.heap[w.heap.size]? =some (.map (esS o) 5)):=zbH ab.out N.out s
         have Q:=zc m
         have V:Hid (IS o S w S5 M):=af.out.trans s
         clear m s
         have X:=zc (bdO HZ.out D)
         have U:=zc (zc4 O.out D)
         go_wp2
         go_roundg (gk-1)
         case rel=>exact⟨S5,a5,X.out,by have:=U.out;omega,Q.out,V.out,Y.out⟩
         case measure=>omega
  ·have aC: ¬((z.pos:Int)<(C.ts.length:Int)):=by omega
   go_wp2_with fail
   refine wp_region_quiet_below (by kernel_rfl) (by kernel_rfl) ?_
   repeat (go_big_quiet_step (fail))
   refine wpQuiet_nil ?_
   intro w2 ap
   obtain⟨⟨dq,aA⟩,ac⟩:=ap
   have ae:Hid (Below wr.heap.size wr w2):=by show Below _ _ _;rw[ac];exact below_regrown _ _ _
   clear ac k0 k1 C0 C1
   have J:Hid (IM C Z H j o I z w2):=an.out.later ae.out
   have ao:Hid (IS o S w I w2):=ax.out.trans (IS.below ae.out)
   have am:Hid (w2.heap[w.heap.size]? =some (.map (esS o) 5)):=zbH an.out aw.out (IS.below ae.out)
   have HX:=zc (ag.out.trans (zmk hp))
   obtain⟨c0,c1,c2,c3,c4,c5,c6,c7,c8,c9,cf⟩:=zag J.out.cells
   have ak:=J.out.mem.own.ep
   have aL:=J.out.mem.inv.ep
   have ai:=J.out.free
   have ad:=zc ai
   clear ai
   have au:=J.out.lt
   rcases J.out.mem.own.la.nil_or with ⟨ha,hc,hn⟩|⟨gl,ha⟩
   ·have HN:=zc (List.eq_nil_of_length_eq_zero hn)
    rw[ha,hc,hn] at c9
    clear ha hc hn
    go_wp2_with fail
    go_region_law (first|(refine zmj rfl (.tmp 41) (.tmp 45) 28 rfl 77 i0 Tryz.underlying28 hi j 4 z.ep.length I.ep _ (by rfl) (by exact ak) (by rfl) ?_))
    all_goals
     go_wp2
     go_end0
     rw[HX.out]
     refine⟨rfl,I,J.out.mem.wholeI0 HN.out ad.out (fun k hk=>zx hk),⟨.slice (some ⟨Z,0,none⟩) C.ts.length H,.int .i64 z.pos,.int .i64 C.fin,.bool C.scr,.slice I.la.a z.la.length I.la.cap,(zbf J.out.cells).trans (by simp[HN.out])⟩,?_⟩
     exact (HH.out.back (ao.out.set _ _)).drew
   ·have ar:OwnR w2 j 77 4 ⟨some ⟨gl,0,none⟩,I.la.cap⟩ z.la.length (z.la.flatMap epL):=by have:=J.out.mem.own.la;unfold OwnR at this ⊢;rw[ha] at this;exact this
    rw[ha] at c9
    have ay:=J.out.mem.base
    have aB:Hid (some o≠I.ep.blk):=fun e=>ad.out (.inr (.inr (.inl e.symm)))
    go_wp2_with fail
    go_region_law (first|(refine zmi rfl (.tmp 41) (.tmp 45) 28 rfl j 77 i0 _ 4 56 Tryz.underlying28 hi aI aD aF rfl (by decide) (by decide) I.ep z.ep.length _ (by rfl) (by exact ak) gl z.la.length I.la.cap j _ (by rfl) (by exact ar) (zhJ _) (by omega) (by exact ay) ?_;intro r' wz hr aq av;have g2:=(aq.block o (by exact au) aB.out).trans (by exact J.out.cells);obtain⟨d0,d1,d2,d3,d4,d5,d6,d7,d8,d9,df⟩:=zag g2))
    all_goals
     have HR:=zc hr
     have ah:=zc aq
     have aG:=zc av
     have am:=zc g2
     clear hr aq av g2 c0 c1 c2 c3 c4 c5 c6 c7 c8 c9 cf ak ar
     go_wp2
     go_end0
     rw[HX.out]
     refine⟨rfl,{I with ep:=r'},J.out.drew.mem.wholeI ah.out HR.out aG.out au ad.out (fun k hk=>zx hk),⟨.slice (some ⟨Z,0,none⟩) C.ts.length H,.int .i64 z.pos,.int .i64 C.fin,.bool C.scr,.slice I.la.a z.la.length I.la.cap,(zbf am.out).trans (by simp)⟩,?_⟩
     exact ((HH.out.back ao.out).trans ⟨ah.out.os,ah.out.tape,ah.out.output,ah.out.size,fun k hk=>ah.out.block k (show k<w2.heap.size by omega) (fun e=>by have:=(J.out.mem.own.ep.typed e.symm).1;omega)⟩).setCell J.out.ge _
theorem zt6 (C:Cx) (Z H j o:Nat) (S:Sv) (q:PS) (w:World) (h:IM C Z H j o S q w) (hC:zb0 C) (hs:C.scr=false):
  Calls Tryz.prog 20 #[.pointer (some ⟨o,0,none⟩)] w (ziX j o (zM C q) w):=by
 obtain⟨i0,hi,aI,aD,aF⟩:=info_parts Tryz.infoExp
 have HH:=zc h
 clear h
 go_enter Tryz.func20,Tryz.ntmps20
 go_wp2_with fail
 refine (ztr C Z H j o S q _ HH.out hs).mono ?_
 rintro e w1 ⟨rfl,hg,hb⟩
 have az:Hid (IM C Z H j o S q w1):=HH.out.later hb
 have aE:Hid (IS o S w S w1):=IS.below hb
 have aH:=zc hg
 clear hg hb
 go_wp2
 go_loopg [] (C.ts.length+1) (fun k wr=>∃(I:Sv) (z:PS),zM C q=zM C z∧C.ts.length-z.pos<k∧IM C Z H j o I z wr∧IS o S w I wr∧wr.heap[w.heap.size]? =some (.map (esM o) 6))
 case atStart=>exact⟨S,q,rfl,by omega,az.out,aE.out,aH.out⟩
 case round=>
  obtain⟨I,z,hy,hk,m',s',g'⟩:=hrel
  have ad:=zc hy
  have an:Hid (IM C Z H j o I z wr):=m'
  have ax:Hid (IS o S w I wr):=s'
  have aw:Hid (wr.heap[w.heap.size]? =some (.map (esM o) 6)):=g'
  obtain⟨c0,c1,_,_,_,_,_,_,_,_,_⟩:=zag m'.cells
  have C0:=zc c0
  have C1:=zc c1
  have aK:=m'.mem.inv.pos
  have aJ:=m'.mem.few
  clear hy m' s' g' c0 c1
  have k0:=cell_regrown C0.out
  have k1:=cell_regrown C1.out
  by_cases hp:z.pos<C.ts.length
  ·have aC:((z.pos:Int)<(C.ts.length:Int)):=by omega
   go_wp2_with fail
   refine wp_region_quiet_below (by kernel_rfl) (by kernel_rfl) ?_
   repeat (go_big_quiet_step (fail))
   refine wpQuiet_nil ?_
   intro w2 ap
   obtain⟨⟨dq,aA⟩,ae⟩:=ap
   have ag:Hid (Below wr.heap.size wr w2):=by show Below _ _ _;rw[ae];exact below_regrown _ _ _
   clear ae k0 k1 C0 C1
   have J:Hid (IM C Z H j o I z w2):=an.out.later ag.out
   have ao:Hid (IS o S w I w2):=ax.out.trans (IS.below ag.out)
   have am:Hid (w2.heap[w.heap.size]? =some (.map (esM o) 6)):=zbH an.out aw.out (IS.below ag.out)
   go_wp2_with fail
   refine (zkb C Z H j o I z _ J.out).mono ?_
   rintro e w3 ⟨rfl,hb⟩
   have ab:Hid (IM C Z H j o I z w3):=J.out.later hb
   have ac:Hid (IS o S w I w3):=ao.out.trans (IS.below hb)
   have N:Hid (w3.heap[w.heap.size]? =some (.map (esM o) 6)):=zbH J.out am.out (IS.below hb)
   clear hb
   have aj:w.heap.size≠o:=by have:=HH.out.lt;omega
   obtain⟨c0,c1,c2,c3,c4,c5,c6,c7,c8,c9,cf⟩:=zag ab.out.cells
   cases t0:isT C z.pos 1 sLet with
   |true=>
    have E:zaC C z=letJ C 1 (adv z):=by rw[zaC,t0];rfl
    have HZ:=zc (ad.out.trans (zc3 hp E))
    have O:=zc E
    clear E
    rw[zcN t0]
    have ai:=zcM N.out (zts o)
    go_wp2_with fail
    have K:Hid (IM C Z H j o I (adv z) (w3.setCell ⟨o,1,none⟩ (.int .i64 ((z.pos:Int)+1)))):=ab.out.adv hp
    have L:Hid (IS o S w I (w3.setCell ⟨o,1,none⟩ (.int .i64 ((z.pos:Int)+1)))):=ac.out.set _ _
    have aa:Hid ((w3.setCell ⟨o,1,none⟩ (.int .i64 ((z.pos:Int)+1))).heap[w.heap.size]? =some (.map (esM o) 6)):=(zx aj).trans N.out
    refine (zhV C Z H j o I (adv z) _ K.out).mono ?_
    cases D:letJ C 1 (adv z) with
    |error p=>
     rintro e M ⟨rfl,hb⟩
     have HB:Hid (Below j w M):=(HH.out.back L.out).trans hb
     have HX:Hid (zM C q= .error p):=bdE HZ.out D
     unfold Pan
     go_wp2
     refine⟨rfl,?_⟩
     rw[HX.out]
     exact⟨rfl,HB.out⟩
    |ok a5=>
     rintro e M ⟨rfl,S5,m,s⟩
     have Y:Hid (M.heap[w.heap.size]? =some (.map (esM o) 6)):=zbH K.out aa.out s
     have Q:=zc m
     have V:Hid (IS o S w S5 M):=L.out.trans s
     clear m s
     have X:=zc (bdO HZ.out D)
     have U:=zc (zc4 O.out D)
     go_wp2
     go_roundg (gk-1)
     case rel=>exact⟨S5,a5,X.out,by have:=U.out;omega,Q.out,V.out,Y.out⟩
     case measure=>omega
   |false=>
    cases t1:isT C z.pos 1 sFunction with
    |true=>
     have E:zaC C z=fnI C (adv z):=by rw[zaC,t0,t1];simp only[Bool.false_eq_true,↓reduceIte]
     have HZ:=zc (ad.out.trans (zc3 hp E))
     have O:=zc E
     clear E
     rw[zcN t1]
     have ai:=zcM N.out (ztt o)
     go_wp2_with fail
     have K:Hid (IM C Z H j o I (adv z) (w3.setCell ⟨o,1,none⟩ (.int .i64 ((z.pos:Int)+1)))):=ab.out.adv hp
     have L:Hid (IS o S w I (w3.setCell ⟨o,1,none⟩ (.int .i64 ((z.pos:Int)+1)))):=ac.out.set _ _
     have aa:Hid ((w3.setCell ⟨o,1,none⟩ (.int .i64 ((z.pos:Int)+1))).heap[w.heap.size]? =some (.map (esM o) 6)):=(zx aj).trans N.out
     refine (zhW C Z H j o I (adv z) _ K.out).mono ?_
     cases D:fnI C (adv z) with
     |error p=>
      rintro e M ⟨rfl,hb⟩
      have HB:Hid (Below j w M):=(HH.out.back L.out).trans hb
      have HX:Hid (zM C q= .error p):=bdE HZ.out D
      unfold Pan
      go_wp2
      refine⟨rfl,?_⟩
      rw[HX.out]
      exact⟨rfl,HB.out⟩
     |ok a5=>
      rintro e M ⟨rfl,S5,m,s⟩
      have Y:Hid (M.heap[w.heap.size]? =some (.map (esM o) 6)):=zbH K.out aa.out s
      have Q:=zc m
      have V:Hid (IS o S w S5 M):=L.out.trans s
      clear m s
      have X:=zc (bdO HZ.out D)
      have U:=zc (zc4 O.out D)
      go_wp2
      go_roundg (gk-1)
      case rel=>exact⟨S5,a5,X.out,by have:=U.out;omega,Q.out,V.out,Y.out⟩
      case measure=>omega
    |false=>
     cases t2:isT C z.pos 1 sPrint with
     |true=>
      have E:zaC C z=printI C (adv z):=by rw[zaC,t0,t1,t2];simp only[Bool.false_eq_true,↓reduceIte]
      have HZ:=zc (ad.out.trans (zc3 hp E))
      have O:=zc E
      clear E
      rw[zcN t2]
      have ai:=zcM N.out (ztu o)
      go_wp2_with fail
      have K:Hid (IM C Z H j o I (adv z) (w3.setCell ⟨o,1,none⟩ (.int .i64 ((z.pos:Int)+1)))):=ab.out.adv hp
      have L:Hid (IS o S w I (w3.setCell ⟨o,1,none⟩ (.int .i64 ((z.pos:Int)+1)))):=ac.out.set _ _
      have aa:Hid ((w3.setCell ⟨o,1,none⟩ (.int .i64 ((z.pos:Int)+1))).heap[w.heap.size]? =some (.map (esM o) 6)):=(zx aj).trans N.out
      refine (zjZ C Z H j o I (adv z) _ K.out).mono ?_
      cases D:printI C (adv z) with
      |error p=>
       rintro e M ⟨rfl,hb⟩
       have HB:Hid (Below j w M):=(HH.out.back L.out).trans hb
       have HX:Hid (zM C q= .error p):=bdE HZ.out D
       unfold Pan
       go_wp2
       refine⟨rfl,?_⟩
       rw[HX.out]
       exact⟨rfl,HB.out⟩
      |ok a5=>
       rintro e M ⟨rfl,S5,m,s⟩
       have Y:Hid (M.heap[w.heap.size]? =some (.map (esM o) 6)):=zbH K.out aa.out s
       have Q:=zc m
       have V:Hid (IS o S w S5 M):=L.out.trans s
       clear m s
       have X:=zc (bdO HZ.out D)
       have U:=zc (zc4 O.out D)
       go_wp2
       go_roundg (gk-1)
       case rel=>exact⟨S5,a5,X.out,by have:=U.out;omega,Q.out,V.out,Y.out⟩
       case measure=>omega
     |false=>
      cases t3:isT C z.pos 1 sThrow with
      |true=>
       have E:zaC C z=stmtI C 5 sNone cSemi (adv z):=by rw[zaC,t0,t1,t2,t3];simp only[Bool.false_eq_true,↓reduceIte]
       have HZ:=zc (ad.out.trans (zc3 hp E))
       have O:=zc E
       clear E
       rw[zcN t3]
       have ai:=zcM N.out (ztv o)
       go_wp2_with fail
       have K:Hid (IM C Z H j o I (adv z) (w3.setCell ⟨o,1,none⟩ (.int .i64 ((z.pos:Int)+1)))):=ab.out.adv hp
       have L:Hid (IS o S w I (w3.setCell ⟨o,1,none⟩ (.int .i64 ((z.pos:Int)+1)))):=ac.out.set _ _
       have aa:Hid ((w3.setCell ⟨o,1,none⟩ (.int .i64 ((z.pos:Int)+1))).heap[w.heap.size]? =some (.map (esM o) 6)):=(zx aj).trans N.out
       refine (zka C Z H j o I (adv z) _ K.out).mono ?_
       cases D:stmtI C 5 sNone cSemi (adv z) with
       |error p=>
        rintro e M ⟨rfl,hb⟩
        have HB:Hid (Below j w M):=(HH.out.back L.out).trans hb
        have HX:Hid (zM C q= .error p):=bdE HZ.out D
        unfold Pan
        go_wp2
        refine⟨rfl,?_⟩
        rw[HX.out]
        exact⟨rfl,HB.out⟩
       |ok a5=>
        rintro e M ⟨rfl,S5,m,s⟩
        have Y:Hid (M.heap[w.heap.size]? =some (.map (esM o) 6)):=zbH K.out aa.out s
        have Q:=zc m
        have V:Hid (IS o S w S5 M):=L.out.trans s
        clear m s
        have X:=zc (bdO HZ.out D)
        have U:=zc (zc4 O.out D)
        go_wp2
        go_roundg (gk-1)
        case rel=>exact⟨S5,a5,X.out,by have:=U.out;omega,Q.out,V.out,Y.out⟩
        case measure=>omega
      |false=>
       cases t4:isT C z.pos 1 sImport with
       |true=>
        have E:zaC C z=zaW C (adv z):=by rw[zaC,t0,t1,t2,t3,t4,hs];simp only[Bool.false_eq_true,↓reduceIte,Bool.false_and,Bool.not_false,Bool.and_self]
        have HZ:=zc (ad.out.trans (zc3 hp E))
        have O:=zc E
        clear E
        rw[zcN t4]
        have ai:=zcM N.out (ztw o)
        go_wp2_with fail
        have K:Hid (IM C Z H j o I (adv z) (w3.setCell ⟨o,1,none⟩ (.int .i64 ((z.pos:Int)+1)))):=ab.out.adv hp
        have L:Hid (IS o S w I (w3.setCell ⟨o,1,none⟩ (.int .i64 ((z.pos:Int)+1)))):=ac.out.set _ _
        have aa:Hid ((w3.setCell ⟨o,1,none⟩ (.int .i64 ((z.pos:Int)+1))).heap[w.heap.size]? =some (.map (esM o) 6)):=(zx aj).trans N.out
        refine (zsM C Z H j o I (adv z) _ K.out hC).mono ?_
        cases D:zaW C (adv z) with
        |error p=>
         rintro e M ⟨rfl,hb⟩
         have HB:Hid (Below j w M):=(HH.out.back L.out).trans hb
         have HX:Hid (zM C q= .error p):=bdE HZ.out D
         unfold Pan
         go_wp2
         refine⟨rfl,?_⟩
         rw[HX.out]
         exact⟨rfl,HB.out⟩
        |ok a5=>
         rintro e M ⟨rfl,S5,m,s⟩
         have Y:Hid (M.heap[w.heap.size]? =some (.map (esM o) 6)):=zbH K.out aa.out s
         have Q:=zc m
         have V:Hid (IS o S w S5 M):=L.out.trans s
         clear m s
         have X:=zc (bdO HZ.out D)
         have U:=zc (zc4 O.out D)
         go_wp2
         go_roundg (gk-1)
         case rel=>exact⟨S5,a5,X.out,by have:=U.out;omega,Q.out,V.out,Y.out⟩
         case measure=>omega
       |false=>
        cases t5:isT C z.pos 1 sExport with
        |true=>
         have E:zaC C z=zat C (adv z):=by rw[zaC,t0,t1,t2,t3,t4,t5,hs];simp only[Bool.false_eq_true,↓reduceIte,Bool.false_and,Bool.not_false,Bool.and_self,Bool.and_false]
         have HZ:=zc (ad.out.trans (zc3 hp E))
         have O:=zc E
         clear E
         rw[zcN t5]
         have ai:=zcM N.out (ztx o)
         go_wp2_with fail
         have K:Hid (IM C Z H j o I (adv z) (w3.setCell ⟨o,1,none⟩ (.int .i64 ((z.pos:Int)+1)))):=ab.out.adv hp
         have L:Hid (IS o S w I (w3.setCell ⟨o,1,none⟩ (.int .i64 ((z.pos:Int)+1)))):=ac.out.set _ _
         have aa:Hid ((w3.setCell ⟨o,1,none⟩ (.int .i64 ((z.pos:Int)+1))).heap[w.heap.size]? =some (.map (esM o) 6)):=(zx aj).trans N.out
         refine (ztj C Z H j o I (adv z) _ K.out hC).mono ?_
         cases D:zat C (adv z) with
         |error p=>
          rintro e M ⟨rfl,hb⟩
          have HB:Hid (Below j w M):=(HH.out.back L.out).trans hb
          have HX:Hid (zM C q= .error p):=bdE HZ.out D
          unfold Pan
          go_wp2
          refine⟨rfl,?_⟩
          rw[HX.out]
          exact⟨rfl,HB.out⟩
         |ok a5=>
          rintro e M ⟨rfl,S5,m,s⟩
          have Y:Hid (M.heap[w.heap.size]? =some (.map (esM o) 6)):=zbH K.out aa.out s
          have Q:=zc m
          have V:Hid (IS o S w S5 M):=L.out.trans s
          clear m s
          have X:=zc (bdO HZ.out D)
          have U:=zc (zc4 O.out D)
          go_wp2
          go_roundg (gk-1)
          case rel=>exact⟨S5,a5,X.out,by have:=U.out;omega,Q.out,V.out,Y.out⟩
          case measure=>omega
        |false=>
         have E:zaC C z=letJ C 3 z:=by rw[zaC,t0,t1,t2,t3,t4,t5,hs];simp only[Bool.false_eq_true,↓reduceIte,Bool.false_and,Bool.not_false,Bool.and_false]
         have HZ:=zc (ad.out.trans (zc3 hp E))
         have O:=zc E
         clear E
         obtain⟨vz,ai⟩:=zmc N.out (zty o (zc6 C z.pos) (zcO t0 (by decide)) (zcO t1 (by decide)) (zcO t2 (by decide)) (zcO t3 (by decide)) (zcO t4 (by decide)) (zcO t5 (by decide)))
         go_wp2_with fail
         refine (zjY C Z H j o I z _ ab.out).mono ?_
         cases D:letJ C 3 z with
         |error p=>
          rintro e M ⟨rfl,hb⟩
          have HB:Hid (Below j w M):=(HH.out.back ac.out).trans hb
          have HX:Hid (zM C q= .error p):=bdE HZ.out D
          unfold Pan
          go_wp2
          refine⟨rfl,?_⟩
          rw[HX.out]
          exact⟨rfl,HB.out⟩
         |ok a5=>
          rintro e M ⟨rfl,S5,m,s⟩
          have Y:Hid (M.heap[w.heap.size]? =some (.map (esM o) 6)):=zbH ab.out N.out s
          have Q:=zc m
          have V:Hid (IS o S w S5 M):=ac.out.trans s
          clear m s
          have X:=zc (bdO HZ.out D)
          have U:=zc (zc4 O.out D)
          go_wp2
          go_roundg (gk-1)
          case rel=>exact⟨S5,a5,X.out,by have:=U.out;omega,Q.out,V.out,Y.out⟩
          case measure=>omega
  ·have aC: ¬((z.pos:Int)<(C.ts.length:Int)):=by omega
   go_wp2_with fail
   refine wp_region_quiet_below (by kernel_rfl) (by kernel_rfl) ?_
   repeat (go_big_quiet_step (fail))
   refine wpQuiet_nil ?_
   intro w2 ap
   obtain⟨⟨dq,aA⟩,ae⟩:=ap
   have ag:Hid (Below wr.heap.size wr w2):=by show Below _ _ _;rw[ae];exact below_regrown _ _ _
   clear ae k0 k1 C0 C1
   have J:Hid (IM C Z H j o I z w2):=an.out.later ag.out
   have ao:Hid (IS o S w I w2):=ax.out.trans (IS.below ag.out)
   have am:Hid (w2.heap[w.heap.size]? =some (.map (esM o) 6)):=zbH an.out aw.out (IS.below ag.out)
   have HX:=zc (ad.out.trans (zmk hp))
   obtain⟨c0,c1,c2,c3,c4,c5,c6,c7,c8,c9,cf⟩:=zag J.out.cells
   have al:=J.out.mem.own.ep
   have aL:=J.out.mem.inv.ep
   have ak:=J.out.free
   have af:=zc ak
   clear ak
   have au:=J.out.lt
   rcases J.out.mem.own.la.nil_or with ⟨ha,hc,hn⟩|⟨gl,ha⟩
   ·have HN:=zc (List.eq_nil_of_length_eq_zero hn)
    rw[ha,hc,hn] at c9
    clear ha hc hn
    go_wp2_with fail
    go_region_law (first|(refine zmj rfl (.tmp 41) (.tmp 45) 28 rfl 77 i0 Tryz.underlying28 hi j 4 z.ep.length I.ep _ (by rfl) (by exact al) (by rfl) ?_))
    all_goals
     go_wp2
     go_end0
     rw[HX.out]
     refine⟨rfl,I,J.out.mem.wholeI0 HN.out af.out (fun k hk=>zx hk),⟨.slice (some ⟨Z,0,none⟩) C.ts.length H,.int .i64 z.pos,.int .i64 C.fin,.bool C.scr,.slice I.la.a z.la.length I.la.cap,(zbf J.out.cells).trans (by simp[HN.out])⟩,?_⟩
     exact (HH.out.back (ao.out.set _ _)).drew
   ·have ar:OwnR w2 j 77 4 ⟨some ⟨gl,0,none⟩,I.la.cap⟩ z.la.length (z.la.flatMap epL):=by have:=J.out.mem.own.la;unfold OwnR at this ⊢;rw[ha] at this;exact this
    rw[ha] at c9
    have ay:=J.out.mem.base
    have aB:Hid (some o≠I.ep.blk):=fun e=>af.out (.inr (.inr (.inl e.symm)))
    go_wp2_with fail
    go_region_law (first|(refine zmi rfl (.tmp 41) (.tmp 45) 28 rfl j 77 i0 _ 4 56 Tryz.underlying28 hi aI aD aF rfl (by decide) (by decide) I.ep z.ep.length _ (by rfl) (by exact al) gl z.la.length I.la.cap j _ (by rfl) (by exact ar) (zhJ _) (by omega) (by exact ay) ?_;intro r' wz hr aq av;have g2:=(aq.block o (by exact au) aB.out).trans (by exact J.out.cells);obtain⟨d0,d1,d2,d3,d4,d5,d6,d7,d8,d9,df⟩:=zag g2))
    all_goals
     have HR:=zc hr
     have ah:=zc aq
     have aG:=zc av
     have am:=zc g2
     clear hr aq av g2 c0 c1 c2 c3 c4 c5 c6 c7 c8 c9 cf al ar
     go_wp2
     go_end0
     rw[HX.out]
     refine⟨rfl,{I with ep:=r'},J.out.drew.mem.wholeI ah.out HR.out aG.out au af.out (fun k hk=>zx hk),⟨.slice (some ⟨Z,0,none⟩) C.ts.length H,.int .i64 z.pos,.int .i64 C.fin,.bool C.scr,.slice I.la.a z.la.length I.la.cap,(zbf am.out).trans (by simp)⟩,?_⟩
     exact ((HH.out.back ao.out).trans ⟨ah.out.os,ah.out.tape,ah.out.output,ah.out.size,fun k hk=>ah.out.block k (show k<w2.heap.size by omega) (fun e=>by have:=(J.out.mem.own.ep.typed e.symm).1;omega)⟩).setCell J.out.ge _
end Go.Proofs.YthfeoomfiafldaaGreat
