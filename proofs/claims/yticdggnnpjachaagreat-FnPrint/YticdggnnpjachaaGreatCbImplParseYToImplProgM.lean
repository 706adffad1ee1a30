/-
  The table of items of impl's parser: what is stored in it,what is looked up.
  What the items of impl's parser read is what the items of the document are. No program is spoken of.
  'append' of a row onto a row of the call's own,as one step of a region that draws its order; a program handed back. No program is spoken of but for the numbers of its types.
  What program of impl's parser answers: the walks.
  What program of impl's parser answers of a module: the walk.
-/
import Derived.Maps.Own
import Derived.Test.YticdggnnpjachaaGreatCbImplParseVToImplParseX
namespace Go.Proofs.YticdggnnpjachaaGreat
set_option maxRecDepth 100000
set_option maxHeartbeats 3200000
open Go.RowKit Go.PlainAid Go.Sort Go.Maps Go.ChangeMaps
def eM (gp:Nat) (k:ByteArray) (f b:Nat):MapEntry:=⟨.string k,.func (.func f) #[.pointer (some ⟨gp,0,none⟩)] #[],b⟩
def esS (gp:Nat):Array MapEntry:=#[eM gp zC 144 0,eM gp zT 145 1,eM gp zar 146 2,eM gp za3 147 3,eM gp zbA 148 4]
def esM (gp:Nat):Array MapEntry:=#[eM gp zC 144 0,eM gp zT 145 1,eM gp zar 146 2,eM gp za3 147 3,eM gp zah 149 4,eM gp zaf 150 5]
theorem zhj (b:Bool) (k:ByteArray) (W:World):(Instr.checkKey b 10000 9 (.string k)).run Tryz.prog W= .ok () W:=by
 show (Instr.checkKey b (9999+1) 9 (.string k)).run Tryz.prog W= .ok () W
 rw[Instr.checkKey]
 simp[run_underlying Tryz.underlying9]
theorem zhk {k:ByteArray} {j:List MapEntry} {r:Option (Nat×Value)} (n:Instr.findNow .string (.string k) j 0=some r) (W:World):(Instr.findKey 9 (.string k) j).run Tryz.prog W= .ok r W:=by
 simp[Instr.findKey,run_underlying Tryz.underlying9,n]
theorem zc5 {W w0:World} {B g c:Nat} {n:Array MapEntry} {k:ByteArray} {v:Value} (o:W.heap[g]? =some (.map n c)) (z:Instr.findNow .string (.string k) n.toList 0=some none) (j:Below B w0 W) (D:B≤g):
  ∃q,(Instr.mapUpdate 126 (.map (some g)) (.string k) v).run Tryz.prog W= .ok () q∧q.heap[g]? =some (.map (n.push ⟨.string k,v,c⟩) (c+1))∧Below B w0 q:=by
 refine⟨setBlock W g (.map (n.push ⟨.string k,v,c⟩) (c+1)),?_,heap_setBlock_same o _,⟨j.os,j.tape,j.output,by simpa [setBlock] using j.size,fun i A=>(heap_setBlock_other o _ (by omega)).trans (j.block i A)⟩⟩
 simp[Instr.mapUpdate,run_underlying Tryz.underlying126,MapKept.run_getObj_map o,zhj,zhk z,MapKept.run_setObj_map _ o,Result.andThen,setBlock]
theorem zc6 {W:World} {g c i:Nat} {j:Array MapEntry} {k:ByteArray} {v:Value} (n:W.heap[g]? =some (.map j c)) (o:Instr.findNow .string (.string k) j.toList 0=some (some (i,v))):
  (Instr.lookup 126 (.map (some g)) (.string k) true).run Tryz.prog W= .ok (.tuple #[v,.bool true]) W:=by
 simp[Instr.lookup,run_underlying Tryz.underlying126,MapKept.run_getObj_map n,zhj,zhk o,Result.andThen]
theorem zjN {W:World} {g c:Nat} {n:Array MapEntry} {k:ByteArray} (o:W.heap[g]? =some (.map n c)) (q:Instr.findNow .string (.string k) n.toList 0=some none):
  ∃v,(Instr.lookup 126 (.map (some g)) (.string k) true).run Tryz.prog W= .ok (.tuple #[v,.bool false]) W:=by
 have j: ∃v,(zeroValue 1).run Tryz.prog W= .ok v W:=⟨.nilFunc,by kernel_rfl⟩
 obtain⟨v,j⟩:=j
 exact⟨v,by simp[Instr.lookup,run_underlying Tryz.underlying126,MapKept.run_getObj_map o,zhj,zhk q,Result.andThen,j]⟩
theorem zql (C:Cx) (Y j o n:Nat) (S:Sv) (q:PS) (w:World) (h:IM C Y j o n S q w) (V:C.scr=true):
  Calls Tryz.prog 88 #[.pointer (some ⟨n,0,none⟩)] w fun e E=>e= .returned (.map (some w.heap.size))∧E.heap[w.heap.size]? =some (.map (esS n) 5)∧Below w.heap.size w E:=by
 have Z:=zc h
 have Q:=@run_makeMap Tryz.prog
 have X: ∀(K:Fn) (first j:Array Value) (w:World),(Instr.makeFunc K first j).run Tryz.prog w= .ok (.func K first j) w:=fun _ _ _ _=>rfl
 obtain⟨W1,r1,J,I⟩:=zc5 (k:=zC) (v:=.func (.func 144) #[.pointer (some ⟨n,0,none⟩)] #[]) (heap_alloc_new w (.map #[] 0)) rfl ((Below.refl w.heap.size w).alloc (Nat.le_refl _) _) (Nat.le_refl _)
 obtain⟨W2,r2,O,M⟩:=zc5 (k:=zT) (v:=.func (.func 145) #[.pointer (some ⟨n,0,none⟩)] #[]) J rfl I (Nat.le_refl _)
 obtain⟨W3,r3,D,L⟩:=zc5 (k:=zar) (v:=.func (.func 146) #[.pointer (some ⟨n,0,none⟩)] #[]) O rfl M (Nat.le_refl _)
 obtain⟨W4,r4,A,z⟩:=zc5 (k:=za3) (v:=.func (.func 147) #[.pointer (some ⟨n,0,none⟩)] #[]) D rfl L (Nat.le_refl _)
 obtain⟨W5,r5,N,H⟩:=zc5 (k:=zbA) (v:=.func (.func 148) #[.pointer (some ⟨n,0,none⟩)] #[]) A rfl z (Nat.le_refl _)
 have G:=zc N
 have B:=zc H
 obtain⟨_,_,_,U,_,_,_,_,_,_,cf⟩:=zac (Z.out.later z).cells
 rw[V] at U
 clear h J I O M D L A z N H
 go_enter Tryz.func88,Tryz.ntmps88
 go_wp2
 go_ret
 exact⟨rfl,G.out,B.out⟩
theorem zqm (j:Nat):Instr.findNow .string (.string zC) (esS j).toList 0=some (some (0,.func (.func 144) #[.pointer (some ⟨j,0,none⟩)] #[])):=by rfl
theorem zqn (j:Nat):Instr.findNow .string (.string zT) (esS j).toList 0=some (some (1,.func (.func 145) #[.pointer (some ⟨j,0,none⟩)] #[])):=by rfl
theorem zqo (j:Nat):Instr.findNow .string (.string zar) (esS j).toList 0=some (some (2,.func (.func 146) #[.pointer (some ⟨j,0,none⟩)] #[])):=by rfl
theorem zqp (j:Nat):Instr.findNow .string (.string za3) (esS j).toList 0=some (some (3,.func (.func 147) #[.pointer (some ⟨j,0,none⟩)] #[])):=by rfl
theorem zqq (j:Nat):Instr.findNow .string (.string zbA) (esS j).toList 0=some (some (4,.func (.func 148) #[.pointer (some ⟨j,0,none⟩)] #[])):=by rfl
theorem zqr (o:Nat) (x:ByteArray) (q:(x==zC)=false) (z:(x==zT)=false) (A:(x==zar)=false) (j:(x==za3)=false) (n:(x==zbA)=false):Instr.findNow .string (.string x) (esS o).toList 0=some none:=by
 simp[esS,eM,Instr.findNow,Instr.sameNow,q,z,A,j,n]
theorem zqs (C:Cx) (gt j o n:Nat) (S:Sv) (q:PS) (w:World) (h:IM C gt j o n S q w) (Y:C.scr=false):
  Calls Tryz.prog 88 #[.pointer (some ⟨n,0,none⟩)] w fun e H=>e= .returned (.map (some w.heap.size))∧H.heap[w.heap.size]? =some (.map (esM n) 6)∧Below w.heap.size w H:=by
 have HH:=zc h
 have V:=@run_makeMap Tryz.prog
 have Z: ∀(M:Fn) (first j:Array Value) (w:World),(Instr.makeFunc M first j).run Tryz.prog w= .ok (.func M first j) w:=fun _ _ _ _=>rfl
 obtain⟨W1,r1,L,J⟩:=zc5 (k:=zC) (v:=.func (.func 144) #[.pointer (some ⟨n,0,none⟩)] #[]) (heap_alloc_new w (.map #[] 0)) rfl ((Below.refl w.heap.size w).alloc (Nat.le_refl _) _) (Nat.le_refl _)
 obtain⟨W2,r2,U,O⟩:=zc5 (k:=zT) (v:=.func (.func 145) #[.pointer (some ⟨n,0,none⟩)] #[]) L rfl J (Nat.le_refl _)
 obtain⟨W3,r3,D,N⟩:=zc5 (k:=zar) (v:=.func (.func 146) #[.pointer (some ⟨n,0,none⟩)] #[]) U rfl O (Nat.le_refl _)
 obtain⟨W4,r4,A,z⟩:=zc5 (k:=za3) (v:=.func (.func 147) #[.pointer (some ⟨n,0,none⟩)] #[]) D rfl N (Nat.le_refl _)
 obtain⟨W5,r5,Q,I⟩:=zc5 (k:=zah) (v:=.func (.func 149) #[.pointer (some ⟨n,0,none⟩)] #[]) A rfl z (Nat.le_refl _)
 obtain⟨W6,r6,E,K⟩:=zc5 (k:=zaf) (v:=.func (.func 150) #[.pointer (some ⟨n,0,none⟩)] #[]) Q rfl I (Nat.le_refl _)
 have G:=zc E
 have B:=zc K
 obtain⟨_,_,_,X,_,_,_,_,_,_,cf⟩:=zac (HH.out.later z).cells
 rw[Y] at X
 clear h L J U O D N A z Q I E K
 go_enter Tryz.func88,Tryz.ntmps88
 go_wp2
 go_ret
 exact⟨rfl,G.out,B.out⟩
theorem zqt (j:Nat):Instr.findNow .string (.string zC) (esM j).toList 0=some (some (0,.func (.func 144) #[.pointer (some ⟨j,0,none⟩)] #[])):=by rfl
theorem zqu (j:Nat):Instr.findNow .string (.string zT) (esM j).toList 0=some (some (1,.func (.func 145) #[.pointer (some ⟨j,0,none⟩)] #[])):=by rfl
theorem zqv (j:Nat):Instr.findNow .string (.string zar) (esM j).toList 0=some (some (2,.func (.func 146) #[.pointer (some ⟨j,0,none⟩)] #[])):=by rfl
theorem zqw (j:Nat):Instr.findNow .string (.string za3) (esM j).toList 0=some (some (3,.func (.func 147) #[.pointer (some ⟨j,0,none⟩)] #[])):=by rfl
theorem zqx (j:Nat):Instr.findNow .string (.string zah) (esM j).toList 0=some (some (4,.func (.func 149) #[.pointer (some ⟨j,0,none⟩)] #[])):=by rfl
theorem zqy (j:Nat):Instr.findNow .string (.string zaf) (esM j).toList 0=some (some (5,.func (.func 150) #[.pointer (some ⟨j,0,none⟩)] #[])):=by rfl
theorem zqz (q:Nat) (x:ByteArray) (z:(x==zC)=false) (A:(x==zT)=false) (D:(x==zar)=false) (j:(x==za3)=false) (n:(x==zah)=false) (o:(x==zaf)=false):Instr.findNow .string (.string x) (esM q).toList 0=some none:=by
 simp[esM,eM,Instr.findNow,Instr.sameNow,z,A,D,j,n,o]
def za6 (C:Cx) (q:PS):PR:=
 if isT C q.pos 1 zC then letJ C 1 (adv q)
 else if isT C q.pos 1 zT then fnI C (adv q)
 else if isT C q.pos 1 zar then printI C (adv q)
 else if isT C q.pos 1 za3 then stmtI C 5 sNone cSemi (adv q)
 else if C.scr&&isT C q.pos 1 zbA then stmtI C 6 sNone cSemi (adv q)
 else if !C.scr&&isT C q.pos 1 zah then zaJ C (adv q)
 else if !C.scr&&isT C q.pos 1 zaf then zaq C (adv q)
 else letJ C 3 q
theorem zq0 (C:Cx) (k:Int) (n:ByteArray) (q:PS):stmtI C k n cSemi q=bd (bd (bd (pE C .sum 0 q) (zd C 4 cSemi)) (zV C k n)) .ok:=by
 rw[zed,zM,stmtI]
 refine zab fun a _=>?_
 rw[show zaB C cSemi cSemi.size 0 a=zd C 4 cSemi a from zic C 59 a]
theorem zer (C:Cx) (k:Int) (n:ByteArray) (q:PS):bd (bd (pE C .sum 0 q) (zd C 4 cSemi)) (zV C k n)=stmtI C k n cSemi q:=by rw[zq0,zed]
theorem zq1 (C:Cx) (k:Int) (n:ByteArray) (q:PS):bd (bd (bd (pE C .sum 0 q) (zd C 4 za0)) (zd C 4 cSemi)) (zV C k n)=stmtI C k n cShutSemi q:=by
 rw[zM,zM,stmtI]
 refine zab fun a _=>?_
 rw[show zaB C cShutSemi cShutSemi.size 0 a=bd (zd C 4 za0 a) (zd C 4 cSemi) from zid C 41 59 a,zM]
theorem zq2 (C:Cx) (k:Int) (n:ByteArray) (q:PS):bd (bd (bd (pE C .sum 0 q) (zd C 4 cSemi)) (zd C 4 zbm)) (zV C k n)=stmtI C k n cSemiRight q:=by
 rw[zM,zM,stmtI]
 refine zab fun a _=>?_
 rw[show zaB C cSemiRight cSemiRight.size 0 a=bd (zd C 4 cSemi a) (zd C 4 zbm) from zid C 59 125 a,zM]
theorem zjO {C:Cx} {q:PS} (h:isT C q.pos 1 zC=true):zcj C q=bd (letJ C 1 (adv q)) fun a=>.ok (a,(ze C (q.pos+1)).text):=by
 rw[zcj,withN,zbG h,zz,letJ,zM]
 refine zab fun a j=>?_
 rw[zM,zz,zM,zM,zM]
 refine zab fun b _=>?_
 rw[←zM,←zM,zer,(zbd j).1]
 rfl
theorem zjP {C:Cx} {q:PS} (h:isT C q.pos 1 zT=true):fnP C q=bd (fnI C (adv q)) fun a=>.ok (a,(ze C (q.pos+1)).text):=by
 rw[fnP,withN,zbG h,zz,fnI,zM]
 refine zab fun a j=>?_
 rw[show zaB C cCall cCall.size 0 a.1=bd (zd C 4 zn a.1) fun a=>bd (zd C 4 za0 a) (zd C 4 zJ) from zlX C 40 41 123 a.1,zM,zM,zz]
 rw[(zbd j).1]
 simp only[zM,←zq2]
 rfl
theorem zjQ (x:PR) (n:ByteArray):zaK (bd x fun a=>.ok (a,n))=x:=by rw[zaK,zM];exact zed x
theorem zhl (C:Cx) (l:List Ep) (q:PS):impFromI C l q=bd (zaR C (zaE C (.ok q))) fun b=>zP (fun e=>zak C (zbF b.2 e)) l (.ok b.1):=by
 rw[impFromI,zaR,zaE,zz,zM,zM]
 refine zab fun a _=>zab fun b _=>?_
 rw[zM]
 rfl
theorem zq3 {C:Cx} {q:PS} (h:isT C q.pos 1 zah=true):zaQ C q=zaJ C (adv q):=by
 rw[zaQ,zbG h,zz,zaJ]
 cases z:isT C (adv q).pos 4 zJ with
 |true=>
  have j:((ze C (adv q).pos).kind==3)=false:=by
   have:=zf4 z
   rw[beq_iff_eq] at this
   rw[this]
   rfl
  rw[j]
  simp only[Bool.false_eq_true,↓reduceIte]
  rw[zcw,zbG z,zz]
  refine zab fun a _=>?_
  rw[zhl]
 |false=>
  cases o:isT C (adv q).pos 4 zw with
  |true=>
   have j:((ze C (adv q).pos).kind==3)=false:=by
    have:=zf4 o
    rw[beq_iff_eq] at this
    rw[this]
    rfl
   rw[j]
   simp only[Bool.false_eq_true,↓reduceIte]
   rw[zbG o,zz,zM]
   refine zab fun a _=>zab fun b _=>?_
   rw[zhl]
   rfl
  |false=>
   cases A:zD C (adv q).pos false with
   |true=>
    have j:((ze C (adv q).pos).kind==3)=false:=by
     have n:=A
     simp only[zD,Bool.and_eq_true,beq_iff_eq] at n
     rw[n.1]
     rfl
    rw[j]
    simp only[Bool.false_eq_true,↓reduceIte]
    refine zab fun a _=>?_
    rw[zhl]
    rfl
   |false=>
    cases j:((ze C (adv q).pos).kind==3) with
    |true=>simp only[Bool.false_eq_true,↓reduceIte]
    |false=>
     simp only[Bool.false_eq_true,↓reduceIte]
     rw[zH,j,zj,A]
     rfl
theorem zq4 (C:Cx) (l:List Ep) (q:PS) (h:isT C q.pos 1 zU=false) (j:za8 l=false):za5 C l q=bd (zd C 4 cSemi q) fun q=>zP (fun e=>zo C (zA e)) l (.ok q):=by rw[za5,h,j];rfl
theorem zjR (C:Cx) (l:List Ep) (q:PS) (h:(isT C q.pos 1 zU||za8 l)=true):za5 C l q=bd (zaR C (zaE C (.ok q))) fun b=>zP (fun e=>zo C (zai b.2 e)) l (.ok b.1):=by
 rw[za5,h,if_pos rfl,zaR,zaE,zz,zM,zM]
 refine zab fun a _=>zab fun b _=>?_
 rw[zM]
 rfl
theorem zq5 {C:Cx} {q:PS} (h:isT C q.pos 1 zaf=true):zag C q=zaq C (adv q):=by
 rw[zag,zbG h,zz,zaq]
 cases D:isT C (adv q).pos 4 zJ with
 |true=>
  simp only[↓reduceIte]
  rw[zcw,zbG D,zz]
  refine zab fun a _=>?_
  cases n:isT C a.1.pos 1 zU with
  |true=>rw[zjR C a.2 a.1 (by rw[n];rfl),if_neg (by simp)]
  |false=>
   cases j:za8 a.2 with
   |true=>rw[zjR C a.2 a.1 (by rw[j];simp),if_neg (by simp)]
   |false=>rw[zq4 C a.2 a.1 n j,if_pos (by simp)]
 |false=>
  cases E:isT C (adv q).pos 4 zw with
  |true=>
   simp only[Bool.false_eq_true,↓reduceIte]
   rw[zbG E,zaR,zaE,zz,zM,zM]
   refine zab fun a _=>zab fun b _=>?_
   rw[zM]
   rfl
  |false=>
   cases z:isT C (adv q).pos 1 sDefault with
   |true=>
    simp only[Bool.false_eq_true,↓reduceIte]
    rw[zbG z,zz,zer]
   |false=>
    cases o:isT C (adv q).pos 1 zC with
    |true=>
     simp only[Bool.false_eq_true,↓reduceIte]
     rw[zjO o,zM]
     rfl
    |false=>
     cases A:isT C (adv q).pos 1 zT with
     |true=>
      simp only[Bool.false_eq_true,↓reduceIte]
      rw[zjP A,zM]
      rfl
     |false=>simp only[Bool.false_eq_true,↓reduceIte]
theorem zds {C:Cx} {i:Nat} {x y:ByteArray} (h:isT C i 1 x=true) (j:(x.toList==y.toList)=false):isT C i 1 y=false:=by
 have e:=zg5 h
 rw[isT,e,j]
 simp
theorem zjS (C:Cx) (q:PS):za6 C q=zy C q:=by
 rw[za6,zy]
 cases o:isT C q.pos 1 zC with
 |true=>
  rw[zds o (y:=zah) (by simp),zds o (y:=zaf) (by simp)]
  simp only[Bool.false_eq_true,↓reduceIte,Bool.and_false]
  rw[zjO o,zjQ]
 |false=>
  cases z:isT C q.pos 1 zT with
  |true=>
   rw[zds z (y:=zah) (by simp),zds z (y:=zaf) (by simp)]
   simp only[Bool.false_eq_true,↓reduceIte,Bool.and_false]
   rw[zjP z,zjQ]
  |false=>
   cases j:isT C q.pos 1 zar with
   |true=>
    rw[zds j (y:=zah) (by simp),zds j (y:=zaf) (by simp)]
    simp only[Bool.false_eq_true,↓reduceIte,Bool.and_false]
    rw[zbG j,zz,printI,zM,zM,zM]
    refine zab fun a _=>?_
    rw[←zq1,zM,zM]
   |false=>
    cases n:isT C q.pos 1 za3 with
    |true=>
     rw[zds n (y:=zah) (by simp),zds n (y:=zaf) (by simp)]
     simp only[Bool.false_eq_true,↓reduceIte,Bool.and_false]
     rw[zbG n,zz,zer]
    |false=>
     cases H:C.scr with
     |true=>
      cases A:isT C q.pos 1 zbA with
      |true=>
       simp only[Bool.false_eq_true,↓reduceIte,Bool.not_true,Bool.false_and,Bool.and_self]
       rw[zbG A,zz,zer]
      |false=>
       simp only[Bool.false_eq_true,↓reduceIte,Bool.not_true,Bool.false_and,Bool.and_false]
       rw[letJ]
       refine zab fun a _=>?_
       rw[zM,zM]
       refine zab fun b _=>?_
       rw[←zM,zer]
     |false=>
      cases D:isT C q.pos 1 zah with
      |true=>
       simp only[Bool.false_eq_true,↓reduceIte,Bool.not_false,Bool.false_and,Bool.and_self]
       rw[zq3 D]
      |false=>
       cases E:isT C q.pos 1 zaf with
       |true=>
        simp only[Bool.false_eq_true,↓reduceIte,Bool.not_false,Bool.false_and,Bool.and_self,Bool.and_false]
        rw[zq5 E]
       |false=>
        simp only[Bool.false_eq_true,↓reduceIte,Bool.not_false,Bool.false_and,Bool.and_false]
        rw[letJ]
        refine zab fun a _=>?_
        rw[zM,zM]
        refine zab fun b _=>?_
        rw[←zM,zer]
theorem zjT {P:Program} {U:Array Oper} {o:Oper} {a:Act} {W:World} {K:Act→World→Prop} {Q:Exit→Act→World→Prop} {E:Prop} (ad:o.guard=none) (s x:Operand) (t:TypeId)
  (ho:o.op= .call {callee:=.builtin .append,args:=#[s,x],argTypes:=#[t,t]})
  (D:Nat) (e:TypeId) (i:TypeInfo) (z:Value) (size q:Nat) (ht:P.underlying t=some (.slice e)) (hi:P.info? e=some i) (hz:i.zero=some z) (L:i.size=size) (ae:i.bytes=q) (aa:z.cells.size=size) (af:0<size) (X:q≤100)
  (r:Rw) (n:Nat) (xs:List Value) (hs:a.eval s= .slice r.a n r.cap) (N:OwnR W D e size r n xs)
  (Y m c I:Nat) (A:List Value) (hx:a.eval x= .slice (some ⟨Y,0,none⟩) m c) (hg:OwnR W I e size ⟨some ⟨Y,0,none⟩,c⟩ m A) (h1: ∀u∈A,u.oneCell'=true) (hn:n+m≤1000000) (J:D≤W.heap.size)
  (h: ∀V M,OwnR M D e size V (n+m) (xs++A)→W.grownBy M r.blk→(V.blk=r.blk∨V.blk=some W.heap.size)→K (a.put o.dst (.slice V.a (n+m:Nat) V.cap)) M):
  if Region.wanted o (yielded U a.tmps)=true then Oper.wp P o a W K Q else E:=by
 have hw:Region.wanted o (yielded U a.tmps)=true:=by simp[Region.wanted,ad]
 rw[if_pos hw]
 obtain⟨v',M,hr,Z,h3,_,h5⟩:=run_append_own_at (P:=P) W D t o.type e i z size q ht hi hz L ae aa af _ n xs N ⟨Y,0,none⟩ m c A hg.1 (by
  intro j u hj
  have e1:(⟨Y,0,none⟩:Addr).add j=⟨Y,j,none⟩:=by simp[Addr.add];exact fun h=>h.symm
  have ab:j<A.length:=(List.getElem?_eq_some_iff.1 hj).1
  rw[e1,World.ownsRow.cellAt hg j (by rw[←hg.1];exact ab)]
  exact hj) h1 (by unfold maxLen;omega) (by have:(n+m)*q≤1000000*100:=Nat.mul_le_mul hn X;omega) J
 unfold Oper.wp execOp
 simp only[ho,resolve,invoke,builtin,Sem.run_bind,Sem.run_pure,Result.andThen_ok,List.map_toArray,List.map_cons,List.map_nil,hs,hx,hr]
 rcases Z.2 with ⟨hv,O⟩|⟨g',H,ag,rfl,ac⟩
 ·subst hv
  have:=h ⟨none,0⟩ M (by rw[O] at Z ⊢;exact Z) (by rw[←zbo r n];exact h3) (by rw[←zbo r n];exact h5)
  rw[O] at this
  exact this
 ·refine h ⟨some ⟨g',0,none⟩,H⟩ M Z ?_ ?_
  ·rw[←zbo r n];exact h3
  ·rw[←zbo r n,←zbo ⟨some ⟨g',0,none⟩,H⟩ (n+m)];exact h5
theorem zjU {P:Program} {z:Array Oper} {o:Oper} {a:Act} {W:World} {K:Act→World→Prop} {Q:Exit→Act→World→Prop} {E:Prop} (D:o.guard=none) (s x:Operand) (t:TypeId)
  (V:o.op= .call {callee:=.builtin .append,args:=#[s,x],argTypes:=#[t,t]})
  (e:TypeId) (i:TypeInfo) (H:P.underlying t=some (.slice e)) (I:P.info? e=some i) (j size n:Nat)
  (r:Rw) (xs:List Value) (O:a.eval s= .slice r.a n r.cap) (q:OwnR W j e size r n xs) (N:a.eval x= .slice none 0 0)
  (h:K (a.put o.dst (.slice r.a n r.cap)) W):if Region.wanted o (yielded z a.tmps)=true then Oper.wp P o a W K Q else E:=by
 have J:Region.wanted o (yielded z a.tmps)=true:=by simp[Region.wanted,D]
 rw[if_pos J]
 have L:(Builtin.append_ #[t,t] o.type #[.slice r.a n r.cap,.slice none 0 0]).run P W= .ok (.slice r.a n r.cap) W:=by
  rcases q.2 with ⟨A,_⟩|⟨g,M,U,A,_,_,X,_⟩
  ·rw[A]
   simp[Builtin.append_,run_underlying H,sizeOf,typeInfo,I,Builtin.lenOf,Builtin.firstCells]
  ·rw[A]
   simp[Builtin.append_,run_underlying H,sizeOf,typeInfo,I,Builtin.lenOf,Builtin.firstCells,loadCells,X,storeCells]
 unfold Oper.wp execOp
 simp only[V,resolve,invoke,builtin,Sem.run_bind,Sem.run_pure,Result.andThen_ok,List.map_toArray,List.map_cons,List.map_nil,O,N,L]
 exact h
theorem Mem.wholeI {C:Cx} {V I j b:Nat} {S:Sv} {q:PS} {W L J:World} {H:Rw} (A:Mem C V I j S q W) (Y:W.grownBy L S.ep.blk) (U:OwnR L j 102 4 H (q.ep.length+q.la.length) (q.ep.flatMap epL++q.la.flatMap epL)) (N:H.blk=S.ep.blk∨H.blk=some W.heap.size) (hb:b<W.heap.size) (o: ¬S.has b)
  (O: ∀k,k≠b→J.heap[k]? =L.heap[k]?):OwnMod J j {S with ep:=H} q:=by
 have D:(q.ep++q.la).length=q.ep.length+q.la.length:=by simp
 have E: ∀(r:Rw) (e:TypeId) (z n:Nat) (K:List Value),OwnR W j e z r n K→e≠102→(∀k,r.blk=some k→S.has k)→OwnR J j e z r n K:=fun r e z n K h X Q=>
  h.keep fun k g=>(O k (fun M=>o (by rw[←M];exact Q k g))).trans (Y.block k (h.typed g).2.1 fun Z=>(h.ne A.own.ep X g) Z.symm)
 refine⟨E _ _ _ _ _ A.own.rq (by decide) fun k g=>.inl g,E _ _ _ _ _ A.own.im (by decide) fun k g=>.inr (.inl g),?_,E _ _ _ _ _ A.own.st (by decide) fun k g=>.inr (.inr (.inr (.inl g))),E _ _ _ _ _ A.own.ex (by decide) fun k g=>.inr (.inr (.inr (.inr (.inl g)))),A.inv.rq,A.inv.im,A.inv.ep,A.inv.st,A.inv.ex⟩
 rw[D,List.flatMap_append]
 refine U.keep fun k g=>O k ?_
 rcases N with e|e
 ·intro M
  exact o (by rw[←M];exact .inr (.inr (.inl (by rw[←e];exact g))))
 ·have:W.heap.size=k:=Option.some.inj (e.symm.trans g)
  omega
theorem Mem.wholeI0 {C:Cx} {J E j b:Nat} {S:Sv} {q:PS} {W H:World} (z:Mem C J E j S q W) (K:q.la=[]) (A: ¬S.has b)
  (N: ∀k,k≠b→H.heap[k]? =W.heap[k]?):OwnMod H j S q:=by
 have D: ∀(r:Rw) (e:TypeId) (o n:Nat) (I:List Value),OwnR W j e o r n I→(∀k,r.blk=some k→S.has k)→OwnR H j e o r n I:=fun r e o n I h L=>
  h.keep fun k g=>N k (fun M=>A (by rw[←M];exact L k g))
 refine⟨D _ _ _ _ _ z.own.rq fun k g=>.inl g,D _ _ _ _ _ z.own.im fun k g=>.inr (.inl g),?_,D _ _ _ _ _ z.own.st fun k g=>.inr (.inr (.inr (.inl g))),D _ _ _ _ _ z.own.ex fun k g=>.inr (.inr (.inr (.inr (.inl g)))),z.inv.rq,z.inv.im,z.inv.ep,z.inv.st,z.inv.ex⟩
 rw[K,List.append_nil]
 exact D _ _ _ _ _ z.own.ep fun k g=>.inr (.inr (.inl g))
theorem zc7 {C:Cx} {i:Nat} {k:ByteArray} (h:isT C i 1 k=true):zcm C i=k:=by
 rw[zcm,zf4 h,zg5 h]
 rfl
theorem zc8 {C:Cx} {i:Nat} {k:ByteArray} (h:isT C i 1 k=false) (n:sNone≠k):(zcm C i==k)=false:=by
 rw[Bool.eq_false_iff]
 intro e
 rw[MapKept.bytes_beq] at e
 cases j:((ze C i).kind==1) with
 |false=>
  rw[zcm,j] at e
  exact n e
 |true=>
  rw[zcm,j,if_pos rfl] at e
  rw[isT,j,e] at h
  simp at h
theorem zbt {C:Cx} {E o n D g c:Nat} {S H:Sv} {q:PS} {W A:World} {z:Array MapEntry} (h:IM C E o n D S q W) (j:W.heap[g]? =some (.map z c)) (s:IS D S W H A):A.heap[g]? =some (.map z c):=by
 refine (s.block g (Array.getElem?_eq_some_iff.1 j).1 (fun k=>?_) (fun e=>?_)).trans j
 ·rcases k with k|k|k|k|k|k
  ·obtain⟨_,_,c,e⟩:=h.mem.own.rq.typed k
   rw[j] at e;cases e
  ·obtain⟨_,_,c,e⟩:=h.mem.own.im.typed k
   rw[j] at e;cases e
  ·obtain⟨_,_,c,e⟩:=h.mem.own.ep.typed k
   rw[j] at e;cases e
  ·obtain⟨_,_,c,e⟩:=h.mem.own.st.typed k
   rw[j] at e;cases e
  ·obtain⟨_,_,c,e⟩:=h.mem.own.ex.typed k
   rw[j] at e;cases e
  ·obtain⟨_,_,c,e⟩:=h.mem.own.la.typed k
   rw[j] at e;cases e
 ·have:=h.cells
  rw[←e,j] at this
  cases this
theorem zce {C:Cx} {q:PS} {y:PR} (j:q.pos<C.ts.length) (n:za6 C q=y):zas C q=bd y (zas C):=by rw[zfu,if_pos j,←zjS,n]
theorem zjV {C:Cx} {q:PS} (j: ¬q.pos<C.ts.length):zas C q= .ok q:=by rw[zfu,if_neg j]
theorem zcf {C:Cx} {q a:PS} {y:PR} (j:za6 C q=y) (h:y= .ok a):q.pos<a.pos:=zft (by rw[←zjS,j,h])
def zhm (base gp:Nat) (y:PR) (w:World) (e:Ending) (w':World):Prop:=
 match y with
 | .ok q=>e= .returned (.tuple #[])∧∃S,OwnMod w' base S q∧(∃v0 v1 v2 v3 v9,w'.heap[gp]? =some (.cells #[v0,v1,v2,v3,.slice S.rq.a q.rq.length S.rq.cap,.slice S.im.a q.im.length S.im.cap,.slice S.ep.a (q.ep++q.la).length S.ep.cap,.slice S.st.a q.st.length S.st.cap,.slice S.ex.a q.ex.length S.ex.cap,v9] 59 (0,0)))∧Below base w w'
 | .error p=>e=Pan p∧Below base w w'
theorem zq6 (C:Cx) (X D j n:Nat) (S:Sv) (q:PS) (w:World) (h:IM C X D j n S q w) (hs:C.scr=true):
  Calls Tryz.prog 24 #[.pointer (some ⟨n,0,none⟩)] w (zhm j n (zas C q) w):=by
 obtain⟨i0,hi,ax,aG,aF⟩:=info_parts Tryz.infoExp
 have HH:=zc h
 clear h
 go_enter Tryz.func24,Tryz.ntmps24
 go_wp2_with fail
 refine (zql C X D j n S q _ HH.out hs).mono ?_
 rintro e w1 ⟨rfl,hg,Y⟩
 have aA:Hid (IM C X D j n S q w1):=HH.out.later Y
 have ay:Hid (IS n S w S w1):=IS.below Y
 have aD:=zc hg
 clear hg Y
 go_wp2
 go_loopg [] (C.ts.length+1) (fun k wr=>∃(E:Sv) (o:PS),zas C q=zas C o∧C.ts.length-o.pos<k∧IM C X D j n E o wr∧IS n S w E wr∧wr.heap[w.heap.size]? =some (.map (esS n) 5))
 case atStart=>exact⟨S,q,rfl,by omega,aA.out,ay.out,aD.out⟩
 case round=>
  obtain⟨E,o,hy,hk,m',s',g'⟩:=hrel
  have af:=zc hy
  have al:Hid (IM C X D j n E o wr):=m'
  have au:Hid (IS n S w E wr):=s'
  have aq:Hid (wr.heap[w.heap.size]? =some (.map (esS n) 5)):=g'
  obtain⟨c0,c1,_,_,_,_,_,_,_,_,_⟩:=zac m'.cells
  have C0:=zc c0
  have C1:=zc c1
  have aK:=m'.mem.inv.pos
  have aI:=m'.mem.few
  clear hy m' s' g' c0 c1
  have k0:=cell_regrown C0.out
  have k1:=cell_regrown C1.out
  by_cases hp:o.pos<C.ts.length
  ·have aE:((o.pos:Int)<(C.ts.length:Int)):=by omega
   go_wp2_with fail
   refine wp_region_quiet_below (by kernel_rfl) (by kernel_rfl) ?_
   repeat (go_big_quiet_step (fail))
   refine wpQuiet_nil ?_
   intro w2 ap
   obtain⟨⟨dq,aH⟩,aa⟩:=ap
   have ad:Hid (Below wr.heap.size wr w2):=by show Below _ _ _;rw[aa];exact below_regrown _ _ _
   clear aa k0 k1 C0 C1
   have H:Hid (IM C X D j n E o w2):=al.out.later ad.out
   have an:Hid (IS n S w E w2):=au.out.trans (IS.below ad.out)
   have am:Hid (w2.heap[w.heap.size]? =some (.map (esS n) 5)):=zbt al.out aq.out (IS.below ad.out)
   go_wp2_with fail
   refine (zim C X D j n E o _ H.out).mono ?_
   rintro e w3 ⟨rfl,Y⟩
   have ab:Hid (IM C X D j n E o w3):=H.out.later Y
   have ae:Hid (IS n S w E w3):=an.out.trans (IS.below Y)
   have L:Hid (w3.heap[w.heap.size]? =some (.map (esS n) 5)):=zbt H.out am.out (IS.below Y)
   clear Y
   have ai:w.heap.size≠n:=by have:=HH.out.lt;omega
   obtain⟨c0,c1,c2,c3,c4,c5,c6,c7,c8,c9,cf⟩:=zac ab.out.cells
   cases t0:isT C o.pos 1 zC with
   |true=>
    have A:za6 C o=letJ C 1 (adv o):=by rw[za6,t0];rfl
    have HZ:=zc (af.out.trans (zce hp A))
    have U:=zc A
    clear A
    rw[zc7 t0]
    have aj:=zc6 L.out (zqm n)
    go_wp2_with fail
    have I:Hid (IM C X D j n E (adv o) (w3.setCell ⟨n,1,none⟩ (.int .i64 ((o.pos:Int)+1)))):=ab.out.adv hp
    have K:Hid (IS n S w E (w3.setCell ⟨n,1,none⟩ (.int .i64 ((o.pos:Int)+1)))):=ae.out.set _ _
    have Z:Hid ((w3.setCell ⟨n,1,none⟩ (.int .i64 ((o.pos:Int)+1))).heap[w.heap.size]? =some (.map (esS n) 5)):=(zi ai).trans L.out
    refine (zg7 C X D j n E (adv o) _ I.out).mono ?_
    cases z:letJ C 1 (adv o) with
    |error p=>
     rintro e J ⟨rfl,Y⟩
     have HB:Hid (Below j w J):=(HH.out.back K.out).trans Y
     have HX:Hid (zas C q= .error p):=bdE HZ.out z
     unfold Pan
     go_wp2
     refine⟨rfl,?_⟩
     rw[HX.out]
     exact⟨rfl,HB.out⟩
    |ok a5=>
     rintro e J ⟨rfl,S5,m,s⟩
     have Q:Hid (J.heap[w.heap.size]? =some (.map (esS n) 5)):=zbt I.out Z.out s
     have M:=zc m
     have V:Hid (IS n S w S5 J):=K.out.trans s
     clear m s
     have O:=zc (bdO HZ.out z)
     have N:=zc (zcf U.out z)
     go_wp2
     go_roundg (gk-1)
     case rel=>exact⟨S5,a5,O.out,by have:=N.out;omega,M.out,V.out,Q.out⟩
     case measure=>omega
   |false=>
    cases t1:isT C o.pos 1 zT with
    |true=>
     have A:za6 C o=fnI C (adv o):=by rw[za6,t0,t1];simp only[Bool.false_eq_true,↓reduceIte]
     have HZ:=zc (af.out.trans (zce hp A))
     have U:=zc A
     clear A
     rw[zc7 t1]
     have aj:=zc6 L.out (zqn n)
     go_wp2_with fail
     have I:Hid (IM C X D j n E (adv o) (w3.setCell ⟨n,1,none⟩ (.int .i64 ((o.pos:Int)+1)))):=ab.out.adv hp
     have K:Hid (IS n S w E (w3.setCell ⟨n,1,none⟩ (.int .i64 ((o.pos:Int)+1)))):=ae.out.set _ _
     have Z:Hid ((w3.setCell ⟨n,1,none⟩ (.int .i64 ((o.pos:Int)+1))).heap[w.heap.size]? =some (.map (esS n) 5)):=(zi ai).trans L.out
     refine (zg8 C X D j n E (adv o) _ I.out).mono ?_
     cases z:fnI C (adv o) with
     |error p=>
      rintro e J ⟨rfl,Y⟩
      have HB:Hid (Below j w J):=(HH.out.back K.out).trans Y
      have HX:Hid (zas C q= .error p):=bdE HZ.out z
      unfold Pan
      go_wp2
      refine⟨rfl,?_⟩
      rw[HX.out]
      exact⟨rfl,HB.out⟩
     |ok a5=>
      rintro e J ⟨rfl,S5,m,s⟩
      have Q:Hid (J.heap[w.heap.size]? =some (.map (esS n) 5)):=zbt I.out Z.out s
      have M:=zc m
      have V:Hid (IS n S w S5 J):=K.out.trans s
      clear m s
      have O:=zc (bdO HZ.out z)
      have N:=zc (zcf U.out z)
      go_wp2
      go_roundg (gk-1)
      case rel=>exact⟨S5,a5,O.out,by have:=N.out;omega,M.out,V.out,Q.out⟩
      case measure=>omega
    |false=>
     cases t2:isT C o.pos 1 zar with
     |true=>
      have A:za6 C o=printI C (adv o):=by rw[za6,t0,t1,t2];simp only[Bool.false_eq_true,↓reduceIte]
      have HZ:=zc (af.out.trans (zce hp A))
      have U:=zc A
      clear A
      rw[zc7 t2]
      have aj:=zc6 L.out (zqo n)
      go_wp2_with fail
      have I:Hid (IM C X D j n E (adv o) (w3.setCell ⟨n,1,none⟩ (.int .i64 ((o.pos:Int)+1)))):=ab.out.adv hp
      have K:Hid (IS n S w E (w3.setCell ⟨n,1,none⟩ (.int .i64 ((o.pos:Int)+1)))):=ae.out.set _ _
      have Z:Hid ((w3.setCell ⟨n,1,none⟩ (.int .i64 ((o.pos:Int)+1))).heap[w.heap.size]? =some (.map (esS n) 5)):=(zi ai).trans L.out
      refine (zik C X D j n E (adv o) _ I.out).mono ?_
      cases z:printI C (adv o) with
      |error p=>
       rintro e J ⟨rfl,Y⟩
       have HB:Hid (Below j w J):=(HH.out.back K.out).trans Y
       have HX:Hid (zas C q= .error p):=bdE HZ.out z
       unfold Pan
       go_wp2
       refine⟨rfl,?_⟩
       rw[HX.out]
       exact⟨rfl,HB.out⟩
      |ok a5=>
       rintro e J ⟨rfl,S5,m,s⟩
       have Q:Hid (J.heap[w.heap.size]? =some (.map (esS n) 5)):=zbt I.out Z.out s
       have M:=zc m
       have V:Hid (IS n S w S5 J):=K.out.trans s
       clear m s
       have O:=zc (bdO HZ.out z)
       have N:=zc (zcf U.out z)
       go_wp2
       go_roundg (gk-1)
       case rel=>exact⟨S5,a5,O.out,by have:=N.out;omega,M.out,V.out,Q.out⟩
       case measure=>omega
     |false=>
      cases t3:isT C o.pos 1 za3 with
      |true=>
       have A:za6 C o=stmtI C 5 sNone cSemi (adv o):=by rw[za6,t0,t1,t2,t3];simp only[Bool.false_eq_true,↓reduceIte]
       have HZ:=zc (af.out.trans (zce hp A))
       have U:=zc A
       clear A
       rw[zc7 t3]
       have aj:=zc6 L.out (zqp n)
       go_wp2_with fail
       have I:Hid (IM C X D j n E (adv o) (w3.setCell ⟨n,1,none⟩ (.int .i64 ((o.pos:Int)+1)))):=ab.out.adv hp
       have K:Hid (IS n S w E (w3.setCell ⟨n,1,none⟩ (.int .i64 ((o.pos:Int)+1)))):=ae.out.set _ _
       have Z:Hid ((w3.setCell ⟨n,1,none⟩ (.int .i64 ((o.pos:Int)+1))).heap[w.heap.size]? =some (.map (esS n) 5)):=(zi ai).trans L.out
       refine (zil C X D j n E (adv o) _ I.out).mono ?_
       cases z:stmtI C 5 sNone cSemi (adv o) with
       |error p=>
        rintro e J ⟨rfl,Y⟩
        have HB:Hid (Below j w J):=(HH.out.back K.out).trans Y
        have HX:Hid (zas C q= .error p):=bdE HZ.out z
        unfold Pan
        go_wp2
        refine⟨rfl,?_⟩
        rw[HX.out]
        exact⟨rfl,HB.out⟩
       |ok a5=>
        rintro e J ⟨rfl,S5,m,s⟩
        have Q:Hid (J.heap[w.heap.size]? =some (.map (esS n) 5)):=zbt I.out Z.out s
        have M:=zc m
        have V:Hid (IS n S w S5 J):=K.out.trans s
        clear m s
        have O:=zc (bdO HZ.out z)
        have N:=zc (zcf U.out z)
        go_wp2
        go_roundg (gk-1)
        case rel=>exact⟨S5,a5,O.out,by have:=N.out;omega,M.out,V.out,Q.out⟩
        case measure=>omega
      |false=>
       cases t4:isT C o.pos 1 zbA with
       |true=>
        have A:za6 C o=stmtI C 6 sNone cSemi (adv o):=by rw[za6,t0,t1,t2,t3,t4,hs];simp only[Bool.false_eq_true,↓reduceIte,Bool.and_self]
        have HZ:=zc (af.out.trans (zce hp A))
        have U:=zc A
        clear A
        rw[zc7 t4]
        have aj:=zc6 L.out (zqq n)
        go_wp2_with fail
        have I:Hid (IM C X D j n E (adv o) (w3.setCell ⟨n,1,none⟩ (.int .i64 ((o.pos:Int)+1)))):=ab.out.adv hp
        have K:Hid (IS n S w E (w3.setCell ⟨n,1,none⟩ (.int .i64 ((o.pos:Int)+1)))):=ae.out.set _ _
        have Z:Hid ((w3.setCell ⟨n,1,none⟩ (.int .i64 ((o.pos:Int)+1))).heap[w.heap.size]? =some (.map (esS n) 5)):=(zi ai).trans L.out
        refine (zmt C X D j n E (adv o) _ I.out).mono ?_
        cases z:stmtI C 6 sNone cSemi (adv o) with
        |error p=>
         rintro e J ⟨rfl,Y⟩
         have HB:Hid (Below j w J):=(HH.out.back K.out).trans Y
         have HX:Hid (zas C q= .error p):=bdE HZ.out z
         unfold Pan
         go_wp2
         refine⟨rfl,?_⟩
         rw[HX.out]
         exact⟨rfl,HB.out⟩
        |ok a5=>
         rintro e J ⟨rfl,S5,m,s⟩
         have Q:Hid (J.heap[w.heap.size]? =some (.map (esS n) 5)):=zbt I.out Z.out s
         have M:=zc m
         have V:Hid (IS n S w S5 J):=K.out.trans s
         clear m s
         have O:=zc (bdO HZ.out z)
         have N:=zc (zcf U.out z)
         go_wp2
         go_roundg (gk-1)
         case rel=>exact⟨S5,a5,O.out,by have:=N.out;omega,M.out,V.out,Q.out⟩
         case measure=>omega
       |false=>
        have A:za6 C o=letJ C 3 o:=by rw[za6,t0,t1,t2,t3,t4,hs];simp only[Bool.false_eq_true,↓reduceIte,Bool.and_false,Bool.not_true,Bool.false_and]
        have HZ:=zc (af.out.trans (zce hp A))
        have U:=zc A
        clear A
        obtain⟨vz,aj⟩:=zjN L.out (zqr n (zcm C o.pos) (zc8 t0 (by decide)) (zc8 t1 (by decide)) (zc8 t2 (by decide)) (zc8 t3 (by decide)) (zc8 t4 (by decide)))
        go_wp2_with fail
        refine (zij C X D j n E o _ ab.out).mono ?_
        cases z:letJ C 3 o with
        |error p=>
         rintro e J ⟨rfl,Y⟩
         have HB:Hid (Below j w J):=(HH.out.back ae.out).trans Y
         have HX:Hid (zas C q= .error p):=bdE HZ.out z
         unfold Pan
         go_wp2
         refine⟨rfl,?_⟩
         rw[HX.out]
         exact⟨rfl,HB.out⟩
        |ok a5=>
         rintro e J ⟨rfl,S5,m,s⟩
         have Q:Hid (J.heap[w.heap.size]? =some (.map (esS n) 5)):=zbt ab.out L.out s
         have M:=zc m
         have V:Hid (IS n S w S5 J):=ae.out.trans s
         clear m s
         have O:=zc (bdO HZ.out z)
         have N:=zc (zcf U.out z)
         go_wp2
         go_roundg (gk-1)
         case rel=>exact⟨S5,a5,O.out,by have:=N.out;omega,M.out,V.out,Q.out⟩
         case measure=>omega
  ·have aE: ¬((o.pos:Int)<(C.ts.length:Int)):=by omega
   go_wp2_with fail
   refine wp_region_quiet_below (by kernel_rfl) (by kernel_rfl) ?_
   repeat (go_big_quiet_step (fail))
   refine wpQuiet_nil ?_
   intro w2 ap
   obtain⟨⟨dq,aH⟩,aa⟩:=ap
   have ad:Hid (Below wr.heap.size wr w2):=by show Below _ _ _;rw[aa];exact below_regrown _ _ _
   clear aa k0 k1 C0 C1
   have H:Hid (IM C X D j n E o w2):=al.out.later ad.out
   have an:Hid (IS n S w E w2):=au.out.trans (IS.below ad.out)
   have am:Hid (w2.heap[w.heap.size]? =some (.map (esS n) 5)):=zbt al.out aq.out (IS.below ad.out)
   have HX:=zc (af.out.trans (zjV hp))
   obtain⟨c0,c1,c2,c3,c4,c5,c6,c7,c8,c9,cf⟩:=zac H.out.cells
   have ak:=H.out.mem.own.ep
   have aJ:=H.out.mem.inv.ep
   have ah:=H.out.free
   have ac:=zc ah
   clear ah
   have aw:=H.out.lt
   rcases H.out.mem.own.la.nil_or with ⟨ha,hc,hn⟩|⟨gl,ha⟩
   ·have HN:=zc (List.eq_nil_of_length_eq_zero hn)
    rw[ha,hc,hn] at c9
    clear ha hc hn
    go_wp2_with fail
    go_region_law (first|(refine zjU rfl (.tmp 41) (.tmp 45) 24 rfl 102 i0 Tryz.underlying24 hi j 4 o.ep.length E.ep _ (by rfl) (by exact ak) (by rfl) ?_))
    all_goals
     go_wp2
     go_end0
     rw[HX.out]
     refine⟨rfl,E,H.out.mem.wholeI0 HN.out ac.out (fun k hk=>zi hk),⟨.slice (some ⟨X,0,none⟩) C.ts.length D,.int .i64 o.pos,.int .i64 C.fin,.bool C.scr,.slice E.la.a o.la.length E.la.cap,(za9 H.out.cells).trans (by simp[HN.out])⟩,?_⟩
     exact (HH.out.back (an.out.set _ _)).drew
   ·have av:OwnR w2 j 102 4 ⟨some ⟨gl,0,none⟩,E.la.cap⟩ o.la.length (o.la.flatMap epL):=by have:=H.out.mem.own.la;unfold OwnR at this ⊢;rw[ha] at this;exact this
    rw[ha] at c9
    have aC:=H.out.mem.base
    have aB:Hid (some n≠E.ep.blk):=fun e=>ac.out (.inr (.inr (.inl e.symm)))
    go_wp2_with fail
    go_region_law (first|(refine zjT rfl (.tmp 41) (.tmp 45) 24 rfl j 102 i0 _ 4 56 Tryz.underlying24 hi ax aG aF rfl (by decide) (by decide) E.ep o.ep.length _ (by rfl) (by exact ak) gl o.la.length E.la.cap j _ (by rfl) (by exact av) (zgu _) (by omega) (by exact aC) ?_;intro r' wz hr ao ar;have g2:=(ao.block n (by exact aw) aB.out).trans (by exact H.out.cells);obtain⟨d0,d1,d2,d3,d4,d5,d6,d7,d8,d9,df⟩:=zac g2))
    all_goals
     have HR:=zc hr
     have ag:=zc ao
     have az:=zc ar
     have am:=zc g2
     clear hr ao ar g2 c0 c1 c2 c3 c4 c5 c6 c7 c8 c9 cf ak av
     go_wp2
     go_end0
     rw[HX.out]
     refine⟨rfl,{E with ep:=r'},H.out.drew.mem.wholeI ag.out HR.out az.out aw ac.out (fun k hk=>zi hk),⟨.slice (some ⟨X,0,none⟩) C.ts.length D,.int .i64 o.pos,.int .i64 C.fin,.bool C.scr,.slice E.la.a o.la.length E.la.cap,(za9 am.out).trans (by simp)⟩,?_⟩
     exact ((HH.out.back an.out).trans ⟨ag.out.os,ag.out.tape,ag.out.output,ag.out.size,fun k hk=>ag.out.block k (show k<w2.heap.size by omega) (fun e=>by have:=(H.out.mem.own.ep.typed e.symm).1;omega)⟩).setCell H.out.ge _
theorem zq7 (C:Cx) (X D j n:Nat) (S:Sv) (q:PS) (w:World) (h:IM C X D j n S q w) (hC:zbf C) (hs:C.scr=false):
  Calls Tryz.prog 24 #[.pointer (some ⟨n,0,none⟩)] w (zhm j n (zas C q) w):=by
 obtain⟨i0,hi,ax,aG,aF⟩:=info_parts Tryz.infoExp
 have HH:=zc h
 clear h
 go_enter Tryz.func24,Tryz.ntmps24
 go_wp2_with fail
 refine (zqs C X D j n S q _ HH.out hs).mono ?_
 rintro e w1 ⟨rfl,hg,Z⟩
 have aA:Hid (IM C X D j n S q w1):=HH.out.later Z
 have ay:Hid (IS n S w S w1):=IS.below Z
 have aD:=zc hg
 clear hg Z
 go_wp2
 go_loopg [] (C.ts.length+1) (fun k wr=>∃(E:Sv) (o:PS),zas C q=zas C o∧C.ts.length-o.pos<k∧IM C X D j n E o wr∧IS n S w E wr∧wr.heap[w.heap.size]? =some (.map (esM n) 6))
 case atStart=>exact⟨S,q,rfl,by omega,aA.out,ay.out,aD.out⟩
 case round=>
  obtain⟨E,o,hy,hk,m',s',g'⟩:=hrel
  have ad:=zc hy
  have al:Hid (IM C X D j n E o wr):=m'
  have au:Hid (IS n S w E wr):=s'
  have aq:Hid (wr.heap[w.heap.size]? =some (.map (esM n) 6)):=g'
  obtain⟨c0,c1,_,_,_,_,_,_,_,_,_⟩:=zac m'.cells
  have C0:=zc c0
  have C1:=zc c1
  have aK:=m'.mem.inv.pos
  have aI:=m'.mem.few
  clear hy m' s' g' c0 c1
  have k0:=cell_regrown C0.out
  have k1:=cell_regrown C1.out
  by_cases hp:o.pos<C.ts.length
  ·have aE:((o.pos:Int)<(C.ts.length:Int)):=by omega
   go_wp2_with fail
   refine wp_region_quiet_below (by kernel_rfl) (by kernel_rfl) ?_
   repeat (go_big_quiet_step (fail))
   refine wpQuiet_nil ?_
   intro w2 ap
   obtain⟨⟨dq,aH⟩,ab⟩:=ap
   have af:Hid (Below wr.heap.size wr w2):=by show Below _ _ _;rw[ab];exact below_regrown _ _ _
   clear ab k0 k1 C0 C1
   have H:Hid (IM C X D j n E o w2):=al.out.later af.out
   have an:Hid (IS n S w E w2):=au.out.trans (IS.below af.out)
   have am:Hid (w2.heap[w.heap.size]? =some (.map (esM n) 6)):=zbt al.out aq.out (IS.below af.out)
   go_wp2_with fail
   refine (zim C X D j n E o _ H.out).mono ?_
   rintro e w3 ⟨rfl,Z⟩
   have aa:Hid (IM C X D j n E o w3):=H.out.later Z
   have ac:Hid (IS n S w E w3):=an.out.trans (IS.below Z)
   have L:Hid (w3.heap[w.heap.size]? =some (.map (esM n) 6)):=zbt H.out am.out (IS.below Z)
   clear Z
   have ah:w.heap.size≠n:=by have:=HH.out.lt;omega
   obtain⟨c0,c1,c2,c3,c4,c5,c6,c7,c8,c9,cf⟩:=zac aa.out.cells
   cases t0:isT C o.pos 1 zC with
   |true=>
    have A:za6 C o=letJ C 1 (adv o):=by rw[za6,t0];rfl
    have HZ:=zc (ad.out.trans (zce hp A))
    have U:=zc A
    clear A
    rw[zc7 t0]
    have ai:=zc6 L.out (zqt n)
    go_wp2_with fail
    have I:Hid (IM C X D j n E (adv o) (w3.setCell ⟨n,1,none⟩ (.int .i64 ((o.pos:Int)+1)))):=aa.out.adv hp
    have J:Hid (IS n S w E (w3.setCell ⟨n,1,none⟩ (.int .i64 ((o.pos:Int)+1)))):=ac.out.set _ _
    have Y:Hid ((w3.setCell ⟨n,1,none⟩ (.int .i64 ((o.pos:Int)+1))).heap[w.heap.size]? =some (.map (esM n) 6)):=(zi ah).trans L.out
    refine (zg7 C X D j n E (adv o) _ I.out).mono ?_
    cases z:letJ C 1 (adv o) with
    |error p=>
     rintro e K ⟨rfl,Z⟩
     have HB:Hid (Below j w K):=(HH.out.back J.out).trans Z
     have HX:Hid (zas C q= .error p):=bdE HZ.out z
     unfold Pan
     go_wp2
     refine⟨rfl,?_⟩
     rw[HX.out]
     exact⟨rfl,HB.out⟩
    |ok a5=>
     rintro e K ⟨rfl,S5,m,s⟩
     have Q:Hid (K.heap[w.heap.size]? =some (.map (esM n) 6)):=zbt I.out Y.out s
     have M:=zc m
     have V:Hid (IS n S w S5 K):=J.out.trans s
     clear m s
     have O:=zc (bdO HZ.out z)
     have N:=zc (zcf U.out z)
     go_wp2
     go_roundg (gk-1)
     case rel=>exact⟨S5,a5,O.out,by have:=N.out;omega,M.out,V.out,Q.out⟩
     case measure=>omega
   |false=>
    cases t1:isT C o.pos 1 zT with
    |true=>
     have A:za6 C o=fnI C (adv o):=by rw[za6,t0,t1];simp only[Bool.false_eq_true,↓reduceIte]
     have HZ:=zc (ad.out.trans (zce hp A))
     have U:=zc A
     clear A
     rw[zc7 t1]
     have ai:=zc6 L.out (zqu n)
     go_wp2_with fail
     have I:Hid (IM C X D j n E (adv o) (w3.setCell ⟨n,1,none⟩ (.int .i64 ((o.pos:Int)+1)))):=aa.out.adv hp
     have J:Hid (IS n S w E (w3.setCell ⟨n,1,none⟩ (.int .i64 ((o.pos:Int)+1)))):=ac.out.set _ _
     have Y:Hid ((w3.setCell ⟨n,1,none⟩ (.int .i64 ((o.pos:Int)+1))).heap[w.heap.size]? =some (.map (esM n) 6)):=(zi ah).trans L.out
     refine (zg8 C X D j n E (adv o) _ I.out).mono ?_
     cases z:fnI C (adv o) with
     |error p=>
      rintro e K ⟨rfl,Z⟩
      have HB:Hid (Below j w K):=(HH.out.back J.out).trans Z
      have HX:Hid (zas C q= .error p):=bdE HZ.out z
      unfold Pan
      go_wp2
      refine⟨rfl,?_⟩
      rw[HX.out]
      exact⟨rfl,HB.out⟩
     |ok a5=>
      rintro e K ⟨rfl,S5,m,s⟩
      have Q:Hid (K.heap[w.heap.size]? =some (.map (esM n) 6)):=zbt I.out Y.out s
      have M:=zc m
      have V:Hid (IS n S w S5 K):=J.out.trans s
      clear m s
      have O:=zc (bdO HZ.out z)
      have N:=zc (zcf U.out z)
      go_wp2
      go_roundg (gk-1)
      case rel=>exact⟨S5,a5,O.out,by have:=N.out;omega,M.out,V.out,Q.out⟩
      case measure=>omega
    |false=>
     cases t2:isT C o.pos 1 zar with
     |true=>
      have A:za6 C o=printI C (adv o):=by rw[za6,t0,t1,t2];simp only[Bool.false_eq_true,↓reduceIte]
      have HZ:=zc (ad.out.trans (zce hp A))
      have U:=zc A
      clear A
      rw[zc7 t2]
      have ai:=zc6 L.out (zqv n)
      go_wp2_with fail
      have I:Hid (IM C X D j n E (adv o) (w3.setCell ⟨n,1,none⟩ (.int .i64 ((o.pos:Int)+1)))):=aa.out.adv hp
      have J:Hid (IS n S w E (w3.setCell ⟨n,1,none⟩ (.int .i64 ((o.pos:Int)+1)))):=ac.out.set _ _
      have Y:Hid ((w3.setCell ⟨n,1,none⟩ (.int .i64 ((o.pos:Int)+1))).heap[w.heap.size]? =some (.map (esM n) 6)):=(zi ah).trans L.out
      refine (zik C X D j n E (adv o) _ I.out).mono ?_
      cases z:printI C (adv o) with
      |error p=>
       rintro e K ⟨rfl,Z⟩
       have HB:Hid (Below j w K):=(HH.out.back J.out).trans Z
       have HX:Hid (zas C q= .error p):=bdE HZ.out z
       unfold Pan
       go_wp2
       refine⟨rfl,?_⟩
       rw[HX.out]
       exact⟨rfl,HB.out⟩
      |ok a5=>
       rintro e K ⟨rfl,S5,m,s⟩
       have Q:Hid (K.heap[w.heap.size]? =some (.map (esM n) 6)):=zbt I.out Y.out s
       have M:=zc m
       have V:Hid (IS n S w S5 K):=J.out.trans s
       clear m s
       have O:=zc (bdO HZ.out z)
       have N:=zc (zcf U.out z)
       go_wp2
       go_roundg (gk-1)
       case rel=>exact⟨S5,a5,O.out,by have:=N.out;omega,M.out,V.out,Q.out⟩
       case measure=>omega
     |false=>
      cases t3:isT C o.pos 1 za3 with
      |true=>
       have A:za6 C o=stmtI C 5 sNone cSemi (adv o):=by rw[za6,t0,t1,t2,t3];simp only[Bool.false_eq_true,↓reduceIte]
       have HZ:=zc (ad.out.trans (zce hp A))
       have U:=zc A
       clear A
       rw[zc7 t3]
       have ai:=zc6 L.out (zqw n)
       go_wp2_with fail
       have I:Hid (IM C X D j n E (adv o) (w3.setCell ⟨n,1,none⟩ (.int .i64 ((o.pos:Int)+1)))):=aa.out.adv hp
       have J:Hid (IS n S w E (w3.setCell ⟨n,1,none⟩ (.int .i64 ((o.pos:Int)+1)))):=ac.out.set _ _
       have Y:Hid ((w3.setCell ⟨n,1,none⟩ (.int .i64 ((o.pos:Int)+1))).heap[w.heap.size]? =some (.map (esM n) 6)):=(zi ah).trans L.out
       refine (zil C X D j n E (adv o) _ I.out).mono ?_
       cases z:stmtI C 5 sNone cSemi (adv o) with
       |error p=>
        rintro e K ⟨rfl,Z⟩
        have HB:Hid (Below j w K):=(HH.out.back J.out).trans Z
        have HX:Hid (zas C q= .error p):=bdE HZ.out z
        unfold Pan
        go_wp2
        refine⟨rfl,?_⟩
        rw[HX.out]
        exact⟨rfl,HB.out⟩
       |ok a5=>
        rintro e K ⟨rfl,S5,m,s⟩
        have Q:Hid (K.heap[w.heap.size]? =some (.map (esM n) 6)):=zbt I.out Y.out s
        have M:=zc m
        have V:Hid (IS n S w S5 K):=J.out.trans s
        clear m s
        have O:=zc (bdO HZ.out z)
        have N:=zc (zcf U.out z)
        go_wp2
        go_roundg (gk-1)
        case rel=>exact⟨S5,a5,O.out,by have:=N.out;omega,M.out,V.out,Q.out⟩
        case measure=>omega
      |false=>
       cases t4:isT C o.pos 1 zah with
       |true=>
        have A:za6 C o=zaJ C (adv o):=by rw[za6,t0,t1,t2,t3,t4,hs];simp only[Bool.false_eq_true,↓reduceIte,Bool.false_and,Bool.not_false,Bool.and_self]
        have HZ:=zc (ad.out.trans (zce hp A))
        have U:=zc A
        clear A
        rw[zc7 t4]
        have ai:=zc6 L.out (zqx n)
        go_wp2_with fail
        have I:Hid (IM C X D j n E (adv o) (w3.setCell ⟨n,1,none⟩ (.int .i64 ((o.pos:Int)+1)))):=aa.out.adv hp
        have J:Hid (IS n S w E (w3.setCell ⟨n,1,none⟩ (.int .i64 ((o.pos:Int)+1)))):=ac.out.set _ _
        have Y:Hid ((w3.setCell ⟨n,1,none⟩ (.int .i64 ((o.pos:Int)+1))).heap[w.heap.size]? =some (.map (esM n) 6)):=(zi ah).trans L.out
        refine (zpN C X D j n E (adv o) _ I.out hC).mono ?_
        cases z:zaJ C (adv o) with
        |error p=>
         rintro e K ⟨rfl,Z⟩
         have HB:Hid (Below j w K):=(HH.out.back J.out).trans Z
         have HX:Hid (zas C q= .error p):=bdE HZ.out z
         unfold Pan
         go_wp2
         refine⟨rfl,?_⟩
         rw[HX.out]
         exact⟨rfl,HB.out⟩
        |ok a5=>
         rintro e K ⟨rfl,S5,m,s⟩
         have Q:Hid (K.heap[w.heap.size]? =some (.map (esM n) 6)):=zbt I.out Y.out s
         have M:=zc m
         have V:Hid (IS n S w S5 K):=J.out.trans s
         clear m s
         have O:=zc (bdO HZ.out z)
         have N:=zc (zcf U.out z)
         go_wp2
         go_roundg (gk-1)
         case rel=>exact⟨S5,a5,O.out,by have:=N.out;omega,M.out,V.out,Q.out⟩
         case measure=>omega
       |false=>
        cases t5:isT C o.pos 1 zaf with
        |true=>
         have A:za6 C o=zaq C (adv o):=by rw[za6,t0,t1,t2,t3,t4,t5,hs];simp only[Bool.false_eq_true,↓reduceIte,Bool.false_and,Bool.not_false,Bool.and_self,Bool.and_false]
         have HZ:=zc (ad.out.trans (zce hp A))
         have U:=zc A
         clear A
         rw[zc7 t5]
         have ai:=zc6 L.out (zqy n)
         go_wp2_with fail
         have I:Hid (IM C X D j n E (adv o) (w3.setCell ⟨n,1,none⟩ (.int .i64 ((o.pos:Int)+1)))):=aa.out.adv hp
         have J:Hid (IS n S w E (w3.setCell ⟨n,1,none⟩ (.int .i64 ((o.pos:Int)+1)))):=ac.out.set _ _
         have Y:Hid ((w3.setCell ⟨n,1,none⟩ (.int .i64 ((o.pos:Int)+1))).heap[w.heap.size]? =some (.map (esM n) 6)):=(zi ah).trans L.out
         refine (zqk C X D j n E (adv o) _ I.out hC).mono ?_
         cases z:zaq C (adv o) with
         |error p=>
          rintro e K ⟨rfl,Z⟩
          have HB:Hid (Below j w K):=(HH.out.back J.out).trans Z
          have HX:Hid (zas C q= .error p):=bdE HZ.out z
          unfold Pan
          go_wp2
          refine⟨rfl,?_⟩
          rw[HX.out]
          exact⟨rfl,HB.out⟩
         |ok a5=>
          rintro e K ⟨rfl,S5,m,s⟩
          have Q:Hid (K.heap[w.heap.size]? =some (.map (esM n) 6)):=zbt I.out Y.out s
          have M:=zc m
          have V:Hid (IS n S w S5 K):=J.out.trans s
          clear m s
          have O:=zc (bdO HZ.out z)
          have N:=zc (zcf U.out z)
          go_wp2
          go_roundg (gk-1)
          case rel=>exact⟨S5,a5,O.out,by have:=N.out;omega,M.out,V.out,Q.out⟩
          case measure=>omega
        |false=>
         have A:za6 C o=letJ C 3 o:=by rw[za6,t0,t1,t2,t3,t4,t5,hs];simp only[Bool.false_eq_true,↓reduceIte,Bool.false_and,Bool.not_false,Bool.and_false]
         have HZ:=zc (ad.out.trans (zce hp A))
         have U:=zc A
         clear A
         obtain⟨vz,ai⟩:=zjN L.out (zqz n (zcm C o.pos) (zc8 t0 (by decide)) (zc8 t1 (by decide)) (zc8 t2 (by decide)) (zc8 t3 (by decide)) (zc8 t4 (by decide)) (zc8 t5 (by decide)))
         go_wp2_with fail
         refine (zij C X D j n E o _ aa.out).mono ?_
         cases z:letJ C 3 o with
         |error p=>
          rintro e K ⟨rfl,Z⟩
          have HB:Hid (Below j w K):=(HH.out.back ac.out).trans Z
          have HX:Hid (zas C q= .error p):=bdE HZ.out z
          unfold Pan
          go_wp2
          refine⟨rfl,?_⟩
          rw[HX.out]
          exact⟨rfl,HB.out⟩
         |ok a5=>
          rintro e K ⟨rfl,S5,m,s⟩
          have Q:Hid (K.heap[w.heap.size]? =some (.map (esM n) 6)):=zbt aa.out L.out s
          have M:=zc m
          have V:Hid (IS n S w S5 K):=ac.out.trans s
          clear m s
          have O:=zc (bdO HZ.out z)
          have N:=zc (zcf U.out z)
          go_wp2
          go_roundg (gk-1)
          case rel=>exact⟨S5,a5,O.out,by have:=N.out;omega,M.out,V.out,Q.out⟩
          case measure=>omega
  ·have aE: ¬((o.pos:Int)<(C.ts.length:Int)):=by omega
   go_wp2_with fail
   refine wp_region_quiet_below (by kernel_rfl) (by kernel_rfl) ?_
   repeat (go_big_quiet_step (fail))
   refine wpQuiet_nil ?_
   intro w2 ap
   obtain⟨⟨dq,aH⟩,ab⟩:=ap
   have af:Hid (Below wr.heap.size wr w2):=by show Below _ _ _;rw[ab];exact below_regrown _ _ _
   clear ab k0 k1 C0 C1
   have H:Hid (IM C X D j n E o w2):=al.out.later af.out
   have an:Hid (IS n S w E w2):=au.out.trans (IS.below af.out)
   have am:Hid (w2.heap[w.heap.size]? =some (.map (esM n) 6)):=zbt al.out aq.out (IS.below af.out)
   have HX:=zc (ad.out.trans (zjV hp))
   obtain⟨c0,c1,c2,c3,c4,c5,c6,c7,c8,c9,cf⟩:=zac H.out.cells
   have ak:=H.out.mem.own.ep
   have aJ:=H.out.mem.inv.ep
   have aj:=H.out.free
   have ae:=zc aj
   clear aj
   have aw:=H.out.lt
   rcases H.out.mem.own.la.nil_or with ⟨ha,hc,hn⟩|⟨gl,ha⟩
   ·have HN:=zc (List.eq_nil_of_length_eq_zero hn)
    rw[ha,hc,hn] at c9
    clear ha hc hn
    go_wp2_with fail
    go_region_law (first|(refine zjU rfl (.tmp 41) (.tmp 45) 24 rfl 102 i0 Tryz.underlying24 hi j 4 o.ep.length E.ep _ (by rfl) (by exact ak) (by rfl) ?_))
    all_goals
     go_wp2
     go_end0
     rw[HX.out]
     refine⟨rfl,E,H.out.mem.wholeI0 HN.out ae.out (fun k hk=>zi hk),⟨.slice (some ⟨X,0,none⟩) C.ts.length D,.int .i64 o.pos,.int .i64 C.fin,.bool C.scr,.slice E.la.a o.la.length E.la.cap,(za9 H.out.cells).trans (by simp[HN.out])⟩,?_⟩
     exact (HH.out.back (an.out.set _ _)).drew
   ·have av:OwnR w2 j 102 4 ⟨some ⟨gl,0,none⟩,E.la.cap⟩ o.la.length (o.la.flatMap epL):=by have:=H.out.mem.own.la;unfold OwnR at this ⊢;rw[ha] at this;exact this
    rw[ha] at c9
    have aC:=H.out.mem.base
    have aB:Hid (some n≠E.ep.blk):=fun e=>ae.out (.inr (.inr (.inl e.symm)))
    go_wp2_with fail
    go_region_law (first|(refine zjT rfl (.tmp 41) (.tmp 45) 24 rfl j 102 i0 _ 4 56 Tryz.underlying24 hi ax aG aF rfl (by decide) (by decide) E.ep o.ep.length _ (by rfl) (by exact ak) gl o.la.length E.la.cap j _ (by rfl) (by exact av) (zgu _) (by omega) (by exact aC) ?_;intro r' wz hr ao ar;have g2:=(ao.block n (by exact aw) aB.out).trans (by exact H.out.cells);obtain⟨d0,d1,d2,d3,d4,d5,d6,d7,d8,d9,df⟩:=zac g2))
    all_goals
     have HR:=zc hr
     have ag:=zc ao
     have az:=zc ar
     have am:=zc g2
     clear hr ao ar g2 c0 c1 c2 c3 c4 c5 c6 c7 c8 c9 cf ak av
     go_wp2
     go_end0
     rw[HX.out]
     refine⟨rfl,{E with ep:=r'},H.out.drew.mem.wholeI ag.out HR.out az.out aw ae.out (fun k hk=>zi hk),⟨.slice (some ⟨X,0,none⟩) C.ts.length D,.int .i64 o.pos,.int .i64 C.fin,.bool C.scr,.slice E.la.a o.la.length E.la.cap,(za9 am.out).trans (by simp)⟩,?_⟩
     exact ((HH.out.back an.out).trans ⟨ag.out.os,ag.out.tape,ag.out.output,ag.out.size,fun k hk=>ag.out.block k (show k<w2.heap.size by omega) (fun e=>by have:=(H.out.mem.own.ep.typed e.symm).1;omega)⟩).setCell H.out.ge _
end Go.Proofs.YticdggnnpjachaaGreat
