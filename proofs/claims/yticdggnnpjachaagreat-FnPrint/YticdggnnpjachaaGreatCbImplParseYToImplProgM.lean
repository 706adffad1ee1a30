/-
  The table of items of impl's parser: what is stored in it,what is looked up.
  What the items of impl's parser read is what the items of the document are. No program is spoken of.
  'append' of a row onto a row of the call's own,as one step of a region that draws its order; a program handed back. No program is spoken of but for the numbers of its types.
  What program of impl's parser answers: the walks.
  What program of impl's parser answers of a module: the walk.
-/
import Derived.Maps.Own
import Derived.Test.YticdggnnpjachaaGreatCbImplParseVToImplParseX
namespace Go.Proofs.YticdggnnpjachaaGreat
set_option maxRecDepth 100000
set_option maxHeartbeats 3200000
open Go.RowKit Go.PlainAid Go.Sort Go.Maps Go.ChangeMaps
def eM (gp:Nat) (k:ByteArray) (f b:Nat):MapEntry:=⟨.string k,.func (.func f) #[.pointer (some ⟨gp,0,none⟩)] #[],b⟩
def esS (gp:Nat):Array MapEntry:=#[eM gp zC 144 0,eM gp zT 145 1,eM gp zar 146 2,eM gp za3 147 3,eM gp zbA 148 4]
def esM (gp:Nat):Array MapEntry:=#[eM gp zC 144 0,eM gp zT 145 1,eM gp zar 146 2,eM gp za3 147 3,eM gp zah 149 4,eM gp zaf 150 5]
theorem zhj (b:Bool) (k:ByteArray) (W:World):(Instr.checkKey b 10000 9 (.string k)).run Tryz.prog W= .ok () W:=by
 show (Instr.checkKey b (9999+1) 9 (.string k)).run Tryz.prog W= .ok () W
 rw[Instr.checkKey]
 simp[run_underlying Tryz.underlying9]
theorem zhk {k:ByteArray} {j:List MapEntry} {r:Option (Nat×Value)} (n:Instr.findNow .string (.string k) j 0=some r) (W:World):(Instr.findKey 9 (.string k) j).run Tryz.prog W= .ok r W:=by
 simp[Instr.findKey,run_underlying Tryz.underlying9,n]
theorem zc5 {W w0:World} {B g c:Nat} {o:Array MapEntry} {k:ByteArray} {v:Value} (n:W.heap[g]? =some (.map o c)) (A:Instr.findNow .string (.string k) o.toList 0=some none) (j:Below B w0 W) (D:B≤g):
  ∃q,(Instr.mapUpdate 126 (.map (some g)) (.string k) v).run Tryz.prog W= .ok () q∧q.heap[g]? =some (.map (o.push ⟨.string k,v,c⟩) (c+1))∧Below B w0 q:=by
 refine⟨setBlock W g (.map (o.push ⟨.string k,v,c⟩) (c+1)),?_,heap_setBlock_same n _,⟨j.os,j.tape,j.output,by simpa [setBlock] using j.size,fun i z=>(heap_setBlock_other n _ (by omega)).trans (j.block i z)⟩⟩
 simp[Instr.mapUpdate,run_underlying Tryz.underlying126,MapKept.run_getObj_map n,zhj,zhk A,MapKept.run_setObj_map _ n,Result.andThen,setBlock]
theorem zc6 {W:World} {g c i:Nat} {j:Array MapEntry} {k:ByteArray} {v:Value} (n:W.heap[g]? =some (.map j c)) (o:Instr.findNow .string (.string k) j.toList 0=some (some (i,v))):
  (Instr.lookup 126 (.map (some g)) (.string k) true).run Tryz.prog W= .ok (.tuple #[v,.bool true]) W:=by
 simp[Instr.lookup,run_underlying Tryz.underlying126,MapKept.run_getObj_map n,zhj,zhk o,Result.andThen]
theorem zjN {W:World} {g c:Nat} {n:Array MapEntry} {k:ByteArray} (q:W.heap[g]? =some (.map n c)) (o:Instr.findNow .string (.string k) n.toList 0=some none):
  ∃v,(Instr.lookup 126 (.map (some g)) (.string k) true).run Tryz.prog W= .ok (.tuple #[v,.bool false]) W:=by
 have j: ∃v,(zeroValue 1).run Tryz.prog W= .ok v W:=⟨.nilFunc,by kernel_rfl⟩
 obtain⟨v,j⟩:=j
 exact⟨v,by simp[Instr.lookup,run_underlying Tryz.underlying126,MapKept.run_getObj_map q,zhj,zhk o,Result.andThen,j]⟩
theorem zql (C:Cx) (Q j o n:Nat) (S:Sv) (q:PS) (w:World) (h:IM C Q j o n S q w) (Y:C.scr=true):
  Calls Tryz.prog 88 #[.pointer (some ⟨n,0,none⟩)] w fun e O=>e= .returned (.map (some w.heap.size))∧O.heap[w.heap.size]? =some (.map (esS n) 5)∧Below w.heap.size w O:=by
 have U:=zc h
 have Z:=@run_makeMap Tryz.prog
 have V: ∀(A:Fn) (first j:Array Value) (w:World),(Instr.makeFunc A first j).run Tryz.prog w= .ok (.func A first j) w:=fun _ _ _ _=>rfl
 obtain⟨W1,r1,H,I⟩:=zc5 (k:=zC) (v:=.func (.func 144) #[.pointer (some ⟨n,0,none⟩)] #[]) (heap_alloc_new w (.map #[] 0)) rfl ((Below.refl w.heap.size w).alloc (Nat.le_refl _) _) (Nat.le_refl _)
 obtain⟨W2,r2,K,J⟩:=zc5 (k:=zT) (v:=.func (.func 145) #[.pointer (some ⟨n,0,none⟩)] #[]) H rfl I (Nat.le_refl _)
 obtain⟨W3,r3,L,M⟩:=zc5 (k:=zar) (v:=.func (.func 146) #[.pointer (some ⟨n,0,none⟩)] #[]) K rfl J (Nat.le_refl _)
 obtain⟨W4,r4,D,z⟩:=zc5 (k:=za3) (v:=.func (.func 147) #[.pointer (some ⟨n,0,none⟩)] #[]) L rfl M (Nat.le_refl _)
 obtain⟨W5,r5,N,E⟩:=zc5 (k:=zbA) (v:=.func (.func 148) #[.pointer (some ⟨n,0,none⟩)] #[]) D rfl z (Nat.le_refl _)
 have G:=zc N
 have B:=zc E
 obtain⟨_,_,_,X,_,_,_,_,_,_,cf⟩:=zac (U.out.later z).cells
 rw[Y] at X
 clear h H I K J L M D z N E
 go_enter Tryz.func88,Tryz.ntmps88
 go_wp2
 go_ret
 exact⟨rfl,G.out,B.out⟩
theorem zqm (j:Nat):Instr.findNow .string (.string zC) (esS j).toList 0=some (some (0,.func (.func 144) #[.pointer (some ⟨j,0,none⟩)] #[])):=by rfl
theorem zqn (j:Nat):Instr.findNow .string (.string zT) (esS j).toList 0=some (some (1,.func (.func 145) #[.pointer (some ⟨j,0,none⟩)] #[])):=by rfl
theorem zqo (j:Nat):Instr.findNow .string (.string zar) (esS j).toList 0=some (some (2,.func (.func 146) #[.pointer (some ⟨j,0,none⟩)] #[])):=by rfl
theorem zqp (j:Nat):Instr.findNow .string (.string za3) (esS j).toList 0=some (some (3,.func (.func 147) #[.pointer (some ⟨j,0,none⟩)] #[])):=by rfl
theorem zqq (j:Nat):Instr.findNow .string (.string zbA) (esS j).toList 0=some (some (4,.func (.func 148) #[.pointer (some ⟨j,0,none⟩)] #[])):=by rfl
theorem zqr (A:Nat) (x:ByteArray) (j:(x==zC)=false) (z:(x==zT)=false) (o:(x==zar)=false) (n:(x==za3)=false) (q:(x==zbA)=false):Instr.findNow .string (.string x) (esS A).toList 0=some none:=by
 simp[esS,eM,Instr.findNow,Instr.sameNow,j,z,o,n,q]
theorem zqs (C:Cx) (V j o n:Nat) (S:Sv) (q:PS) (w:World) (h:IM C V j o n S q w) (hs:C.scr=false):
  Calls Tryz.prog 88 #[.pointer (some ⟨n,0,none⟩)] w fun e U=>e= .returned (.map (some w.heap.size))∧U.heap[w.heap.size]? =some (.map (esM n) 6)∧Below w.heap.size w U:=by
 have X:=zc h
 have aa:=@run_makeMap Tryz.prog
 have Y: ∀(D:Fn) (first j:Array Value) (w:World),(Instr.makeFunc D first j).run Tryz.prog w= .ok (.func D first j) w:=fun _ _ _ _=>rfl
 obtain⟨W1,r1,J,K⟩:=zc5 (k:=zC) (v:=.func (.func 144) #[.pointer (some ⟨n,0,none⟩)] #[]) (heap_alloc_new w (.map #[] 0)) rfl ((Below.refl w.heap.size w).alloc (Nat.le_refl _) _) (Nat.le_refl _)
 obtain⟨W2,r2,M,L⟩:=zc5 (k:=zT) (v:=.func (.func 145) #[.pointer (some ⟨n,0,none⟩)] #[]) J rfl K (Nat.le_refl _)
 obtain⟨W3,r3,N,O⟩:=zc5 (k:=zar) (v:=.func (.func 146) #[.pointer (some ⟨n,0,none⟩)] #[]) M rfl L (Nat.le_refl _)
 obtain⟨W4,r4,E,z⟩:=zc5 (k:=za3) (v:=.func (.func 147) #[.pointer (some ⟨n,0,none⟩)] #[]) N rfl O (Nat.le_refl _)
 obtain⟨W5,r5,Q,H⟩:=zc5 (k:=zah) (v:=.func (.func 149) #[.pointer (some ⟨n,0,none⟩)] #[]) E rfl z (Nat.le_refl _)
 obtain⟨W6,r6,I,A⟩:=zc5 (k:=zaf) (v:=.func (.func 150) #[.pointer (some ⟨n,0,none⟩)] #[]) Q rfl H (Nat.le_refl _)
 have G:=zc I
 have B:=zc A
 obtain⟨_,_,_,Z,_,_,_,_,_,_,cf⟩:=zac (X.out.later z).cells
 rw[hs] at Z
 clear h J K M L N O E z Q H I A
 go_enter Tryz.func88,Tryz.ntmps88
 go_wp2
 go_ret
 exact⟨rfl,G.out,B.out⟩
theorem zqt (j:Nat):Instr.findNow .string (.string zC) (esM j).toList 0=some (some (0,.func (.func 144) #[.pointer (some ⟨j,0,none⟩)] #[])):=by rfl
theorem zqu (j:Nat):Instr.findNow .string (.string zT) (esM j).toList 0=some (some (1,.func (.func 145) #[.pointer (some ⟨j,0,none⟩)] #[])):=by rfl
theorem zqv (j:Nat):Instr.findNow .string (.string zar) (esM j).toList 0=some (some (2,.func (.func 146) #[.pointer (some ⟨j,0,none⟩)] #[])):=by rfl
theorem zqw (j:Nat):Instr.findNow .string (.string za3) (esM j).toList 0=some (some (3,.func (.func 147) #[.pointer (some ⟨j,0,none⟩)] #[])):=by rfl
theorem zqx (j:Nat):Instr.findNow .string (.string zah) (esM j).toList 0=some (some (4,.func (.func 149) #[.pointer (some ⟨j,0,none⟩)] #[])):=by rfl
theorem zqy (j:Nat):Instr.findNow .string (.string zaf) (esM j).toList 0=some (some (5,.func (.func 150) #[.pointer (some ⟨j,0,none⟩)] #[])):=by rfl
theorem zqz (A:Nat) (x:ByteArray) (j:(x==zC)=false) (z:(x==zT)=false) (o:(x==zar)=false) (n:(x==za3)=false) (q:(x==zah)=false) (D:(x==zaf)=false):Instr.findNow .string (.string x) (esM A).toList 0=some none:=by
 simp[esM,eM,Instr.findNow,Instr.sameNow,j,z,o,n,q,D]
def za6 (C:Cx) (q:PS):PR:=
 if isT C q.pos 1 zC then letJ C 1 (adv q)
 else if isT C q.pos 1 zT then fnI C (adv q)
 else if isT C q.pos 1 zar then printI C (adv q)
 else if isT C q.pos 1 za3 then stmtI C 5 sNone cSemi (adv q)
 else if C.scr&&isT C q.pos 1 zbA then stmtI C 6 sNone cSemi (adv q)
 else if !C.scr&&isT C q.pos 1 zah then zaJ C (adv q)
 else if !C.scr&&isT C q.pos 1 zaf then zaq C (adv q)
 else letJ C 3 q
theorem zq0 (C:Cx) (k:Int) (n:ByteArray) (q:PS):stmtI C k n cSemi q=bd (bd (bd (pE C .sum 0 q) (zd C 4 cSemi)) (zV C k n)) .ok:=by
 rw[zed,zM,stmtI]
 refine zab fun a _=>?_
 rw[show zaB C cSemi cSemi.size 0 a=zd C 4 cSemi a from zic C 59 a]
theorem zer (C:Cx) (k:Int) (n:ByteArray) (q:PS):bd (bd (pE C .sum 0 q) (zd C 4 cSemi)) (zV C k n)=stmtI C k n cSemi q:=by rw[zq0,zed]
theorem zq1 (C:Cx) (k:Int) (n:ByteArray) (q:PS):bd (bd (bd (pE C .sum 0 q) (zd C 4 za0)) (zd C 4 cSemi)) (zV C k n)=stmtI C k n cShutSemi q:=by
 rw[zM,zM,stmtI]
 refine zab fun a _=>?_
 rw[show zaB C cShutSemi cShutSemi.size 0 a=bd (zd C 4 za0 a) (zd C 4 cSemi) from zid C 41 59 a,zM]
theorem zq2 (C:Cx) (k:Int) (n:ByteArray) (q:PS):bd (bd (bd (pE C .sum 0 q) (zd C 4 cSemi)) (zd C 4 zbm)) (zV C k n)=stmtI C k n cSemiRight q:=by
 rw[zM,zM,stmtI]
 refine zab fun a _=>?_
 rw[show zaB C cSemiRight cSemiRight.size 0 a=bd (zd C 4 cSemi a) (zd C 4 zbm) from zid C 59 125 a,zM]
theorem zjO {C:Cx} {q:PS} (h:isT C q.pos 1 zC=true):zcj C q=bd (letJ C 1 (adv q)) fun a=>.ok (a,(ze C (q.pos+1)).text):=by
 rw[zcj,withN,zbG h,zz,letJ,zM]
 refine zab fun a j=>?_
 rw[zM,zz,zM,zM,zM]
 refine zab fun b _=>?_
 rw[←zM,←zM,zer,(zbd j).1]
 rfl
theorem zjP {C:Cx} {q:PS} (h:isT C q.pos 1 zT=true):fnP C q=bd (fnI C (adv q)) fun a=>.ok (a,(ze C (q.pos+1)).text):=by
 rw[fnP,withN,zbG h,zz,fnI,zM]
 refine zab fun a j=>?_
 rw[show zaB C cCall cCall.size 0 a.1=bd (zd C 4 zn a.1) fun a=>bd (zd C 4 za0 a) (zd C 4 zJ) from zlX C 40 41 123 a.1,zM,zM,zz]
 rw[(zbd j).1]
 simp only[zM,←zq2]
 rfl
theorem zjQ (x:PR) (n:ByteArray):zaK (bd x fun a=>.ok (a,n))=x:=by rw[zaK,zM];exact zed x
theorem zhl (C:Cx) (l:List Ep) (q:PS):impFromI C l q=bd (zaR C (zaE C (.ok q))) fun b=>zP (fun e=>zak C (zbF b.2 e)) l (.ok b.1):=by
 rw[impFromI,zaR,zaE,zz,zM,zM]
 refine zab fun a _=>zab fun b _=>?_
 rw[zM]
 rfl
theorem zq3 {C:Cx} {q:PS} (h:isT C q.pos 1 zah=true):zaQ C q=zaJ C (adv q):=by
 rw[zaQ,zbG h,zz,zaJ]
 cases z:isT C (adv q).pos 4 zJ with
 |true=>
  have j:((ze C (adv q).pos).kind==3)=false:=by
   have:=zf4 z
   rw[beq_iff_eq] at this
   rw[this]
   rfl
  rw[j]
  simp only[Bool.false_eq_true,↓reduceIte]
  rw[zcw,zbG z,zz]
  refine zab fun a _=>?_
  rw[zhl]
 |false=>
  cases o:isT C (adv q).pos 4 zw with
  |true=>
   have j:((ze C (adv q).pos).kind==3)=false:=by
    have:=zf4 o
    rw[beq_iff_eq] at this
    rw[this]
    rfl
   rw[j]
   simp only[Bool.false_eq_true,↓reduceIte]
   rw[zbG o,zz,zM]
   refine zab fun a _=>zab fun b _=>?_
   rw[zhl]
   rfl
  |false=>
   cases A:zD C (adv q).pos false with
   |true=>
    have j:((ze C (adv q).pos).kind==3)=false:=by
     have n:=A
     simp only[zD,Bool.and_eq_true,beq_iff_eq] at n
     rw[n.1]
     rfl
    rw[j]
    simp only[Bool.false_eq_true,↓reduceIte]
    refine zab fun a _=>?_
    rw[zhl]
    rfl
   |false=>
    cases j:((ze C (adv q).pos).kind==3) with
    |true=>simp only[Bool.false_eq_true,↓reduceIte]
    |false=>
     simp only[Bool.false_eq_true,↓reduceIte]
     rw[zH,j,zj,A]
     rfl
theorem zq4 (C:Cx) (l:List Ep) (q:PS) (h:isT C q.pos 1 zU=false) (j:za8 l=false):za5 C l q=bd (zd C 4 cSemi q) fun q=>zP (fun e=>zo C (zA e)) l (.ok q):=by rw[za5,h,j];rfl
theorem zjR (C:Cx) (l:List Ep) (q:PS) (h:(isT C q.pos 1 zU||za8 l)=true):za5 C l q=bd (zaR C (zaE C (.ok q))) fun b=>zP (fun e=>zo C (zai b.2 e)) l (.ok b.1):=by
 rw[za5,h,if_pos rfl,zaR,zaE,zz,zM,zM]
 refine zab fun a _=>zab fun b _=>?_
 rw[zM]
 rfl
theorem zq5 {C:Cx} {q:PS} (h:isT C q.pos 1 zaf=true):zag C q=zaq C (adv q):=by
 rw[zag,zbG h,zz,zaq]
 cases D:isT C (adv q).pos 4 zJ with
 |true=>
  simp only[↓reduceIte]
  rw[zcw,zbG D,zz]
  refine zab fun a _=>?_
  cases j:isT C a.1.pos 1 zU with
  |true=>rw[zjR C a.2 a.1 (by rw[j];rfl),if_neg (by simp)]
  |false=>
   cases n:za8 a.2 with
   |true=>rw[zjR C a.2 a.1 (by rw[n];simp),if_neg (by simp)]
   |false=>rw[zq4 C a.2 a.1 j n,if_pos (by simp)]
 |false=>
  cases z:isT C (adv q).pos 4 zw with
  |true=>
   simp only[Bool.false_eq_true,↓reduceIte]
   rw[zbG z,zaR,zaE,zz,zM,zM]
   refine zab fun a _=>zab fun b _=>?_
   rw[zM]
   rfl
  |false=>
   cases o:isT C (adv q).pos 1 sDefault with
   |true=>
    simp only[Bool.false_eq_true,↓reduceIte]
    rw[zbG o,zz,zer]
   |false=>
    cases A:isT C (adv q).pos 1 zC with
    |true=>
     simp only[Bool.false_eq_true,↓reduceIte]
     rw[zjO A,zM]
     rfl
    |false=>
     cases E:isT C (adv q).pos 1 zT with
     |true=>
      simp only[Bool.false_eq_true,↓reduceIte]
      rw[zjP E,zM]
      rfl
     |false=>simp only[Bool.false_eq_true,↓reduceIte]
theorem zds {C:Cx} {i:Nat} {x y:ByteArray} (h:isT C i 1 x=true) (j:(x.toList==y.toList)=false):isT C i 1 y=false:=by
 have e:=zg5 h
 rw[isT,e,j]
 simp
theorem zjS (C:Cx) (q:PS):za6 C q=zy C q:=by
 rw[za6,zy]
 cases z:isT C q.pos 1 zC with
 |true=>
  rw[zds z (y:=zah) (by simp),zds z (y:=zaf) (by simp)]
  simp only[Bool.false_eq_true,↓reduceIte,Bool.and_false]
  rw[zjO z,zjQ]
 |false=>
  cases n:isT C q.pos 1 zT with
  |true=>
   rw[zds n (y:=zah) (by simp),zds n (y:=zaf) (by simp)]
   simp only[Bool.false_eq_true,↓reduceIte,Bool.and_false]
   rw[zjP n,zjQ]
  |false=>
   cases j:isT C q.pos 1 zar with
   |true=>
    rw[zds j (y:=zah) (by simp),zds j (y:=zaf) (by simp)]
    simp only[Bool.false_eq_true,↓reduceIte,Bool.and_false]
    rw[zbG j,zz,printI,zM,zM,zM]
    refine zab fun a _=>?_
    rw[←zq1,zM,zM]
   |false=>
    cases o:isT C q.pos 1 za3 with
    |true=>
     rw[zds o (y:=zah) (by simp),zds o (y:=zaf) (by simp)]
     simp only[Bool.false_eq_true,↓reduceIte,Bool.and_false]
     rw[zbG o,zz,zer]
    |false=>
     cases H:C.scr with
     |true=>
      cases E:isT C q.pos 1 zbA with
      |true=>
       simp only[Bool.false_eq_true,↓reduceIte,Bool.not_true,Bool.false_and,Bool.and_self]
       rw[zbG E,zz,zer]
      |false=>
       simp only[Bool.false_eq_true,↓reduceIte,Bool.not_true,Bool.false_and,Bool.and_false]
       rw[letJ]
       refine zab fun a _=>?_
       rw[zM,zM]
       refine zab fun b _=>?_
       rw[←zM,zer]
     |false=>
      cases D:isT C q.pos 1 zah with
      |true=>
       simp only[Bool.false_eq_true,↓reduceIte,Bool.not_false,Bool.false_and,Bool.and_self]
       rw[zq3 D]
      |false=>
       cases A:isT C q.pos 1 zaf with
       |true=>
        simp only[Bool.false_eq_true,↓reduceIte,Bool.not_false,Bool.false_and,Bool.and_self,Bool.and_false]
        rw[zq5 A]
       |false=>
        simp only[Bool.false_eq_true,↓reduceIte,Bool.not_false,Bool.false_and,Bool.and_false]
        rw[letJ]
        refine zab fun a _=>?_
        rw[zM,zM]
        refine zab fun b _=>?_
        rw[←zM,zer]
theorem zjT {P:Program} {O:Array Oper} {o:Oper} {a:Act} {W:World} {K:Act→World→Prop} {Q:Exit→Act→World→Prop} {E:Prop} (ad:o.guard=none) (s x:Operand) (t:TypeId)
  (ho:o.op= .call {callee:=.builtin .append,args:=#[s,x],argTypes:=#[t,t]})
  (D:Nat) (e:TypeId) (i:TypeInfo) (z:Value) (size q:Nat) (ht:P.underlying t=some (.slice e)) (hi:P.info? e=some i) (hz:i.zero=some z) (I:i.size=size) (ab:i.bytes=q) (af:z.cells.size=size) (ae:0<size) (X:q≤100)
  (r:Rw) (n:Nat) (xs:List Value) (hs:a.eval s= .slice r.a n r.cap) (V:OwnR W D e size r n xs)
  (N m c L:Nat) (A:List Value) (hx:a.eval x= .slice (some ⟨N,0,none⟩) m c) (hg:OwnR W L e size ⟨some ⟨N,0,none⟩,c⟩ m A) (h1: ∀u∈A,u.oneCell'=true) (hn:n+m≤1000000) (J:D≤W.heap.size)
  (h: ∀Y M,OwnR M D e size Y (n+m) (xs++A)→W.grownBy M r.blk→(Y.blk=r.blk∨Y.blk=some W.heap.size)→K (a.put o.dst (.slice Y.a (n+m:Nat) Y.cap)) M):
  if Region.wanted o (yielded O a.tmps)=true then Oper.wp P o a W K Q else E:=by
 have hw:Region.wanted o (yielded O a.tmps)=true:=by simp[Region.wanted,ad]
 rw[if_pos hw]
 obtain⟨v',M,hr,Z,h3,_,h5⟩:=run_append_own_at (P:=P) W D t o.type e i z size q ht hi hz I ab af ae _ n xs V ⟨N,0,none⟩ m c A hg.1 (by
  intro j u hj
  have e1:(⟨N,0,none⟩:Addr).add j=⟨N,j,none⟩:=by simp[Addr.add];exact fun h=>h.symm
  have ac:j<A.length:=(List.getElem?_eq_some_iff.1 hj).1
  rw[e1,World.ownsRow.cellAt hg j (by rw[←hg.1];exact ac)]
  exact hj) h1 (by unfold maxLen;omega) (by have:(n+m)*q≤1000000*100:=Nat.mul_le_mul hn X;omega) J
 unfold Oper.wp execOp
 simp only[ho,resolve,invoke,builtin,Sem.run_bind,Sem.run_pure,Result.andThen_ok,List.map_toArray,List.map_cons,List.map_nil,hs,hx,hr]
 rcases Z.2 with ⟨hv,U⟩|⟨g',H,ag,rfl,aa⟩
 ·subst hv
  have:=h ⟨none,0⟩ M (by rw[U] at Z ⊢;exact Z) (by rw[←zbo r n];exact h3) (by rw[←zbo r n];exact h5)
  rw[U] at this
  exact this
 ·refine h ⟨some ⟨g',0,none⟩,H⟩ M Z ?_ ?_
  ·rw[←zbo r n];exact h3
  ·rw[←zbo r n,←zbo ⟨some ⟨g',0,none⟩,H⟩ (n+m)];exact h5
theorem zjU {P:Program} {j:Array Oper} {o:Oper} {a:Act} {W:World} {K:Act→World→Prop} {Q:Exit→Act→World→Prop} {E:Prop} (A:o.guard=none) (s x:Operand) (t:TypeId)
  (J:o.op= .call {callee:=.builtin .append,args:=#[s,x],argTypes:=#[t,t]})
  (e:TypeId) (i:TypeInfo) (I:P.underlying t=some (.slice e)) (H:P.info? e=some i) (q size n:Nat)
  (r:Rw) (xs:List Value) (L:a.eval s= .slice r.a n r.cap) (z:OwnR W q e size r n xs) (U:a.eval x= .slice none 0 0)
  (h:K (a.put o.dst (.slice r.a n r.cap)) W):if Region.wanted o (yielded j a.tmps)=true then Oper.wp P o a W K Q else E:=by
 have V:Region.wanted o (yielded j a.tmps)=true:=by simp[Region.wanted,A]
 rw[if_pos V]
 have X:(Builtin.append_ #[t,t] o.type #[.slice r.a n r.cap,.slice none 0 0]).run P W= .ok (.slice r.a n r.cap) W:=by
  rcases z.2 with ⟨D,_⟩|⟨g,O,N,D,_,_,M,_⟩
  ·rw[D]
   simp[Builtin.append_,run_underlying I,sizeOf,typeInfo,H,Builtin.lenOf,Builtin.firstCells]
  ·rw[D]
   simp[Builtin.append_,run_underlying I,sizeOf,typeInfo,H,Builtin.lenOf,Builtin.firstCells,loadCells,M,storeCells]
 unfold Oper.wp execOp
 simp only[J,resolve,invoke,builtin,Sem.run_bind,Sem.run_pure,Result.andThen_ok,List.map_toArray,List.map_cons,List.map_nil,L,U,X]
 exact h
theorem Mem.wholeI {C:Cx} {U I j b:Nat} {S:Sv} {q:PS} {W N K:World} {H:Rw} (A:Mem C U I j S q W) (Q:W.grownBy N S.ep.blk) (Z:OwnR N j 102 4 H (q.ep.length+q.la.length) (q.ep.flatMap epL++q.la.flatMap epL)) (J:H.blk=S.ep.blk∨H.blk=some W.heap.size) (hb:b<W.heap.size) (o: ¬S.has b)
  (O: ∀k,k≠b→K.heap[k]? =N.heap[k]?):OwnMod K j {S with ep:=H} q:=by
 have D:(q.ep++q.la).length=q.ep.length+q.la.length:=by simp
 have E: ∀(r:Rw) (e:TypeId) (z n:Nat) (M:List Value),OwnR W j e z r n M→e≠102→(∀k,r.blk=some k→S.has k)→OwnR K j e z r n M:=fun r e z n M h V Y=>
  h.keep fun k g=>(O k (fun L=>o (by rw[←L];exact Y k g))).trans (Q.block k (h.typed g).2.1 fun X=>(h.ne A.own.ep V g) X.symm)
 refine⟨E _ _ _ _ _ A.own.rq (by decide) fun k g=>.inl g,E _ _ _ _ _ A.own.im (by decide) fun k g=>.inr (.inl g),?_,E _ _ _ _ _ A.own.st (by decide) fun k g=>.inr (.inr (.inr (.inl g))),E _ _ _ _ _ A.own.ex (by decide) fun k g=>.inr (.inr (.inr (.inr (.inl g)))),A.inv.rq,A.inv.im,A.inv.ep,A.inv.st,A.inv.ex⟩
 rw[D,List.flatMap_append]
 refine Z.keep fun k g=>O k ?_
 rcases J with e|e
 ·intro L
  exact o (by rw[←L];exact .inr (.inr (.inl (by rw[←e];exact g))))
 ·have:W.heap.size=k:=Option.some.inj (e.symm.trans g)
  omega
theorem Mem.wholeI0 {C:Cx} {J I j b:Nat} {S:Sv} {q:PS} {W E:World} (z:Mem C J I j S q W) (M:q.la=[]) (A: ¬S.has b)
  (K: ∀k,k≠b→E.heap[k]? =W.heap[k]?):OwnMod E j S q:=by
 have D: ∀(r:Rw) (e:TypeId) (o n:Nat) (H:List Value),OwnR W j e o r n H→(∀k,r.blk=some k→S.has k)→OwnR E j e o r n H:=fun r e o n H h L=>
  h.keep fun k g=>K k (fun N=>A (by rw[←N];exact L k g))
 refine⟨D _ _ _ _ _ z.own.rq fun k g=>.inl g,D _ _ _ _ _ z.own.im fun k g=>.inr (.inl g),?_,D _ _ _ _ _ z.own.st fun k g=>.inr (.inr (.inr (.inl g))),D _ _ _ _ _ z.own.ex fun k g=>.inr (.inr (.inr (.inr (.inl g)))),z.inv.rq,z.inv.im,z.inv.ep,z.inv.st,z.inv.ex⟩
 rw[M,List.append_nil]
 exact D _ _ _ _ _ z.own.ep fun k g=>.inr (.inr (.inl g))
theorem zc7 {C:Cx} {i:Nat} {k:ByteArray} (h:isT C i 1 k=true):zcm C i=k:=by
 rw[zcm,zf4 h,zg5 h]
 rfl
theorem zc8 {C:Cx} {i:Nat} {k:ByteArray} (h:isT C i 1 k=false) (n:sNone≠k):(zcm C i==k)=false:=by
 rw[Bool.eq_false_iff]
 intro e
 rw[MapKept.bytes_beq] at e
 cases j:((ze C i).kind==1) with
 |false=>
  rw[zcm,j] at e
  exact n e
 |true=>
  rw[zcm,j,if_pos rfl] at e
  rw[isT,j,e] at h
  simp at h
theorem zbt {C:Cx} {E o n A g c:Nat} {S H:Sv} {q:PS} {W D:World} {z:Array MapEntry} (h:IM C E o n A S q W) (j:W.heap[g]? =some (.map z c)) (s:IS A S W H D):D.heap[g]? =some (.map z c):=by
 refine (s.block g (Array.getElem?_eq_some_iff.1 j).1 (fun k=>?_) (fun e=>?_)).trans j
 ·rcases k with k|k|k|k|k|k
  ·obtain⟨_,_,c,e⟩:=h.mem.own.rq.typed k
   rw[j] at e;cases e
  ·obtain⟨_,_,c,e⟩:=h.mem.own.im.typed k
   rw[j] at e;cases e
  ·obtain⟨_,_,c,e⟩:=h.mem.own.ep.typed k
   rw[j] at e;cases e
  ·obtain⟨_,_,c,e⟩:=h.mem.own.st.typed k
   rw[j] at e;cases e
  ·obtain⟨_,_,c,e⟩:=h.mem.own.ex.typed k
   rw[j] at e;cases e
  ·obtain⟨_,_,c,e⟩:=h.mem.own.la.typed k
   rw[j] at e;cases e
 ·have:=h.cells
  rw[←e,j] at this
  cases this
theorem zce {C:Cx} {q:PS} {y:PR} (n:q.pos<C.ts.length) (j:za6 C q=y):zas C q=bd y (zas C):=by rw[zfu,if_pos n,←zjS,j]
theorem zjV {C:Cx} {q:PS} (j: ¬q.pos<C.ts.length):zas C q= .ok q:=by rw[zfu,if_neg j]
theorem zcf {C:Cx} {q a:PS} {y:PR} (j:za6 C q=y) (h:y= .ok a):q.pos<a.pos:=zft (by rw[←zjS,j,h])
def zhm (base gp:Nat) (y:PR) (w:World) (e:Ending) (w':World):Prop:=
 match y with
 | .ok q=>e= .returned (.tuple #[])∧∃S,OwnMod w' base S q∧(∃v0 v1 v2 v3 v9,w'.heap[gp]? =some (.cells #[v0,v1,v2,v3,.slice S.rq.a q.rq.length S.rq.cap,.slice S.im.a q.im.length S.im.cap,.slice S.ep.a (q.ep++q.la).length S.ep.cap,.slice S.st.a q.st.length S.st.cap,.slice S.ex.a q.ex.length S.ex.cap,v9] 59 (0,0)))∧Below base w w'
 | .error p=>e=Pan p∧Below base w w'
theorem zq6 (C:Cx) (X D j n:Nat) (S:Sv) (q:PS) (w:World) (h:IM C X D j n S q w) (hs:C.scr=true):
  Calls Tryz.prog 24 #[.pointer (some ⟨n,0,none⟩)] w (zhm j n (zas C q) w):=by
 obtain⟨i0,hi,aF,aA,aG⟩:=info_parts Tryz.infoExp
 have HH:=zc h
 clear h
 go_enter Tryz.func24,Tryz.ntmps24
 go_wp2_with fail
 refine (zql C X D j n S q _ HH.out hs).mono ?_
 rintro e w1 ⟨rfl,hg,Y⟩
 have az:Hid (IM C X D j n S q w1):=HH.out.later Y
 have ax:Hid (IS n S w S w1):=IS.below Y
 have aD:=zc hg
 clear hg Y
 go_wp2
 go_loopg [] (C.ts.length+1) (fun k wr=>∃(E:Sv) (o:PS),zas C q=zas C o∧C.ts.length-o.pos<k∧IM C X D j n E o wr∧IS n S w E wr∧wr.heap[w.heap.size]? =some (.map (esS n) 5))
 case atStart=>exact⟨S,q,rfl,by omega,az.out,ax.out,aD.out⟩
 case round=>
  obtain⟨E,o,hy,hk,m',s',g'⟩:=hrel
  have af:=zc hy
  have al:Hid (IM C X D j n E o wr):=m'
  have aq:Hid (IS n S w E wr):=s'
  have au:Hid (wr.heap[w.heap.size]? =some (.map (esS n) 5)):=g'
  obtain⟨c0,c1,_,_,_,_,_,_,_,_,_⟩:=zac m'.cells
  have C0:=zc c0
  have C1:=zc c1
  have aK:=m'.mem.inv.pos
  have aI:=m'.mem.few
  clear hy m' s' g' c0 c1
  have k0:=cell_regrown C0.out
  have k1:=cell_regrown C1.out
  by_cases hp:o.pos<C.ts.length
  ·have aB:((o.pos:Int)<(C.ts.length:Int)):=by omega
   go_wp2_with fail
   refine wp_region_quiet_below (by kernel_rfl) (by kernel_rfl) ?_
   repeat (go_big_quiet_step (fail))
   refine wpQuiet_nil ?_
   intro w2 ao
   obtain⟨⟨dq,ay⟩,ab⟩:=ao
   have ac:Hid (Below wr.heap.size wr w2):=by show Below _ _ _;rw[ab];exact below_regrown _ _ _
   clear ab k0 k1 C0 C1
   have H:Hid (IM C X D j n E o w2):=al.out.later ac.out
   have an:Hid (IS n S w E w2):=aq.out.trans (IS.below ac.out)
   have am:Hid (w2.heap[w.heap.size]? =some (.map (esS n) 5)):=zbt al.out au.out (IS.below ac.out)
   go_wp2_with fail
   refine (zim C X D j n E o _ H.out).mono ?_
   rintro e w3 ⟨rfl,Y⟩
   have aa:Hid (IM C X D j n E o w3):=H.out.later Y
   have ae:Hid (IS n S w E w3):=an.out.trans (IS.below Y)
   have L:Hid (w3.heap[w.heap.size]? =some (.map (esS n) 5)):=zbt H.out am.out (IS.below Y)
   clear Y
   have ai:w.heap.size≠n:=by have:=HH.out.lt;omega
   obtain⟨c0,c1,c2,c3,c4,c5,c6,c7,c8,c9,cf⟩:=zac aa.out.cells
   cases t0:isT C o.pos 1 zC with
   |true=>
    have A:za6 C o=letJ C 1 (adv o):=by rw[za6,t0];rfl
    have HZ:=zc (af.out.trans (zce hp A))
    have Q:=zc A
    clear A
    rw[zc7 t0]
    have ak:=zc6 L.out (zqm n)
    go_wp2_with fail
    have J:Hid (IM C X D j n E (adv o) (w3.setCell ⟨n,1,none⟩ (.int .i64 ((o.pos:Int)+1)))):=aa.out.adv hp
    have I:Hid (IS n S w E (w3.setCell ⟨n,1,none⟩ (.int .i64 ((o.pos:Int)+1)))):=ae.out.set _ _
    have Z:Hid ((w3.setCell ⟨n,1,none⟩ (.int .i64 ((o.pos:Int)+1))).heap[w.heap.size]? =some (.map (esS n) 5)):=(zi ai).trans L.out
    refine (zg7 C X D j n E (adv o) _ J.out).mono ?_
    cases z:letJ C 1 (adv o) with
    |error p=>
     rintro e K ⟨rfl,Y⟩
     have HB:Hid (Below j w K):=(HH.out.back I.out).trans Y
     have HX:Hid (zas C q= .error p):=bdE HZ.out z
     unfold Pan
     go_wp2
     refine⟨rfl,?_⟩
     rw[HX.out]
     exact⟨rfl,HB.out⟩
    |ok a5=>
     rintro e K ⟨rfl,S5,m,s⟩
     have N:Hid (K.heap[w.heap.size]? =some (.map (esS n) 5)):=zbt J.out Z.out s
     have U:=zc m
     have O:Hid (IS n S w S5 K):=I.out.trans s
     clear m s
     have V:=zc (bdO HZ.out z)
     have M:=zc (zcf Q.out z)
     go_wp2
     go_roundg (gk-1)
     case rel=>exact⟨S5,a5,V.out,by have:=M.out;omega,U.out,O.out,N.out⟩
     case measure=>omega
   |false=>
    cases t1:isT C o.pos 1 zT with
    |true=>
     have A:za6 C o=fnI C (adv o):=by rw[za6,t0,t1];simp only[Bool.false_eq_true,↓reduceIte]
     have HZ:=zc (af.out.trans (zce hp A))
     have Q:=zc A
     clear A
     rw[zc7 t1]
     have ak:=zc6 L.out (zqn n)
     go_wp2_with fail
     have J:Hid (IM C X D j n E (adv o) (w3.setCell ⟨n,1,none⟩ (.int .i64 ((o.pos:Int)+1)))):=aa.out.adv hp
     have I:Hid (IS n S w E (w3.setCell ⟨n,1,none⟩ (.int .i64 ((o.pos:Int)+1)))):=ae.out.set _ _
     have Z:Hid ((w3.setCell ⟨n,1,none⟩ (.int .i64 ((o.pos:Int)+1))).heap[w.heap.size]? =some (.map (esS n) 5)):=(zi ai).trans L.out
     refine (zg8 C X D j n E (adv o) _ J.out).mono ?_
     cases z:fnI C (adv o) with
     |error p=>
      rintro e K ⟨rfl,Y⟩
      have HB:Hid (Below j w K):=(HH.out.back I.out).trans Y
      have HX:Hid (zas C q= .error p):=bdE HZ.out z
      unfold Pan
      go_wp2
      refine⟨rfl,?_⟩
      rw[HX.out]
      exact⟨rfl,HB.out⟩
     |ok a5=>
      rintro e K ⟨rfl,S5,m,s⟩
      have N:Hid (K.heap[w.heap.size]? =some (.map (esS n) 5)):=zbt J.out Z.out s
      have U:=zc m
      have O:Hid (IS n S w S5 K):=I.out.trans s
      clear m s
      have V:=zc (bdO HZ.out z)
      have M:=zc (zcf Q.out z)
      go_wp2
      go_roundg (gk-1)
      case rel=>exact⟨S5,a5,V.out,by have:=M.out;omega,U.out,O.out,N.out⟩
      case measure=>omega
    |false=>
     cases t2:isT C o.pos 1 zar with
     |true=>
      have A:za6 C o=printI C (adv o):=by rw[za6,t0,t1,t2];simp only[Bool.false_eq_true,↓reduceIte]
      have HZ:=zc (af.out.trans (zce hp A))
      have Q:=zc A
      clear A
      rw[zc7 t2]
      have ak:=zc6 L.out (zqo n)
      go_wp2_with fail
      have J:Hid (IM C X D j n E (adv o) (w3.setCell ⟨n,1,none⟩ (.int .i64 ((o.pos:Int)+1)))):=aa.out.adv hp
      have I:Hid (IS n S w E (w3.setCell ⟨n,1,none⟩ (.int .i64 ((o.pos:Int)+1)))):=ae.out.set _ _
      have Z:Hid ((w3.setCell ⟨n,1,none⟩ (.int .i64 ((o.pos:Int)+1))).heap[w.heap.size]? =some (.map (esS n) 5)):=(zi ai).trans L.out
      refine (zik C X D j n E (adv o) _ J.out).mono ?_
      cases z:printI C (adv o) with
      |error p=>
       rintro e K ⟨rfl,Y⟩
       have HB:Hid (Below j w K):=(HH.out.back I.out).trans Y
       have HX:Hid (zas C q= .error p):=bdE HZ.out z
       unfold Pan
       go_wp2
       refine⟨rfl,?_⟩
       rw[HX.out]
       exact⟨rfl,HB.out⟩
      |ok a5=>
       rintro e K ⟨rfl,S5,m,s⟩
       have N:Hid (K.heap[w.heap.size]? =some (.map (esS n) 5)):=zbt J.out Z.out s
       have U:=zc m
       have O:Hid (IS n S w S5 K):=I.out.trans s
       clear m s
       have V:=zc (bdO HZ.out z)
       have M:=zc (zcf Q.out z)
       go_wp2
       go_roundg (gk-1)
       case rel=>exact⟨S5,a5,V.out,by have:=M.out;omega,U.out,O.out,N.out⟩
       case measure=>omega
     |false=>
      cases t3:isT C o.pos 1 za3 with
      |true=>
       have A:za6 C o=stmtI C 5 sNone cSemi (adv o):=by rw[za6,t0,t1,t2,t3];simp only[Bool.false_eq_true,↓reduceIte]
       have HZ:=zc (af.out.trans (zce hp A))
       have Q:=zc A
       clear A
       rw[zc7 t3]
       have ak:=zc6 L.out (zqp n)
       go_wp2_with fail
       have J:Hid (IM C X D j n E (adv o) (w3.setCell ⟨n,1,none⟩ (.int .i64 ((o.pos:Int)+1)))):=aa.out.adv hp
       have I:Hid (IS n S w E (w3.setCell ⟨n,1,none⟩ (.int .i64 ((o.pos:Int)+1)))):=ae.out.set _ _
       have Z:Hid ((w3.setCell ⟨n,1,none⟩ (.int .i64 ((o.pos:Int)+1))).heap[w.heap.size]? =some (.map (esS n) 5)):=(zi ai).trans L.out
       refine (zil C X D j n E (adv o) _ J.out).mono ?_
       cases z:stmtI C 5 sNone cSemi (adv o) with
       |error p=>
        rintro e K ⟨rfl,Y⟩
        have HB:Hid (Below j w K):=(HH.out.back I.out).trans Y
        have HX:Hid (zas C q= .error p):=bdE HZ.out z
        unfold Pan
        go_wp2
        refine⟨rfl,?_⟩
        rw[HX.out]
        exact⟨rfl,HB.out⟩
       |ok a5=>
        rintro e K ⟨rfl,S5,m,s⟩
        have N:Hid (K.heap[w.heap.size]? =some (.map (esS n) 5)):=zbt J.out Z.out s
        have U:=zc m
        have O:Hid (IS n S w S5 K):=I.out.trans s
        clear m s
        have V:=zc (bdO HZ.out z)
        have M:=zc (zcf Q.out z)
        go_wp2
        go_roundg (gk-1)
        case rel=>exact⟨S5,a5,V.out,by have:=M.out;omega,U.out,O.out,N.out⟩
        case measure=>omega
      |false=>
       cases t4:isT C o.pos 1 zbA with
       |true=>
        have A:za6 C o=stmtI C 6 sNone cSemi (adv o):=by rw[za6,t0,t1,t2,t3,t4,hs];simp only[Bool.false_eq_true,↓reduceIte,Bool.and_self]
        have HZ:=zc (af.out.trans (zce hp A))
        have Q:=zc A
        clear A
        rw[zc7 t4]
        have ak:=zc6 L.out (zqq n)
        go_wp2_with fail
        have J:Hid (IM C X D j n E (adv o) (w3.setCell ⟨n,1,none⟩ (.int .i64 ((o.pos:Int)+1)))):=aa.out.adv hp
        have I:Hid (IS n S w E (w3.setCell ⟨n,1,none⟩ (.int .i64 ((o.pos:Int)+1)))):=ae.out.set _ _
        have Z:Hid ((w3.setCell ⟨n,1,none⟩ (.int .i64 ((o.pos:Int)+1))).heap[w.heap.size]? =some (.map (esS n) 5)):=(zi ai).trans L.out
        refine (zmt C X D j n E (adv o) _ J.out).mono ?_
        cases z:stmtI C 6 sNone cSemi (adv o) with
        |error p=>
         rintro e K ⟨rfl,Y⟩
         have HB:Hid (Below j w K):=(HH.out.back I.out).trans Y
         have HX:Hid (zas C q= .error p):=bdE HZ.out z
         unfold Pan
         go_wp2
         refine⟨rfl,?_⟩
         rw[HX.out]
         exact⟨rfl,HB.out⟩
        |ok a5=>
         rintro e K ⟨rfl,S5,m,s⟩
         have N:Hid (K.heap[w.heap.size]? =some (.map (esS n) 5)):=zbt J.out Z.out s
         have U:=zc m
         have O:Hid (IS n S w S5 K):=I.out.trans s
         clear m s
         have V:=zc (bdO HZ.out z)
         have M:=zc (zcf Q.out z)
         go_wp2
         go_roundg (gk-1)
         case rel=>exact⟨S5,a5,V.out,by have:=M.out;omega,U.out,O.out,N.out⟩
         case measure=>omega
       |false=>
        have A:za6 C o=letJ C 3 o:=by rw[za6,t0,t1,t2,t3,t4,hs];simp only[Bool.false_eq_true,↓reduceIte,Bool.and_false,Bool.not_true,Bool.false_and]
        have HZ:=zc (af.out.trans (zce hp A))
        have Q:=zc A
        clear A
        obtain⟨vz,ak⟩:=zjN L.out (zqr n (zcm C o.pos) (zc8 t0 (by decide)) (zc8 t1 (by decide)) (zc8 t2 (by decide)) (zc8 t3 (by decide)) (zc8 t4 (by decide)))
        go_wp2_with fail
        refine (zij C X D j n E o _ aa.out).mono ?_
        cases z:letJ C 3 o with
        |error p=>
         rintro e K ⟨rfl,Y⟩
         have HB:Hid (Below j w K):=(HH.out.back ae.out).trans Y
         have HX:Hid (zas C q= .error p):=bdE HZ.out z
         unfold Pan
         go_wp2
         refine⟨rfl,?_⟩
         rw[HX.out]
         exact⟨rfl,HB.out⟩
        |ok a5=>
         rintro e K ⟨rfl,S5,m,s⟩
         have N:Hid (K.heap[w.heap.size]? =some (.map (esS n) 5)):=zbt aa.out L.out s
         have U:=zc m
         have O:Hid (IS n S w S5 K):=ae.out.trans s
         clear m s
         have V:=zc (bdO HZ.out z)
         have M:=zc (zcf Q.out z)
         go_wp2
         go_roundg (gk-1)
         case rel=>exact⟨S5,a5,V.out,by have:=M.out;omega,U.out,O.out,N.out⟩
         case measure=>omega
  ·have aB: ¬((o.pos:Int)<(C.ts.length:Int)):=by omega
   go_wp2_with fail
   refine wp_region_quiet_below (by kernel_rfl) (by kernel_rfl) ?_
   repeat (go_big_quiet_step (fail))
   refine wpQuiet_nil ?_
   intro w2 ao
   obtain⟨⟨dq,ay⟩,ab⟩:=ao
   have ac:Hid (Below wr.heap.size wr w2):=by show Below _ _ _;rw[ab];exact below_regrown _ _ _
   clear ab k0 k1 C0 C1
   have H:Hid (IM C X D j n E o w2):=al.out.later ac.out
   have an:Hid (IS n S w E w2):=aq.out.trans (IS.below ac.out)
   have am:Hid (w2.heap[w.heap.size]? =some (.map (esS n) 5)):=zbt al.out au.out (IS.below ac.out)
   have HX:=zc (af.out.trans (zjV hp))
   obtain⟨c0,c1,c2,c3,c4,c5,c6,c7,c8,c9,cf⟩:=zac H.out.cells
   have ah:=H.out.mem.own.ep
   have aJ:=H.out.mem.inv.ep
   have aj:=H.out.free
   have ad:=zc aj
   clear aj
   have aw:=H.out.lt
   rcases H.out.mem.own.la.nil_or with ⟨ha,hc,hn⟩|⟨gl,ha⟩
   ·have HN:=zc (List.eq_nil_of_length_eq_zero hn)
    rw[ha,hc,hn] at c9
    clear ha hc hn
    go_wp2_with fail
    go_region_law (first|(refine zjU rfl (.tmp 41) (.tmp 45) 24 rfl 102 i0 Tryz.underlying24 hi j 4 o.ep.length E.ep _ (by rfl) (by exact ah) (by rfl) ?_))
    all_goals
     go_wp2
     go_end0
     rw[HX.out]
     refine⟨rfl,E,H.out.mem.wholeI0 HN.out ad.out (fun k hk=>zi hk),⟨.slice (some ⟨X,0,none⟩) C.ts.length D,.int .i64 o.pos,.int .i64 C.fin,.bool C.scr,.slice E.la.a o.la.length E.la.cap,(za9 H.out.cells).trans (by simp[HN.out])⟩,?_⟩
     exact (HH.out.back (an.out.set _ _)).drew
   ·have ar:OwnR w2 j 102 4 ⟨some ⟨gl,0,none⟩,E.la.cap⟩ o.la.length (o.la.flatMap epL):=by have:=H.out.mem.own.la;unfold OwnR at this ⊢;rw[ha] at this;exact this
    rw[ha] at c9
    have aH:=H.out.mem.base
    have aC:Hid (some n≠E.ep.blk):=fun e=>ad.out (.inr (.inr (.inl e.symm)))
    go_wp2_with fail
    go_region_law (first|(refine zjT rfl (.tmp 41) (.tmp 45) 24 rfl j 102 i0 _ 4 56 Tryz.underlying24 hi aF aA aG rfl (by decide) (by decide) E.ep o.ep.length _ (by rfl) (by exact ah) gl o.la.length E.la.cap j _ (by rfl) (by exact ar) (zgu _) (by omega) (by exact aH) ?_;intro r' wz hr ap av;have g2:=(ap.block n (by exact aw) aC.out).trans (by exact H.out.cells);obtain⟨d0,d1,d2,d3,d4,d5,d6,d7,d8,d9,df⟩:=zac g2))
    all_goals
     have HR:=zc hr
     have ag:=zc ap
     have aE:=zc av
     have am:=zc g2
     clear hr ap av g2 c0 c1 c2 c3 c4 c5 c6 c7 c8 c9 cf ah ar
     go_wp2
     go_end0
     rw[HX.out]
     refine⟨rfl,{E with ep:=r'},H.out.drew.mem.wholeI ag.out HR.out aE.out aw ad.out (fun k hk=>zi hk),⟨.slice (some ⟨X,0,none⟩) C.ts.length D,.int .i64 o.pos,.int .i64 C.fin,.bool C.scr,.slice E.la.a o.la.length E.la.cap,(za9 am.out).trans (by simp)⟩,?_⟩
     exact ((HH.out.back an.out).trans ⟨ag.out.os,ag.out.tape,ag.out.output,ag.out.size,fun k hk=>ag.out.block k (show k<w2.heap.size by omega) (fun e=>by have:=(H.out.mem.own.ep.typed e.symm).1;omega)⟩).setCell H.out.ge _
theorem zq7 (C:Cx) (X D j n:Nat) (S:Sv) (q:PS) (w:World) (h:IM C X D j n S q w) (hC:zbf C) (hs:C.scr=false):
  Calls Tryz.prog 24 #[.pointer (some ⟨n,0,none⟩)] w (zhm j n (zas C q) w):=by
 obtain⟨i0,hi,aF,aA,aG⟩:=info_parts Tryz.infoExp
 have HH:=zc h
 clear h
 go_enter Tryz.func24,Tryz.ntmps24
 go_wp2_with fail
 refine (zqs C X D j n S q _ HH.out hs).mono ?_
 rintro e w1 ⟨rfl,hg,Z⟩
 have az:Hid (IM C X D j n S q w1):=HH.out.later Z
 have ax:Hid (IS n S w S w1):=IS.below Z
 have aD:=zc hg
 clear hg Z
 go_wp2
 go_loopg [] (C.ts.length+1) (fun k wr=>∃(E:Sv) (o:PS),zas C q=zas C o∧C.ts.length-o.pos<k∧IM C X D j n E o wr∧IS n S w E wr∧wr.heap[w.heap.size]? =some (.map (esM n) 6))
 case atStart=>exact⟨S,q,rfl,by omega,az.out,ax.out,aD.out⟩
 case round=>
  obtain⟨E,o,hy,hk,m',s',g'⟩:=hrel
  have ad:=zc hy
  have al:Hid (IM C X D j n E o wr):=m'
  have aq:Hid (IS n S w E wr):=s'
  have au:Hid (wr.heap[w.heap.size]? =some (.map (esM n) 6)):=g'
  obtain⟨c0,c1,_,_,_,_,_,_,_,_,_⟩:=zac m'.cells
  have C0:=zc c0
  have C1:=zc c1
  have aK:=m'.mem.inv.pos
  have aI:=m'.mem.few
  clear hy m' s' g' c0 c1
  have k0:=cell_regrown C0.out
  have k1:=cell_regrown C1.out
  by_cases hp:o.pos<C.ts.length
  ·have aB:((o.pos:Int)<(C.ts.length:Int)):=by omega
   go_wp2_with fail
   refine wp_region_quiet_below (by kernel_rfl) (by kernel_rfl) ?_
   repeat (go_big_quiet_step (fail))
   refine wpQuiet_nil ?_
   intro w2 ao
   obtain⟨⟨dq,ay⟩,ac⟩:=ao
   have ae:Hid (Below wr.heap.size wr w2):=by show Below _ _ _;rw[ac];exact below_regrown _ _ _
   clear ac k0 k1 C0 C1
   have H:Hid (IM C X D j n E o w2):=al.out.later ae.out
   have an:Hid (IS n S w E w2):=aq.out.trans (IS.below ae.out)
   have am:Hid (w2.heap[w.heap.size]? =some (.map (esM n) 6)):=zbt al.out au.out (IS.below ae.out)
   go_wp2_with fail
   refine (zim C X D j n E o _ H.out).mono ?_
   rintro e w3 ⟨rfl,Z⟩
   have aa:Hid (IM C X D j n E o w3):=H.out.later Z
   have ab:Hid (IS n S w E w3):=an.out.trans (IS.below Z)
   have L:Hid (w3.heap[w.heap.size]? =some (.map (esM n) 6)):=zbt H.out am.out (IS.below Z)
   clear Z
   have ag:w.heap.size≠n:=by have:=HH.out.lt;omega
   obtain⟨c0,c1,c2,c3,c4,c5,c6,c7,c8,c9,cf⟩:=zac aa.out.cells
   cases t0:isT C o.pos 1 zC with
   |true=>
    have A:za6 C o=letJ C 1 (adv o):=by rw[za6,t0];rfl
    have HZ:=zc (ad.out.trans (zce hp A))
    have Q:=zc A
    clear A
    rw[zc7 t0]
    have ah:=zc6 L.out (zqt n)
    go_wp2_with fail
    have J:Hid (IM C X D j n E (adv o) (w3.setCell ⟨n,1,none⟩ (.int .i64 ((o.pos:Int)+1)))):=aa.out.adv hp
    have I:Hid (IS n S w E (w3.setCell ⟨n,1,none⟩ (.int .i64 ((o.pos:Int)+1)))):=ab.out.set _ _
    have Y:Hid ((w3.setCell ⟨n,1,none⟩ (.int .i64 ((o.pos:Int)+1))).heap[w.heap.size]? =some (.map (esM n) 6)):=(zi ag).trans L.out
    refine (zg7 C X D j n E (adv o) _ J.out).mono ?_
    cases z:letJ C 1 (adv o) with
    |error p=>
     rintro e K ⟨rfl,Z⟩
     have HB:Hid (Below j w K):=(HH.out.back I.out).trans Z
     have HX:Hid (zas C q= .error p):=bdE HZ.out z
     unfold Pan
     go_wp2
     refine⟨rfl,?_⟩
     rw[HX.out]
     exact⟨rfl,HB.out⟩
    |ok a5=>
     rintro e K ⟨rfl,S5,m,s⟩
     have N:Hid (K.heap[w.heap.size]? =some (.map (esM n) 6)):=zbt J.out Y.out s
     have U:=zc m
     have O:Hid (IS n S w S5 K):=I.out.trans s
     clear m s
     have V:=zc (bdO HZ.out z)
     have M:=zc (zcf Q.out z)
     go_wp2
     go_roundg (gk-1)
     case rel=>exact⟨S5,a5,V.out,by have:=M.out;omega,U.out,O.out,N.out⟩
     case measure=>omega
   |false=>
    cases t1:isT C o.pos 1 zT with
    |true=>
     have A:za6 C o=fnI C (adv o):=by rw[za6,t0,t1];simp only[Bool.false_eq_true,↓reduceIte]
     have HZ:=zc (ad.out.trans (zce hp A))
     have Q:=zc A
     clear A
     rw[zc7 t1]
     have ah:=zc6 L.out (zqu n)
     go_wp2_with fail
     have J:Hid (IM C X D j n E (adv o) (w3.setCell ⟨n,1,none⟩ (.int .i64 ((o.pos:Int)+1)))):=aa.out.adv hp
     have I:Hid (IS n S w E (w3.setCell ⟨n,1,none⟩ (.int .i64 ((o.pos:Int)+1)))):=ab.out.set _ _
     have Y:Hid ((w3.setCell ⟨n,1,none⟩ (.int .i64 ((o.pos:Int)+1))).heap[w.heap.size]? =some (.map (esM n) 6)):=(zi ag).trans L.out
     refine (zg8 C X D j n E (adv o) _ J.out).mono ?_
     cases z:fnI C (adv o) with
     |error p=>
      rintro e K ⟨rfl,Z⟩
      have HB:Hid (Below j w K):=(HH.out.back I.out).trans Z
      have HX:Hid (zas C q= .error p):=bdE HZ.out z
      unfold Pan
      go_wp2
      refine⟨rfl,?_⟩
      rw[HX.out]
      exact⟨rfl,HB.out⟩
     |ok a5=>
      rintro e K ⟨rfl,S5,m,s⟩
      have N:Hid (K.heap[w.heap.size]? =some (.map (esM n) 6)):=zbt J.out Y.out s
      have U:=zc m
      have O:Hid (IS n S w S5 K):=I.out.trans s
      clear m s
      have V:=zc (bdO HZ.out z)
      have M:=zc (zcf Q.out z)
      go_wp2
      go_roundg (gk-1)
      case rel=>exact⟨S5,a5,V.out,by have:=M.out;omega,U.out,O.out,N.out⟩
      case measure=>omega
    |false=>
     cases t2:isT C o.pos 1 zar with
     |true=>
      have A:za6 C o=printI C (adv o):=by rw[za6,t0,t1,t2];simp only[Bool.false_eq_true,↓reduceIte]
      have HZ:=zc (ad.out.trans (zce hp A))
      have Q:=zc A
      clear A
      rw[zc7 t2]
      have ah:=zc6 L.out (zqv n)
      go_wp2_with fail
      have J:Hid (IM C X D j n E (adv o) (w3.setCell ⟨n,1,none⟩ (.int .i64 ((o.pos:Int)+1)))):=aa.out.adv hp
      have I:Hid (IS n S w E (w3.setCell ⟨n,1,none⟩ (.int .i64 ((o.pos:Int)+1)))):=ab.out.set _ _
      have Y:Hid ((w3.setCell ⟨n,1,none⟩ (.int .i64 ((o.pos:Int)+1))).heap[w.heap.size]? =some (.map (esM n) 6)):=(zi ag).trans L.out
      refine (zik C X D j n E (adv o) _ J.out).mono ?_
      cases z:printI C (adv o) with
      |error p=>
       rintro e K ⟨rfl,Z⟩
       have HB:Hid (Below j w K):=(HH.out.back I.out).trans Z
       have HX:Hid (zas C q= .error p):=bdE HZ.out z
       unfold Pan
       go_wp2
       refine⟨rfl,?_⟩
       rw[HX.out]
       exact⟨rfl,HB.out⟩
      |ok a5=>
       rintro e K ⟨rfl,S5,m,s⟩
       have N:Hid (K.heap[w.heap.size]? =some (.map (esM n) 6)):=zbt J.out Y.out s
       have U:=zc m
       have O:Hid (IS n S w S5 K):=I.out.trans s
       clear m s
       have V:=zc (bdO HZ.out z)
       have M:=zc (zcf Q.out z)
       go_wp2
       go_roundg (gk-1)
       case rel=>exact⟨S5,a5,V.out,by have:=M.out;omega,U.out,O.out,N.out⟩
       case measure=>omega
     |false=>
      cases t3:isT C o.pos 1 za3 with
      |true=>
       have A:za6 C o=stmtI C 5 sNone cSemi (adv o):=by rw[za6,t0,t1,t2,t3];simp only[Bool.false_eq_true,↓reduceIte]
       have HZ:=zc (ad.out.trans (zce hp A))
       have Q:=zc A
       clear A
       rw[zc7 t3]
       have ah:=zc6 L.out (zqw n)
       go_wp2_with fail
       have J:Hid (IM C X D j n E (adv o) (w3.setCell ⟨n,1,none⟩ (.int .i64 ((o.pos:Int)+1)))):=aa.out.adv hp
       have I:Hid (IS n S w E (w3.setCell ⟨n,1,none⟩ (.int .i64 ((o.pos:Int)+1)))):=ab.out.set _ _
       have Y:Hid ((w3.setCell ⟨n,1,none⟩ (.int .i64 ((o.pos:Int)+1))).heap[w.heap.size]? =some (.map (esM n) 6)):=(zi ag).trans L.out
       refine (zil C X D j n E (adv o) _ J.out).mono ?_
       cases z:stmtI C 5 sNone cSemi (adv o) with
       |error p=>
        rintro e K ⟨rfl,Z⟩
        have HB:Hid (Below j w K):=(HH.out.back I.out).trans Z
        have HX:Hid (zas C q= .error p):=bdE HZ.out z
        unfold Pan
        go_wp2
        refine⟨rfl,?_⟩
        rw[HX.out]
        exact⟨rfl,HB.out⟩
       |ok a5=>
        rintro e K ⟨rfl,S5,m,s⟩
        have N:Hid (K.heap[w.heap.size]? =some (.map (esM n) 6)):=zbt J.out Y.out s
        have U:=zc m
        have O:Hid (IS n S w S5 K):=I.out.trans s
        clear m s
        have V:=zc (bdO HZ.out z)
        have M:=zc (zcf Q.out z)
        go_wp2
        go_roundg (gk-1)
        case rel=>exact⟨S5,a5,V.out,by have:=M.out;omega,U.out,O.out,N.out⟩
        case measure=>omega
      |false=>
       cases t4:isT C o.pos 1 zah with
       |true=>
        have A:za6 C o=zaJ C (adv o):=by rw[za6,t0,t1,t2,t3,t4,hs];simp only[Bool.false_eq_true,↓reduceIte,Bool.false_and,Bool.not_false,Bool.and_self]
        have HZ:=zc (ad.out.trans (zce hp A))
        have Q:=zc A
        clear A
        rw[zc7 t4]
        have ah:=zc6 L.out (zqx n)
        go_wp2_with fail
        have J:Hid (IM C X D j n E (adv o) (w3.setCell ⟨n,1,none⟩ (.int .i64 ((o.pos:Int)+1)))):=aa.out.adv hp
        have I:Hid (IS n S w E (w3.setCell ⟨n,1,none⟩ (.int .i64 ((o.pos:Int)+1)))):=ab.out.set _ _
        have Y:Hid ((w3.setCell ⟨n,1,none⟩ (.int .i64 ((o.pos:Int)+1))).heap[w.heap.size]? =some (.map (esM n) 6)):=(zi ag).trans L.out
        refine (zpN C X D j n E (adv o) _ J.out hC).mono ?_
        cases z:zaJ C (adv o) with
        |error p=>
         rintro e K ⟨rfl,Z⟩
         have HB:Hid (Below j w K):=(HH.out.back I.out).trans Z
         have HX:Hid (zas C q= .error p):=bdE HZ.out z
         unfold Pan
         go_wp2
         refine⟨rfl,?_⟩
         rw[HX.out]
         exact⟨rfl,HB.out⟩
        |ok a5=>
         rintro e K ⟨rfl,S5,m,s⟩
         have N:Hid (K.heap[w.heap.size]? =some (.map (esM n) 6)):=zbt J.out Y.out s
         have U:=zc m
         have O:Hid (IS n S w S5 K):=I.out.trans s
         clear m s
         have V:=zc (bdO HZ.out z)
         have M:=zc (zcf Q.out z)
         go_wp2
         go_roundg (gk-1)
         case rel=>exact⟨S5,a5,V.out,by have:=M.out;omega,U.out,O.out,N.out⟩
         case measure=>omega
       |false=>
        cases t5:isT C o.pos 1 zaf with
        |true=>
         have A:za6 C o=zaq C (adv o):=by rw[za6,t0,t1,t2,t3,t4,t5,hs];simp only[Bool.false_eq_true,↓reduceIte,Bool.false_and,Bool.not_false,Bool.and_self,Bool.and_false]
         have HZ:=zc (ad.out.trans (zce hp A))
         have Q:=zc A
         clear A
         rw[zc7 t5]
         have ah:=zc6 L.out (zqy n)
         go_wp2_with fail
         have J:Hid (IM C X D j n E (adv o) (w3.setCell ⟨n,1,none⟩ (.int .i64 ((o.pos:Int)+1)))):=aa.out.adv hp
         have I:Hid (IS n S w E (w3.setCell ⟨n,1,none⟩ (.int .i64 ((o.pos:Int)+1)))):=ab.out.set _ _
         have Y:Hid ((w3.setCell ⟨n,1,none⟩ (.int .i64 ((o.pos:Int)+1))).heap[w.heap.size]? =some (.map (esM n) 6)):=(zi ag).trans L.out
         refine (zqk C X D j n E (adv o) _ J.out hC).mono ?_
         cases z:zaq C (adv o) with
         |error p=>
          rintro e K ⟨rfl,Z⟩
          have HB:Hid (Below j w K):=(HH.out.back I.out).trans Z
          have HX:Hid (zas C q= .error p):=bdE HZ.out z
          unfold Pan
          go_wp2
          refine⟨rfl,?_⟩
          rw[HX.out]
          exact⟨rfl,HB.out⟩
         |ok a5=>
          rintro e K ⟨rfl,S5,m,s⟩
          have N:Hid (K.heap[w.heap.size]? =some (.map (esM n) 6)):=zbt J.out Y.out s
          have U:=zc m
          have O:Hid (IS n S w S5 K):=I.out.trans s
          clear m s
          have V:=zc (bdO HZ.out z)
          have M:=zc (zcf Q.out z)
          go_wp2
          go_roundg (gk-1)
          case rel=>exact⟨S5,a5,V.out,by have:=M.out;omega,U.out,O.out,N.out⟩
          case measure=>omega
        |false=>
         have A:za6 C o=letJ C 3 o:=by rw[za6,t0,t1,t2,t3,t4,t5,hs];simp only[Bool.false_eq_true,↓reduceIte,Bool.false_and,Bool.not_false,Bool.and_false]
         have HZ:=zc (ad.out.trans (zce hp A))
         have Q:=zc A
         clear A
         obtain⟨vz,ah⟩:=zjN L.out (zqz n (zcm C o.pos) (zc8 t0 (by decide)) (zc8 t1 (by decide)) (zc8 t2 (by decide)) (zc8 t3 (by decide)) (zc8 t4 (by decide)) (zc8 t5 (by decide)))
         go_wp2_with fail
         refine (zij C X D j n E o _ aa.out).mono ?_
         cases z:letJ C 3 o with
         |error p=>
          rintro e K ⟨rfl,Z⟩
          have HB:Hid (Below j w K):=(HH.out.back ab.out).trans Z
          have HX:Hid (zas C q= .error p):=bdE HZ.out z
          unfold Pan
          go_wp2
          refine⟨rfl,?_⟩
          rw[HX.out]
          exact⟨rfl,HB.out⟩
         |ok a5=>
          rintro e K ⟨rfl,S5,m,s⟩
          have N:Hid (K.heap[w.heap.size]? =some (.map (esM n) 6)):=zbt aa.out L.out s
          have U:=zc m
          have O:Hid (IS n S w S5 K):=ab.out.trans s
          clear m s
          have V:=zc (bdO HZ.out z)
          have M:=zc (zcf Q.out z)
          go_wp2
          go_roundg (gk-1)
          case rel=>exact⟨S5,a5,V.out,by have:=M.out;omega,U.out,O.out,N.out⟩
          case measure=>omega
  ·have aB: ¬((o.pos:Int)<(C.ts.length:Int)):=by omega
   go_wp2_with fail
   refine wp_region_quiet_below (by kernel_rfl) (by kernel_rfl) ?_
   repeat (go_big_quiet_step (fail))
   refine wpQuiet_nil ?_
   intro w2 ao
   obtain⟨⟨dq,ay⟩,ac⟩:=ao
   have ae:Hid (Below wr.heap.size wr w2):=by show Below _ _ _;rw[ac];exact below_regrown _ _ _
   clear ac k0 k1 C0 C1
   have H:Hid (IM C X D j n E o w2):=al.out.later ae.out
   have an:Hid (IS n S w E w2):=aq.out.trans (IS.below ae.out)
   have am:Hid (w2.heap[w.heap.size]? =some (.map (esM n) 6)):=zbt al.out au.out (IS.below ae.out)
   have HX:=zc (ad.out.trans (zjV hp))
   obtain⟨c0,c1,c2,c3,c4,c5,c6,c7,c8,c9,cf⟩:=zac H.out.cells
   have aj:=H.out.mem.own.ep
   have aJ:=H.out.mem.inv.ep
   have ak:=H.out.free
   have af:=zc ak
   clear ak
   have aw:=H.out.lt
   rcases H.out.mem.own.la.nil_or with ⟨ha,hc,hn⟩|⟨gl,ha⟩
   ·have HN:=zc (List.eq_nil_of_length_eq_zero hn)
    rw[ha,hc,hn] at c9
    clear ha hc hn
    go_wp2_with fail
    go_region_law (first|(refine zjU rfl (.tmp 41) (.tmp 45) 24 rfl 102 i0 Tryz.underlying24 hi j 4 o.ep.length E.ep _ (by rfl) (by exact aj) (by rfl) ?_))
    all_goals
     go_wp2
     go_end0
     rw[HX.out]
     refine⟨rfl,E,H.out.mem.wholeI0 HN.out af.out (fun k hk=>zi hk),⟨.slice (some ⟨X,0,none⟩) C.ts.length D,.int .i64 o.pos,.int .i64 C.fin,.bool C.scr,.slice E.la.a o.la.length E.la.cap,(za9 H.out.cells).trans (by simp[HN.out])⟩,?_⟩
     exact (HH.out.back (an.out.set _ _)).drew
   ·have ar:OwnR w2 j 102 4 ⟨some ⟨gl,0,none⟩,E.la.cap⟩ o.la.length (o.la.flatMap epL):=by have:=H.out.mem.own.la;unfold OwnR at this ⊢;rw[ha] at this;exact this
    rw[ha] at c9
    have aH:=H.out.mem.base
    have aC:Hid (some n≠E.ep.blk):=fun e=>af.out (.inr (.inr (.inl e.symm)))
    go_wp2_with fail
    go_region_law (first|(refine zjT rfl (.tmp 41) (.tmp 45) 24 rfl j 102 i0 _ 4 56 Tryz.underlying24 hi aF aA aG rfl (by decide) (by decide) E.ep o.ep.length _ (by rfl) (by exact aj) gl o.la.length E.la.cap j _ (by rfl) (by exact ar) (zgu _) (by omega) (by exact aH) ?_;intro r' wz hr ap av;have g2:=(ap.block n (by exact aw) aC.out).trans (by exact H.out.cells);obtain⟨d0,d1,d2,d3,d4,d5,d6,d7,d8,d9,df⟩:=zac g2))
    all_goals
     have HR:=zc hr
     have ai:=zc ap
     have aE:=zc av
     have am:=zc g2
     clear hr ap av g2 c0 c1 c2 c3 c4 c5 c6 c7 c8 c9 cf aj ar
     go_wp2
     go_end0
     rw[HX.out]
     refine⟨rfl,{E with ep:=r'},H.out.drew.mem.wholeI ai.out HR.out aE.out aw af.out (fun k hk=>zi hk),⟨.slice (some ⟨X,0,none⟩) C.ts.length D,.int .i64 o.pos,.int .i64 C.fin,.bool C.scr,.slice E.la.a o.la.length E.la.cap,(za9 am.out).trans (by simp)⟩,?_⟩
     exact ((HH.out.back an.out).trans ⟨ai.out.os,ai.out.tape,ai.out.output,ai.out.size,fun k hk=>ai.out.block k (show k<w2.heap.size by omega) (fun e=>by have:=(H.out.mem.own.ep.typed e.symm).1;omega)⟩).setCell H.out.ge _
end Go.Proofs.YticdggnnpjachaaGreat
