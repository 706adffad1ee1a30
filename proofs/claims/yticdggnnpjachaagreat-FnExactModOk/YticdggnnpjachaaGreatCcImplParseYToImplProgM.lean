/-
  The table of items of impl's parser: what is stored in it,what is looked up.
  What the items of impl's parser read is what the items of the document are. No program is spoken of.
  'append' of a row onto a row of the call's own,as one step of a region that draws its order; a program handed back. No program is spoken of but for the numbers of its types.
  What program of impl's parser answers: the walks.
  What program of impl's parser answers of a module: the walk.
-/
import Derived.Maps.Own
import Derived.Test.YticdggnnpjachaaGreatCcImplParseVToImplParseX
namespace Go.Proofs.YticdggnnpjachaaGreat
set_option maxRecDepth 100000
set_option maxHeartbeats 3200000
open Go.RowKit Go.PlainAid Go.Sort Go.Maps Go.ChangeMaps
def eM (gp:Nat) (k:ByteArray) (f b:Nat):MapEntry:=⟨.string k,.func (.func f) #[.pointer (some ⟨gp,0,none⟩)] #[],b⟩
def esS (gp:Nat):Array MapEntry:=#[eM gp zA 144 0,eM gp zO 145 1,eM gp zap 146 2,eM gp za0 147 3,eM gp zby 148 4]
def esM (gp:Nat):Array MapEntry:=#[eM gp zA 144 0,eM gp zO 145 1,eM gp zap 146 2,eM gp za0 147 3,eM gp zae 149 4,eM gp zad 150 5]
theorem zgl (b:Bool) (k:ByteArray) (W:World):(Instr.checkKey b 10000 9 (.string k)).run Tryz.prog W= .ok () W:=by
 show (Instr.checkKey b (9999+1) 9 (.string k)).run Tryz.prog W= .ok () W
 rw[Instr.checkKey]
 simp[run_underlying Tryz.underlying9]
theorem zgm {k:ByteArray} {h:List MapEntry} {r:Option (Nat×Value)} (j:Instr.findNow .string (.string k) h 0=some r) (W:World):(Instr.findKey 9 (.string k) h).run Tryz.prog W= .ok r W:=by
 simp[Instr.findKey,run_underlying Tryz.underlying9,j]
theorem zcr {W w0:World} {B g c:Nat} {n:Array MapEntry} {k:ByteArray} {v:Value} (j:W.heap[g]? =some (.map n c)) (w:Instr.findNow .string (.string k) n.toList 0=some none) (h:Below B w0 W) (z:B≤g):
  ∃o,(Instr.mapUpdate 126 (.map (some g)) (.string k) v).run Tryz.prog W= .ok () o∧o.heap[g]? =some (.map (n.push ⟨.string k,v,c⟩) (c+1))∧Below B w0 o:=by
 refine⟨setBlock W g (.map (n.push ⟨.string k,v,c⟩) (c+1)),?_,heap_setBlock_same j _,⟨h.os,h.tape,h.output,by simpa [setBlock] using h.size,fun i q=>(heap_setBlock_other j _ (by omega)).trans (h.block i q)⟩⟩
 simp[Instr.mapUpdate,run_underlying Tryz.underlying126,MapKept.run_getObj_map j,zgl,zgm w,MapKept.run_setObj_map _ j,Result.andThen,setBlock]
theorem zcs {W:World} {g c i:Nat} {h:Array MapEntry} {k:ByteArray} {v:Value} (n:W.heap[g]? =some (.map h c)) (j:Instr.findNow .string (.string k) h.toList 0=some (some (i,v))):
  (Instr.lookup 126 (.map (some g)) (.string k) true).run Tryz.prog W= .ok (.tuple #[v,.bool true]) W:=by
 simp[Instr.lookup,run_underlying Tryz.underlying126,MapKept.run_getObj_map n,zgl,zgm j,Result.andThen]
theorem zi6 {W:World} {g c:Nat} {j:Array MapEntry} {k:ByteArray} (o:W.heap[g]? =some (.map j c)) (n:Instr.findNow .string (.string k) j.toList 0=some none):
  ∃v,(Instr.lookup 126 (.map (some g)) (.string k) true).run Tryz.prog W= .ok (.tuple #[v,.bool false]) W:=by
 have h: ∃v,(zeroValue 1).run Tryz.prog W= .ok v W:=⟨.nilFunc,by kernel_rfl⟩
 obtain⟨v,h⟩:=h
 exact⟨v,by simp[Instr.lookup,run_underlying Tryz.underlying126,MapKept.run_getObj_map o,zgl,zgm n,Result.andThen,h]⟩
theorem zns (C:Cx) (V j o n:Nat) (S:Sv) (q:PS) (w:World) (h:IM C V j o n S q w) (U:C.scr=true):
  Calls Tryz.prog 88 #[.pointer (some ⟨n,0,none⟩)] w fun e M=>e= .returned (.map (some w.heap.size))∧M.heap[w.heap.size]? =some (.map (esS n) 5)∧Below w.heap.size w M:=by
 have Y:=zc h
 have X:=@run_makeMap Tryz.prog
 have aa: ∀(I:Fn) (first j:Array Value) (w:World),(Instr.makeFunc I first j).run Tryz.prog w= .ok (.func I first j) w:=fun _ _ _ _=>rfl
 obtain⟨W1,r1,L,E⟩:=zcr (k:=zA) (v:=.func (.func 144) #[.pointer (some ⟨n,0,none⟩)] #[]) (heap_alloc_new w (.map #[] 0)) rfl ((Below.refl w.heap.size w).alloc (Nat.le_refl _) _) (Nat.le_refl _)
 obtain⟨W2,r2,N,H⟩:=zcr (k:=zO) (v:=.func (.func 145) #[.pointer (some ⟨n,0,none⟩)] #[]) L rfl E (Nat.le_refl _)
 obtain⟨W3,r3,J,K⟩:=zcr (k:=zap) (v:=.func (.func 146) #[.pointer (some ⟨n,0,none⟩)] #[]) N rfl H (Nat.le_refl _)
 obtain⟨W4,r4,O,z⟩:=zcr (k:=za0) (v:=.func (.func 147) #[.pointer (some ⟨n,0,none⟩)] #[]) J rfl K (Nat.le_refl _)
 obtain⟨W5,r5,D,A⟩:=zcr (k:=zby) (v:=.func (.func 148) #[.pointer (some ⟨n,0,none⟩)] #[]) O rfl z (Nat.le_refl _)
 have G:=zc D
 have B:=zc A
 obtain⟨_,_,_,Z,_,_,_,_,_,_,cf⟩:=zaa (Y.out.later z).cells
 rw[U] at Z
 clear h L E N H J K O z D A
 go_enter Tryz.func88,Tryz.ntmps88
 go_wp2
 go_ret
 exact⟨rfl,G.out,B.out⟩
theorem znt (h:Nat):Instr.findNow .string (.string zA) (esS h).toList 0=some (some (0,.func (.func 144) #[.pointer (some ⟨h,0,none⟩)] #[])):=by rfl
theorem znu (h:Nat):Instr.findNow .string (.string zO) (esS h).toList 0=some (some (1,.func (.func 145) #[.pointer (some ⟨h,0,none⟩)] #[])):=by rfl
theorem znv (h:Nat):Instr.findNow .string (.string zap) (esS h).toList 0=some (some (2,.func (.func 146) #[.pointer (some ⟨h,0,none⟩)] #[])):=by rfl
theorem znw (h:Nat):Instr.findNow .string (.string za0) (esS h).toList 0=some (some (3,.func (.func 147) #[.pointer (some ⟨h,0,none⟩)] #[])):=by rfl
theorem znx (h:Nat):Instr.findNow .string (.string zby) (esS h).toList 0=some (some (4,.func (.func 148) #[.pointer (some ⟨h,0,none⟩)] #[])):=by rfl
theorem zny (n:Nat) (x:ByteArray) (h:(x==zA)=false) (q:(x==zO)=false) (w:(x==zap)=false) (j:(x==za0)=false) (o:(x==zby)=false):Instr.findNow .string (.string x) (esS n).toList 0=some none:=by
 simp[esS,eM,Instr.findNow,Instr.sameNow,h,q,w,j,o]
theorem znz (C:Cx) (Y n o j:Nat) (S:Sv) (q:PS) (w:World) (h:IM C Y n o j S q w) (X:C.scr=false):
  Calls Tryz.prog 88 #[.pointer (some ⟨j,0,none⟩)] w fun e O=>e= .returned (.map (some w.heap.size))∧O.heap[w.heap.size]? =some (.map (esM j) 6)∧Below w.heap.size w O:=by
 have HH:=zc h
 have Z:=@run_makeMap Tryz.prog
 have aa: ∀(J:Fn) (first n:Array Value) (w:World),(Instr.makeFunc J first n).run Tryz.prog w= .ok (.func J first n) w:=fun _ _ _ _=>rfl
 obtain⟨W1,r1,N,E⟩:=zcr (k:=zA) (v:=.func (.func 144) #[.pointer (some ⟨j,0,none⟩)] #[]) (heap_alloc_new w (.map #[] 0)) rfl ((Below.refl w.heap.size w).alloc (Nat.le_refl _) _) (Nat.le_refl _)
 obtain⟨W2,r2,U,I⟩:=zcr (k:=zO) (v:=.func (.func 145) #[.pointer (some ⟨j,0,none⟩)] #[]) N rfl E (Nat.le_refl _)
 obtain⟨W3,r3,K,L⟩:=zcr (k:=zap) (v:=.func (.func 146) #[.pointer (some ⟨j,0,none⟩)] #[]) U rfl I (Nat.le_refl _)
 obtain⟨W4,r4,V,z⟩:=zcr (k:=za0) (v:=.func (.func 147) #[.pointer (some ⟨j,0,none⟩)] #[]) K rfl L (Nat.le_refl _)
 obtain⟨W5,r5,D,A⟩:=zcr (k:=zae) (v:=.func (.func 149) #[.pointer (some ⟨j,0,none⟩)] #[]) V rfl z (Nat.le_refl _)
 obtain⟨W6,r6,H,M⟩:=zcr (k:=zad) (v:=.func (.func 150) #[.pointer (some ⟨j,0,none⟩)] #[]) D rfl A (Nat.le_refl _)
 have G:=zc H
 have B:=zc M
 obtain⟨_,_,_,c3,_,_,_,_,_,_,cf⟩:=zaa (HH.out.later z).cells
 rw[X] at c3
 clear h N E U I K L V z D A H M
 go_enter Tryz.func88,Tryz.ntmps88
 go_wp2
 go_ret
 exact⟨rfl,G.out,B.out⟩
theorem zn0 (h:Nat):Instr.findNow .string (.string zA) (esM h).toList 0=some (some (0,.func (.func 144) #[.pointer (some ⟨h,0,none⟩)] #[])):=by rfl
theorem zn1 (h:Nat):Instr.findNow .string (.string zO) (esM h).toList 0=some (some (1,.func (.func 145) #[.pointer (some ⟨h,0,none⟩)] #[])):=by rfl
theorem zn2 (h:Nat):Instr.findNow .string (.string zap) (esM h).toList 0=some (some (2,.func (.func 146) #[.pointer (some ⟨h,0,none⟩)] #[])):=by rfl
theorem zn3 (h:Nat):Instr.findNow .string (.string za0) (esM h).toList 0=some (some (3,.func (.func 147) #[.pointer (some ⟨h,0,none⟩)] #[])):=by rfl
theorem zn4 (h:Nat):Instr.findNow .string (.string zae) (esM h).toList 0=some (some (4,.func (.func 149) #[.pointer (some ⟨h,0,none⟩)] #[])):=by rfl
theorem zn5 (h:Nat):Instr.findNow .string (.string zad) (esM h).toList 0=some (some (5,.func (.func 150) #[.pointer (some ⟨h,0,none⟩)] #[])):=by rfl
theorem zn6 (o:Nat) (x:ByteArray) (h:(x==zA)=false) (w:(x==zO)=false) (z:(x==zap)=false) (j:(x==za0)=false) (q:(x==zae)=false) (n:(x==zad)=false):Instr.findNow .string (.string x) (esM o).toList 0=some none:=by
 simp[esM,eM,Instr.findNow,Instr.sameNow,h,w,z,j,q,n]
def za3 (C:Cx) (q:PS):PR:=
 if isT C q.pos 1 zA then letJ C 1 (adv q)
 else if isT C q.pos 1 zO then fnI C (adv q)
 else if isT C q.pos 1 zap then printI C (adv q)
 else if isT C q.pos 1 za0 then stmtI C 5 sNone cSemi (adv q)
 else if C.scr&&isT C q.pos 1 zby then stmtI C 6 sNone cSemi (adv q)
 else if !C.scr&&isT C q.pos 1 zae then zaE C (adv q)
 else if !C.scr&&isT C q.pos 1 zad then zan C (adv q)
 else letJ C 3 q
theorem zn7 (C:Cx) (k:Int) (n:ByteArray) (q:PS):stmtI C k n cSemi q=bd (bd (bd (pE C .sum 0 q) (zd C 4 cSemi)) (zX C k n)) .ok:=by
 rw[zdK,zK,stmtI]
 refine zZ fun a _=>?_
 rw[show za6 C cSemi cSemi.size 0 a=zd C 4 cSemi a from zhm C 59 a]
theorem zdS (C:Cx) (k:Int) (n:ByteArray) (q:PS):bd (bd (pE C .sum 0 q) (zd C 4 cSemi)) (zX C k n)=stmtI C k n cSemi q:=by rw[zn7,zdK]
theorem zn8 (C:Cx) (k:Int) (n:ByteArray) (q:PS):bd (bd (bd (pE C .sum 0 q) (zd C 4 zay)) (zd C 4 cSemi)) (zX C k n)=stmtI C k n cShutSemi q:=by
 rw[zK,zK,stmtI]
 refine zZ fun a _=>?_
 rw[show za6 C cShutSemi cShutSemi.size 0 a=bd (zd C 4 zay a) (zd C 4 cSemi) from zhn C 41 59 a,zK]
theorem zn9 (C:Cx) (k:Int) (n:ByteArray) (q:PS):bd (bd (bd (pE C .sum 0 q) (zd C 4 cSemi)) (zd C 4 zbd)) (zX C k n)=stmtI C k n cSemiRight q:=by
 rw[zK,zK,stmtI]
 refine zZ fun a _=>?_
 rw[show za6 C cSemiRight cSemiRight.size 0 a=bd (zd C 4 cSemi a) (zd C 4 zbd) from zhn C 59 125 a,zK]
theorem zi7 {C:Cx} {q:PS} (h:isT C q.pos 1 zA=true):zcm C q=bd (letJ C 1 (adv q)) fun a=>.ok (a,(ze C (q.pos+1)).text):=by
 rw[zcm,withN,zb9 h,zx,letJ,zK]
 refine zZ fun a j=>?_
 rw[zK,zx,zK,zK,zK]
 refine zZ fun b _=>?_
 rw[←zK,←zK,zdS,(zbe j).1]
 rfl
theorem zi8 {C:Cx} {q:PS} (h:isT C q.pos 1 zO=true):fnP C q=bd (fnI C (adv q)) fun a=>.ok (a,(ze C (q.pos+1)).text):=by
 rw[fnP,withN,zb9 h,zx,fnI,zK]
 refine zZ fun a j=>?_
 rw[show za6 C cCall cCall.size 0 a.1=bd (zd C 4 zm a.1) fun a=>bd (zd C 4 zay a) (zd C 4 zF) from zkB C 40 41 123 a.1,zK,zK,zx]
 rw[(zbe j).1]
 simp only[zK,←zn9]
 rfl
theorem zi9 (x:PR) (n:ByteArray):zaG (bd x fun a=>.ok (a,n))=x:=by rw[zaG,zK];exact zdK x
theorem zgn (C:Cx) (l:List Ep) (q:PS):impFromI C l q=bd (zaQ C (zaA C (.ok q))) fun b=>zR (fun e=>zao C (zb8 b.2 e)) l (.ok b.1):=by
 rw[impFromI,zaQ,zaA,zx,zK,zK]
 refine zZ fun a _=>zZ fun b _=>?_
 rw[zK]
 rfl
theorem znA {C:Cx} {q:PS} (h:isT C q.pos 1 zae=true):zaK C q=zaE C (adv q):=by
 rw[zaK,zb9 h,zx,zaE]
 cases w:isT C (adv q).pos 4 zF with
 |true=>
  have j:((ze C (adv q).pos).kind==3)=false:=by
   have:=zfb w
   rw[beq_iff_eq] at this
   rw[this]
   rfl
  rw[j]
  simp only[Bool.false_eq_true,↓reduceIte]
  rw[zcz,zb9 w,zx]
  refine zZ fun a _=>?_
  rw[zgn]
 |false=>
  cases o:isT C (adv q).pos 4 zv with
  |true=>
   have j:((ze C (adv q).pos).kind==3)=false:=by
    have:=zfb o
    rw[beq_iff_eq] at this
    rw[this]
    rfl
   rw[j]
   simp only[Bool.false_eq_true,↓reduceIte]
   rw[zb9 o,zx,zK]
   refine zZ fun a _=>zZ fun b _=>?_
   rw[zgn]
   rfl
  |false=>
   cases z:zB C (adv q).pos false with
   |true=>
    have j:((ze C (adv q).pos).kind==3)=false:=by
     have n:=z
     simp only[zB,Bool.and_eq_true,beq_iff_eq] at n
     rw[n.1]
     rfl
    rw[j]
    simp only[Bool.false_eq_true,↓reduceIte]
    refine zZ fun a _=>?_
    rw[zgn]
    rfl
   |false=>
    cases j:((ze C (adv q).pos).kind==3) with
    |true=>simp only[Bool.false_eq_true,↓reduceIte]
    |false=>
     simp only[Bool.false_eq_true,↓reduceIte]
     rw[zG,j,zh,z]
     rfl
theorem znB (C:Cx) (l:List Ep) (q:PS) (h:isT C q.pos 1 zP=false) (j:za5 l=false):za2 C l q=bd (zd C 4 cSemi q) fun q=>zR (fun e=>zn C (zz e)) l (.ok q):=by rw[za2,h,j];rfl
theorem ziA (C:Cx) (l:List Ep) (q:PS) (h:(isT C q.pos 1 zP||za5 l)=true):za2 C l q=bd (zaQ C (zaA C (.ok q))) fun b=>zR (fun e=>zn C (zal b.2 e)) l (.ok b.1):=by
 rw[za2,h,if_pos rfl,zaQ,zaA,zx,zK,zK]
 refine zZ fun a _=>zZ fun b _=>?_
 rw[zK]
 rfl
theorem znC {C:Cx} {q:PS} (h:isT C q.pos 1 zad=true):zaf C q=zan C (adv q):=by
 rw[zaf,zb9 h,zx,zan]
 cases A:isT C (adv q).pos 4 zF with
 |true=>
  simp only[↓reduceIte]
  rw[zcz,zb9 A,zx]
  refine zZ fun a _=>?_
  cases j:isT C a.1.pos 1 zP with
  |true=>rw[ziA C a.2 a.1 (by rw[j];rfl),if_neg (by simp)]
  |false=>
   cases n:za5 a.2 with
   |true=>rw[ziA C a.2 a.1 (by rw[n];simp),if_neg (by simp)]
   |false=>rw[znB C a.2 a.1 j n,if_pos (by simp)]
 |false=>
  cases D:isT C (adv q).pos 4 zv with
  |true=>
   simp only[Bool.false_eq_true,↓reduceIte]
   rw[zb9 D,zaQ,zaA,zx,zK,zK]
   refine zZ fun a _=>zZ fun b _=>?_
   rw[zK]
   rfl
  |false=>
   cases o:isT C (adv q).pos 1 sDefault with
   |true=>
    simp only[Bool.false_eq_true,↓reduceIte]
    rw[zb9 o,zx,zdS]
   |false=>
    cases z:isT C (adv q).pos 1 zA with
    |true=>
     simp only[Bool.false_eq_true,↓reduceIte]
     rw[zi7 z,zK]
     rfl
    |false=>
     cases w:isT C (adv q).pos 1 zO with
     |true=>
      simp only[Bool.false_eq_true,↓reduceIte]
      rw[zi8 w,zK]
      rfl
     |false=>simp only[Bool.false_eq_true,↓reduceIte]
theorem zcY {C:Cx} {i:Nat} {x y:ByteArray} (h:isT C i 1 x=true) (j:(x.toList==y.toList)=false):isT C i 1 y=false:=by
 have e:=zfT h
 rw[isT,e,j]
 simp
theorem ziB (C:Cx) (q:PS):za3 C q=zy C q:=by
 rw[za3,zy]
 cases n:isT C q.pos 1 zA with
 |true=>
  rw[zcY n (y:=zae) (by simp),zcY n (y:=zad) (by simp)]
  simp only[Bool.false_eq_true,↓reduceIte,Bool.and_false]
  rw[zi7 n,zi9]
 |false=>
  cases o:isT C q.pos 1 zO with
  |true=>
   rw[zcY o (y:=zae) (by simp),zcY o (y:=zad) (by simp)]
   simp only[Bool.false_eq_true,↓reduceIte,Bool.and_false]
   rw[zi8 o,zi9]
  |false=>
   cases h:isT C q.pos 1 zap with
   |true=>
    rw[zcY h (y:=zae) (by simp),zcY h (y:=zad) (by simp)]
    simp only[Bool.false_eq_true,↓reduceIte,Bool.and_false]
    rw[zb9 h,zx,printI,zK,zK,zK]
    refine zZ fun a _=>?_
    rw[←zn8,zK,zK]
   |false=>
    cases j:isT C q.pos 1 za0 with
    |true=>
     rw[zcY j (y:=zae) (by simp),zcY j (y:=zad) (by simp)]
     simp only[Bool.false_eq_true,↓reduceIte,Bool.and_false]
     rw[zb9 j,zx,zdS]
    |false=>
     cases D:C.scr with
     |true=>
      cases z:isT C q.pos 1 zby with
      |true=>
       simp only[Bool.false_eq_true,↓reduceIte,Bool.not_true,Bool.false_and,Bool.and_self]
       rw[zb9 z,zx,zdS]
      |false=>
       simp only[Bool.false_eq_true,↓reduceIte,Bool.not_true,Bool.false_and,Bool.and_false]
       rw[letJ]
       refine zZ fun a _=>?_
       rw[zK,zK]
       refine zZ fun b _=>?_
       rw[←zK,zdS]
     |false=>
      cases w:isT C q.pos 1 zae with
      |true=>
       simp only[Bool.false_eq_true,↓reduceIte,Bool.not_false,Bool.false_and,Bool.and_self]
       rw[znA w]
      |false=>
       cases A:isT C q.pos 1 zad with
       |true=>
        simp only[Bool.false_eq_true,↓reduceIte,Bool.not_false,Bool.false_and,Bool.and_self,Bool.and_false]
        rw[znC A]
       |false=>
        simp only[Bool.false_eq_true,↓reduceIte,Bool.not_false,Bool.false_and,Bool.and_false]
        rw[letJ]
        refine zZ fun a _=>?_
        rw[zK,zK]
        refine zZ fun b _=>?_
        rw[←zK,zdS]
theorem ziC {P:Program} {U:Array Oper} {o:Oper} {a:Act} {W:World} {K:Act→World→Prop} {Q:Exit→Act→World→Prop} {E:Prop} (ae:o.guard=none) (s x:Operand) (t:TypeId)
  (ho:o.op= .call {callee:=.builtin .append,args:=#[s,x],argTypes:=#[t,t]})
  (A:Nat) (e:TypeId) (i:TypeInfo) (z:Value) (size q:Nat) (ht:P.underlying t=some (.slice e)) (hi:P.info? e=some i) (hz:i.zero=some z) (H:i.size=size) (ad:i.bytes=q) (aa:z.cells.size=size) (ac:0<size) (O:q≤100)
  (r:Rw) (n:Nat) (xs:List Value) (hs:a.eval s= .slice r.a n r.cap) (N:OwnR W A e size r n xs)
  (M m c I:Nat) (w:List Value) (hx:a.eval x= .slice (some ⟨M,0,none⟩) m c) (Z:OwnR W I e size ⟨some ⟨M,0,none⟩,c⟩ m w) (h1: ∀u∈w,u.oneCell'=true) (hn:n+m≤1000000) (J:A≤W.heap.size)
  (h: ∀X L,OwnR L A e size X (n+m) (xs++w)→W.grownBy L r.blk→(X.blk=r.blk∨X.blk=some W.heap.size)→K (a.put o.dst (.slice X.a (n+m:Nat) X.cap)) L):
  if Region.wanted o (yielded U a.tmps)=true then Oper.wp P o a W K Q else E:=by
 have hw:Region.wanted o (yielded U a.tmps)=true:=by simp[Region.wanted,ae]
 rw[if_pos hw]
 obtain⟨v',L,hr,Y,h3,_,h5⟩:=run_append_own_at (P:=P) W A t o.type e i z size q ht hi hz H ad aa ac _ n xs N ⟨M,0,none⟩ m c w Z.1 (by
  intro j u hj
  have e1:(⟨M,0,none⟩:Addr).add j=⟨M,j,none⟩:=by simp[Addr.add];exact fun h=>h.symm
  have af:j<w.length:=(List.getElem?_eq_some_iff.1 hj).1
  rw[e1,World.ownsRow.cellAt Z j (by rw[←Z.1];exact af)]
  exact hj) h1 (by unfold maxLen;omega) (by have:(n+m)*q≤1000000*100:=Nat.mul_le_mul hn O;omega) J
 unfold Oper.wp execOp
 simp only[ho,resolve,invoke,builtin,Sem.run_bind,Sem.run_pure,Result.andThen_ok,List.map_toArray,List.map_cons,List.map_nil,hs,hx,hr]
 rcases Y.2 with ⟨hv,V⟩|⟨g',D,ag,rfl,ab⟩
 ·subst hv
  have:=h ⟨none,0⟩ L (by rw[V] at Y ⊢;exact Y) (by rw[←zbh r n];exact h3) (by rw[←zbh r n];exact h5)
  rw[V] at this
  exact this
 ·refine h ⟨some ⟨g',0,none⟩,D⟩ L Y ?_ ?_
  ·rw[←zbh r n];exact h3
  ·rw[←zbh r n,←zbh ⟨some ⟨g',0,none⟩,D⟩ (n+m)];exact h5
theorem ziD {P:Program} {q:Array Oper} {o:Oper} {a:Act} {W:World} {K:Act→World→Prop} {Q:Exit→Act→World→Prop} {E:Prop} (A:o.guard=none) (s x:Operand) (t:TypeId)
  (M:o.op= .call {callee:=.builtin .append,args:=#[s,x],argTypes:=#[t,t]})
  (e:TypeId) (i:TypeInfo) (H:P.underlying t=some (.slice e)) (D:P.info? e=some i) (j size n:Nat)
  (r:Rw) (xs:List Value) (L:a.eval s= .slice r.a n r.cap) (w:OwnR W j e size r n xs) (O:a.eval x= .slice none 0 0)
  (h:K (a.put o.dst (.slice r.a n r.cap)) W):if Region.wanted o (yielded q a.tmps)=true then Oper.wp P o a W K Q else E:=by
 have I:Region.wanted o (yielded q a.tmps)=true:=by simp[Region.wanted,A]
 rw[if_pos I]
 have U:(Builtin.append_ #[t,t] o.type #[.slice r.a n r.cap,.slice none 0 0]).run P W= .ok (.slice r.a n r.cap) W:=by
  rcases w.2 with ⟨z,_⟩|⟨g,V,N,z,_,_,J,_⟩
  ·rw[z]
   simp[Builtin.append_,run_underlying H,sizeOf,typeInfo,D,Builtin.lenOf,Builtin.firstCells]
  ·rw[z]
   simp[Builtin.append_,run_underlying H,sizeOf,typeInfo,D,Builtin.lenOf,Builtin.firstCells,loadCells,J,storeCells]
 unfold Oper.wp execOp
 simp only[M,resolve,invoke,builtin,Sem.run_bind,Sem.run_pure,Result.andThen_ok,List.map_toArray,List.map_cons,List.map_nil,L,O,U]
 exact h
theorem Mem.wholeI {C:Cx} {Z H j b:Nat} {S:Sv} {q:PS} {W I J:World} {E:Rw} (z:Mem C Z H j S q W) (O:W.grownBy I S.ep.blk) (X:OwnR I j 102 4 E (q.ep.length+q.la.length) (q.ep.flatMap epL++q.la.flatMap epL)) (M:E.blk=S.ep.blk∨E.blk=some W.heap.size) (hb:b<W.heap.size) (w: ¬S.has b)
  (N: ∀k,k≠b→J.heap[k]? =I.heap[k]?):OwnMod J j {S with ep:=E} q:=by
 have A:(q.ep++q.la).length=q.ep.length+q.la.length:=by simp
 have D: ∀(r:Rw) (e:TypeId) (o n:Nat) (K:List Value),OwnR W j e o r n K→e≠102→(∀k,r.blk=some k→S.has k)→OwnR J j e o r n K:=fun r e o n K h Y U=>
  h.keep fun k g=>(N k (fun L=>w (by rw[←L];exact U k g))).trans (O.block k (h.typed g).2.1 fun V=>(h.ne z.own.ep Y g) V.symm)
 refine⟨D _ _ _ _ _ z.own.rq (by decide) fun k g=>.inl g,D _ _ _ _ _ z.own.im (by decide) fun k g=>.inr (.inl g),?_,D _ _ _ _ _ z.own.st (by decide) fun k g=>.inr (.inr (.inr (.inl g))),D _ _ _ _ _ z.own.ex (by decide) fun k g=>.inr (.inr (.inr (.inr (.inl g)))),z.inv.rq,z.inv.im,z.inv.ep,z.inv.st,z.inv.ex⟩
 rw[A,List.flatMap_append]
 refine X.keep fun k g=>N k ?_
 rcases M with e|e
 ·intro L
  exact w (by rw[←L];exact .inr (.inr (.inl (by rw[←e];exact g))))
 ·have:W.heap.size=k:=Option.some.inj (e.symm.trans g)
  omega
theorem Mem.wholeI0 {C:Cx} {M D j b:Nat} {S:Sv} {q:PS} {W E:World} (w:Mem C M D j S q W) (L:q.la=[]) (z: ¬S.has b)
  (I: ∀k,k≠b→E.heap[k]? =W.heap[k]?):OwnMod E j S q:=by
 have A: ∀(r:Rw) (e:TypeId) (o n:Nat) (H:List Value),OwnR W j e o r n H→(∀k,r.blk=some k→S.has k)→OwnR E j e o r n H:=fun r e o n H h J=>
  h.keep fun k g=>I k (fun K=>z (by rw[←K];exact J k g))
 refine⟨A _ _ _ _ _ w.own.rq fun k g=>.inl g,A _ _ _ _ _ w.own.im fun k g=>.inr (.inl g),?_,A _ _ _ _ _ w.own.st fun k g=>.inr (.inr (.inr (.inl g))),A _ _ _ _ _ w.own.ex fun k g=>.inr (.inr (.inr (.inr (.inl g)))),w.inv.rq,w.inv.im,w.inv.ep,w.inv.st,w.inv.ex⟩
 rw[L,List.append_nil]
 exact A _ _ _ _ _ w.own.ep fun k g=>.inr (.inr (.inl g))
theorem zct {C:Cx} {i:Nat} {k:ByteArray} (h:isT C i 1 k=true):zcg C i=k:=by
 rw[zcg,zfb h,zfT h]
 rfl
theorem zcu {C:Cx} {i:Nat} {k:ByteArray} (h:isT C i 1 k=false) (n:sNone≠k):(zcg C i==k)=false:=by
 rw[Bool.eq_false_iff]
 intro e
 rw[MapKept.bytes_beq] at e
 cases j:((ze C i).kind==1) with
 |false=>
  rw[zcg,j] at e
  exact n e
 |true=>
  rw[zcg,j,if_pos rfl] at e
  rw[isT,j,e] at h
  simp at h
theorem zbm {C:Cx} {E o n z g c:Nat} {S D:Sv} {q:PS} {W w:World} {A:Array MapEntry} (h:IM C E o n z S q W) (j:W.heap[g]? =some (.map A c)) (s:IS z S W D w):w.heap[g]? =some (.map A c):=by
 refine (s.block g (Array.getElem?_eq_some_iff.1 j).1 (fun k=>?_) (fun e=>?_)).trans j
 ·rcases k with k|k|k|k|k|k
  ·obtain⟨_,_,c,e⟩:=h.mem.own.rq.typed k
   rw[j] at e;cases e
  ·obtain⟨_,_,c,e⟩:=h.mem.own.im.typed k
   rw[j] at e;cases e
  ·obtain⟨_,_,c,e⟩:=h.mem.own.ep.typed k
   rw[j] at e;cases e
  ·obtain⟨_,_,c,e⟩:=h.mem.own.st.typed k
   rw[j] at e;cases e
  ·obtain⟨_,_,c,e⟩:=h.mem.own.ex.typed k
   rw[j] at e;cases e
  ·obtain⟨_,_,c,e⟩:=h.mem.own.la.typed k
   rw[j] at e;cases e
 ·have:=h.cells
  rw[←e,j] at this
  cases this
theorem zbY {C:Cx} {q:PS} {y:PR} (j:q.pos<C.ts.length) (h:za3 C q=y):zaq C q=bd y (zaq C):=by rw[zeQ,if_pos j,←ziB,h]
theorem ziE {C:Cx} {q:PS} (h: ¬q.pos<C.ts.length):zaq C q= .ok q:=by rw[zeQ,if_neg h]
theorem zbZ {C:Cx} {q a:PS} {y:PR} (j:za3 C q=y) (h:y= .ok a):q.pos<a.pos:=zeP (by rw[←ziB,j,h])
def zgo (base gp:Nat) (y:PR) (w:World) (e:Ending) (w':World):Prop:=
 match y with
 | .ok q=>e= .returned (.tuple #[])∧∃S,OwnMod w' base S q∧(∃v0 v1 v2 v3 v9,w'.heap[gp]? =some (.cells #[v0,v1,v2,v3,.slice S.rq.a q.rq.length S.rq.cap,.slice S.im.a q.im.length S.im.cap,.slice S.ep.a (q.ep++q.la).length S.ep.cap,.slice S.st.a q.st.length S.st.cap,.slice S.ex.a q.ex.length S.ex.cap,v9] 59 (0,0)))∧Below base w w'
 | .error p=>e=Pan p∧Below base w w'
theorem znD (C:Cx) (Y D j n:Nat) (S:Sv) (q:PS) (w:World) (h:IM C Y D j n S q w) (hs:C.scr=true):
  Calls Tryz.prog 24 #[.pointer (some ⟨n,0,none⟩)] w (zgo j n (zaq C q) w):=by
 obtain⟨i0,hi,aA,aE,aC⟩:=info_parts Tryz.infoExp
 have HH:=zc h
 clear h
 go_enter Tryz.func24,Tryz.ntmps24
 go_wp2_with fail
 refine (zns C Y D j n S q _ HH.out hs).mono ?_
 rintro e w1 ⟨rfl,hg,Z⟩
 have aD:Hid (IM C Y D j n S q w1):=HH.out.later Z
 have aI:Hid (IS n S w S w1):=IS.below Z
 have aH:=zc hg
 clear hg Z
 go_wp2
 go_loopg [] (C.ts.length+1) (fun k wr=>∃(E:Sv) (o:PS),zaq C q=zaq C o∧C.ts.length-o.pos<k∧IM C Y D j n E o wr∧IS n S w E wr∧wr.heap[w.heap.size]? =some (.map (esS n) 5))
 case atStart=>exact⟨S,q,rfl,by omega,aD.out,aI.out,aH.out⟩
 case round=>
  obtain⟨E,o,hy,hk,m',s',g'⟩:=hrel
  have af:=zc hy
  have an:Hid (IM C Y D j n E o wr):=m'
  have aw:Hid (IS n S w E wr):=s'
  have au:Hid (wr.heap[w.heap.size]? =some (.map (esS n) 5)):=g'
  obtain⟨c0,c1,_,_,_,_,_,_,_,_,_⟩:=zaa m'.cells
  have C0:=zc c0
  have C1:=zc c1
  have aL:=m'.mem.inv.pos
  have aJ:=m'.mem.few
  clear hy m' s' g' c0 c1
  have k0:=cell_regrown C0.out
  have k1:=cell_regrown C1.out
  by_cases hp:o.pos<C.ts.length
  ·have aF:((o.pos:Int)<(C.ts.length:Int)):=by omega
   go_wp2_with fail
   refine wp_region_quiet_below (by kernel_rfl) (by kernel_rfl) ?_
   repeat (go_big_quiet_step (fail))
   refine wpQuiet_nil ?_
   intro w2 ap
   obtain⟨⟨dq,aG⟩,ac⟩:=ap
   have ag:Hid (Below wr.heap.size wr w2):=by show Below _ _ _;rw[ac];exact below_regrown _ _ _
   clear ac k0 k1 C0 C1
   have H:Hid (IM C Y D j n E o w2):=an.out.later ag.out
   have ao:Hid (IS n S w E w2):=aw.out.trans (IS.below ag.out)
   have am:Hid (w2.heap[w.heap.size]? =some (.map (esS n) 5)):=zbm an.out au.out (IS.below ag.out)
   go_wp2_with fail
   refine (zhv C Y D j n E o _ H.out).mono ?_
   rintro e w3 ⟨rfl,Z⟩
   have ab:Hid (IM C Y D j n E o w3):=H.out.later Z
   have ae:Hid (IS n S w E w3):=ao.out.trans (IS.below Z)
   have L:Hid (w3.heap[w.heap.size]? =some (.map (esS n) 5)):=zbm H.out am.out (IS.below Z)
   clear Z
   have ak:w.heap.size≠n:=by have:=HH.out.lt;omega
   obtain⟨c0,c1,c2,c3,c4,c5,c6,c7,c8,c9,cf⟩:=zaa ab.out.cells
   cases t0:isT C o.pos 1 zA with
   |true=>
    have A:za3 C o=letJ C 1 (adv o):=by rw[za3,t0];rfl
    have HZ:=zc (af.out.trans (zbY hp A))
    have O:=zc A
    clear A
    rw[zct t0]
    have al:=zcs L.out (znt n)
    go_wp2_with fail
    have K:Hid (IM C Y D j n E (adv o) (w3.setCell ⟨n,1,none⟩ (.int .i64 ((o.pos:Int)+1)))):=ab.out.adv hp
    have I:Hid (IS n S w E (w3.setCell ⟨n,1,none⟩ (.int .i64 ((o.pos:Int)+1)))):=ae.out.set _ _
    have aa:Hid ((w3.setCell ⟨n,1,none⟩ (.int .i64 ((o.pos:Int)+1))).heap[w.heap.size]? =some (.map (esS n) 5)):=(zp ak).trans L.out
    refine (zfV C Y D j n E (adv o) _ K.out).mono ?_
    cases z:letJ C 1 (adv o) with
    |error p=>
     rintro e J ⟨rfl,Z⟩
     have HB:Hid (Below j w J):=(HH.out.back I.out).trans Z
     have HX:Hid (zaq C q= .error p):=bdE HZ.out z
     unfold Pan
     go_wp2
     refine⟨rfl,?_⟩
     rw[HX.out]
     exact⟨rfl,HB.out⟩
    |ok a5=>
     rintro e J ⟨rfl,S5,m,s⟩
     have X:Hid (J.heap[w.heap.size]? =some (.map (esS n) 5)):=zbm K.out aa.out s
     have V:=zc m
     have M:Hid (IS n S w S5 J):=I.out.trans s
     clear m s
     have N:=zc (bdO HZ.out z)
     have U:=zc (zbZ O.out z)
     go_wp2
     go_roundg (gk-1)
     case rel=>exact⟨S5,a5,N.out,by have:=U.out;omega,V.out,M.out,X.out⟩
     case measure=>omega
   |false=>
    cases t1:isT C o.pos 1 zO with
    |true=>
     have A:za3 C o=fnI C (adv o):=by rw[za3,t0,t1];simp only[Bool.false_eq_true,↓reduceIte]
     have HZ:=zc (af.out.trans (zbY hp A))
     have O:=zc A
     clear A
     rw[zct t1]
     have al:=zcs L.out (znu n)
     go_wp2_with fail
     have K:Hid (IM C Y D j n E (adv o) (w3.setCell ⟨n,1,none⟩ (.int .i64 ((o.pos:Int)+1)))):=ab.out.adv hp
     have I:Hid (IS n S w E (w3.setCell ⟨n,1,none⟩ (.int .i64 ((o.pos:Int)+1)))):=ae.out.set _ _
     have aa:Hid ((w3.setCell ⟨n,1,none⟩ (.int .i64 ((o.pos:Int)+1))).heap[w.heap.size]? =some (.map (esS n) 5)):=(zp ak).trans L.out
     refine (zfW C Y D j n E (adv o) _ K.out).mono ?_
     cases z:fnI C (adv o) with
     |error p=>
      rintro e J ⟨rfl,Z⟩
      have HB:Hid (Below j w J):=(HH.out.back I.out).trans Z
      have HX:Hid (zaq C q= .error p):=bdE HZ.out z
      unfold Pan
      go_wp2
      refine⟨rfl,?_⟩
      rw[HX.out]
      exact⟨rfl,HB.out⟩
     |ok a5=>
      rintro e J ⟨rfl,S5,m,s⟩
      have X:Hid (J.heap[w.heap.size]? =some (.map (esS n) 5)):=zbm K.out aa.out s
      have V:=zc m
      have M:Hid (IS n S w S5 J):=I.out.trans s
      clear m s
      have N:=zc (bdO HZ.out z)
      have U:=zc (zbZ O.out z)
      go_wp2
      go_roundg (gk-1)
      case rel=>exact⟨S5,a5,N.out,by have:=U.out;omega,V.out,M.out,X.out⟩
      case measure=>omega
    |false=>
     cases t2:isT C o.pos 1 zap with
     |true=>
      have A:za3 C o=printI C (adv o):=by rw[za3,t0,t1,t2];simp only[Bool.false_eq_true,↓reduceIte]
      have HZ:=zc (af.out.trans (zbY hp A))
      have O:=zc A
      clear A
      rw[zct t2]
      have al:=zcs L.out (znv n)
      go_wp2_with fail
      have K:Hid (IM C Y D j n E (adv o) (w3.setCell ⟨n,1,none⟩ (.int .i64 ((o.pos:Int)+1)))):=ab.out.adv hp
      have I:Hid (IS n S w E (w3.setCell ⟨n,1,none⟩ (.int .i64 ((o.pos:Int)+1)))):=ae.out.set _ _
      have aa:Hid ((w3.setCell ⟨n,1,none⟩ (.int .i64 ((o.pos:Int)+1))).heap[w.heap.size]? =some (.map (esS n) 5)):=(zp ak).trans L.out
      refine (zht C Y D j n E (adv o) _ K.out).mono ?_
      cases z:printI C (adv o) with
      |error p=>
       rintro e J ⟨rfl,Z⟩
       have HB:Hid (Below j w J):=(HH.out.back I.out).trans Z
       have HX:Hid (zaq C q= .error p):=bdE HZ.out z
       unfold Pan
       go_wp2
       refine⟨rfl,?_⟩
       rw[HX.out]
       exact⟨rfl,HB.out⟩
      |ok a5=>
       rintro e J ⟨rfl,S5,m,s⟩
       have X:Hid (J.heap[w.heap.size]? =some (.map (esS n) 5)):=zbm K.out aa.out s
       have V:=zc m
       have M:Hid (IS n S w S5 J):=I.out.trans s
       clear m s
       have N:=zc (bdO HZ.out z)
       have U:=zc (zbZ O.out z)
       go_wp2
       go_roundg (gk-1)
       case rel=>exact⟨S5,a5,N.out,by have:=U.out;omega,V.out,M.out,X.out⟩
       case measure=>omega
     |false=>
      cases t3:isT C o.pos 1 za0 with
      |true=>
       have A:za3 C o=stmtI C 5 sNone cSemi (adv o):=by rw[za3,t0,t1,t2,t3];simp only[Bool.false_eq_true,↓reduceIte]
       have HZ:=zc (af.out.trans (zbY hp A))
       have O:=zc A
       clear A
       rw[zct t3]
       have al:=zcs L.out (znw n)
       go_wp2_with fail
       have K:Hid (IM C Y D j n E (adv o) (w3.setCell ⟨n,1,none⟩ (.int .i64 ((o.pos:Int)+1)))):=ab.out.adv hp
       have I:Hid (IS n S w E (w3.setCell ⟨n,1,none⟩ (.int .i64 ((o.pos:Int)+1)))):=ae.out.set _ _
       have aa:Hid ((w3.setCell ⟨n,1,none⟩ (.int .i64 ((o.pos:Int)+1))).heap[w.heap.size]? =some (.map (esS n) 5)):=(zp ak).trans L.out
       refine (zhu C Y D j n E (adv o) _ K.out).mono ?_
       cases z:stmtI C 5 sNone cSemi (adv o) with
       |error p=>
        rintro e J ⟨rfl,Z⟩
        have HB:Hid (Below j w J):=(HH.out.back I.out).trans Z
        have HX:Hid (zaq C q= .error p):=bdE HZ.out z
        unfold Pan
        go_wp2
        refine⟨rfl,?_⟩
        rw[HX.out]
        exact⟨rfl,HB.out⟩
       |ok a5=>
        rintro e J ⟨rfl,S5,m,s⟩
        have X:Hid (J.heap[w.heap.size]? =some (.map (esS n) 5)):=zbm K.out aa.out s
        have V:=zc m
        have M:Hid (IS n S w S5 J):=I.out.trans s
        clear m s
        have N:=zc (bdO HZ.out z)
        have U:=zc (zbZ O.out z)
        go_wp2
        go_roundg (gk-1)
        case rel=>exact⟨S5,a5,N.out,by have:=U.out;omega,V.out,M.out,X.out⟩
        case measure=>omega
      |false=>
       cases t4:isT C o.pos 1 zby with
       |true=>
        have A:za3 C o=stmtI C 6 sNone cSemi (adv o):=by rw[za3,t0,t1,t2,t3,t4,hs];simp only[Bool.false_eq_true,↓reduceIte,Bool.and_self]
        have HZ:=zc (af.out.trans (zbY hp A))
        have O:=zc A
        clear A
        rw[zct t4]
        have al:=zcs L.out (znx n)
        go_wp2_with fail
        have K:Hid (IM C Y D j n E (adv o) (w3.setCell ⟨n,1,none⟩ (.int .i64 ((o.pos:Int)+1)))):=ab.out.adv hp
        have I:Hid (IS n S w E (w3.setCell ⟨n,1,none⟩ (.int .i64 ((o.pos:Int)+1)))):=ae.out.set _ _
        have aa:Hid ((w3.setCell ⟨n,1,none⟩ (.int .i64 ((o.pos:Int)+1))).heap[w.heap.size]? =some (.map (esS n) 5)):=(zp ak).trans L.out
        refine (zkY C Y D j n E (adv o) _ K.out).mono ?_
        cases z:stmtI C 6 sNone cSemi (adv o) with
        |error p=>
         rintro e J ⟨rfl,Z⟩
         have HB:Hid (Below j w J):=(HH.out.back I.out).trans Z
         have HX:Hid (zaq C q= .error p):=bdE HZ.out z
         unfold Pan
         go_wp2
         refine⟨rfl,?_⟩
         rw[HX.out]
         exact⟨rfl,HB.out⟩
        |ok a5=>
         rintro e J ⟨rfl,S5,m,s⟩
         have X:Hid (J.heap[w.heap.size]? =some (.map (esS n) 5)):=zbm K.out aa.out s
         have V:=zc m
         have M:Hid (IS n S w S5 J):=I.out.trans s
         clear m s
         have N:=zc (bdO HZ.out z)
         have U:=zc (zbZ O.out z)
         go_wp2
         go_roundg (gk-1)
         case rel=>exact⟨S5,a5,N.out,by have:=U.out;omega,V.out,M.out,X.out⟩
         case measure=>omega
       |false=>
        have A:za3 C o=letJ C 3 o:=by rw[za3,t0,t1,t2,t3,t4,hs];simp only[Bool.false_eq_true,↓reduceIte,Bool.and_false,Bool.not_true,Bool.false_and]
        have HZ:=zc (af.out.trans (zbY hp A))
        have O:=zc A
        clear A
        obtain⟨vz,al⟩:=zi6 L.out (zny n (zcg C o.pos) (zcu t0 (by decide)) (zcu t1 (by decide)) (zcu t2 (by decide)) (zcu t3 (by decide)) (zcu t4 (by decide)))
        go_wp2_with fail
        refine (zhs C Y D j n E o _ ab.out).mono ?_
        cases z:letJ C 3 o with
        |error p=>
         rintro e J ⟨rfl,Z⟩
         have HB:Hid (Below j w J):=(HH.out.back ae.out).trans Z
         have HX:Hid (zaq C q= .error p):=bdE HZ.out z
         unfold Pan
         go_wp2
         refine⟨rfl,?_⟩
         rw[HX.out]
         exact⟨rfl,HB.out⟩
        |ok a5=>
         rintro e J ⟨rfl,S5,m,s⟩
         have X:Hid (J.heap[w.heap.size]? =some (.map (esS n) 5)):=zbm ab.out L.out s
         have V:=zc m
         have M:Hid (IS n S w S5 J):=ae.out.trans s
         clear m s
         have N:=zc (bdO HZ.out z)
         have U:=zc (zbZ O.out z)
         go_wp2
         go_roundg (gk-1)
         case rel=>exact⟨S5,a5,N.out,by have:=U.out;omega,V.out,M.out,X.out⟩
         case measure=>omega
  ·have aF: ¬((o.pos:Int)<(C.ts.length:Int)):=by omega
   go_wp2_with fail
   refine wp_region_quiet_below (by kernel_rfl) (by kernel_rfl) ?_
   repeat (go_big_quiet_step (fail))
   refine wpQuiet_nil ?_
   intro w2 ap
   obtain⟨⟨dq,aG⟩,ac⟩:=ap
   have ag:Hid (Below wr.heap.size wr w2):=by show Below _ _ _;rw[ac];exact below_regrown _ _ _
   clear ac k0 k1 C0 C1
   have H:Hid (IM C Y D j n E o w2):=an.out.later ag.out
   have ao:Hid (IS n S w E w2):=aw.out.trans (IS.below ag.out)
   have am:Hid (w2.heap[w.heap.size]? =some (.map (esS n) 5)):=zbm an.out au.out (IS.below ag.out)
   have HX:=zc (af.out.trans (ziE hp))
   obtain⟨c0,c1,c2,c3,c4,c5,c6,c7,c8,c9,cf⟩:=zaa H.out.cells
   have ai:=H.out.mem.own.ep
   have aK:=H.out.mem.inv.ep
   have aj:=H.out.free
   have ad:=zc aj
   clear aj
   have av:=H.out.lt
   rcases H.out.mem.own.la.nil_or with ⟨ha,hc,hn⟩|⟨gl,ha⟩
   ·have HN:=zc (List.eq_nil_of_length_eq_zero hn)
    rw[ha,hc,hn] at c9
    clear ha hc hn
    go_wp2_with fail
    go_region_law (first|(refine ziD rfl (.tmp 41) (.tmp 45) 24 rfl 102 i0 Tryz.underlying24 hi j 4 o.ep.length E.ep _ (by rfl) (by exact ai) (by rfl) ?_))
    all_goals
     go_wp2
     go_end0
     rw[HX.out]
     refine⟨rfl,E,H.out.mem.wholeI0 HN.out ad.out (fun k hk=>zp hk),⟨.slice (some ⟨Y,0,none⟩) C.ts.length D,.int .i64 o.pos,.int .i64 C.fin,.bool C.scr,.slice E.la.a o.la.length E.la.cap,(zas H.out.cells).trans (by simp[HN.out])⟩,?_⟩
     exact (HH.out.back (ao.out.set _ _)).drew
   ·have ax:OwnR w2 j 102 4 ⟨some ⟨gl,0,none⟩,E.la.cap⟩ o.la.length (o.la.flatMap epL):=by have:=H.out.mem.own.la;unfold OwnR at this ⊢;rw[ha] at this;exact this
    rw[ha] at c9
    have aB:=H.out.mem.base
    have ay:Hid (some n≠E.ep.blk):=fun e=>ad.out (.inr (.inr (.inl e.symm)))
    go_wp2_with fail
    go_region_law (first|(refine ziC rfl (.tmp 41) (.tmp 45) 24 rfl j 102 i0 _ 4 56 Tryz.underlying24 hi aA aE aC rfl (by decide) (by decide) E.ep o.ep.length _ (by rfl) (by exact ai) gl o.la.length E.la.cap j _ (by rfl) (by exact ax) (zfJ _) (by omega) (by exact aB) ?_;intro r' wz hr aq ar;have g2:=(aq.block n (by exact av) ay.out).trans (by exact H.out.cells);obtain⟨d0,d1,d2,d3,d4,d5,d6,d7,d8,d9,df⟩:=zaa g2))
    all_goals
     have HR:=zc hr
     have ah:=zc aq
     have az:=zc ar
     have am:=zc g2
     clear hr aq ar g2 c0 c1 c2 c3 c4 c5 c6 c7 c8 c9 cf ai ax
     go_wp2
     go_end0
     rw[HX.out]
     refine⟨rfl,{E with ep:=r'},H.out.drew.mem.wholeI ah.out HR.out az.out av ad.out (fun k hk=>zp hk),⟨.slice (some ⟨Y,0,none⟩) C.ts.length D,.int .i64 o.pos,.int .i64 C.fin,.bool C.scr,.slice E.la.a o.la.length E.la.cap,(zas am.out).trans (by simp)⟩,?_⟩
     exact ((HH.out.back ao.out).trans ⟨ah.out.os,ah.out.tape,ah.out.output,ah.out.size,fun k hk=>ah.out.block k (show k<w2.heap.size by omega) (fun e=>by have:=(H.out.mem.own.ep.typed e.symm).1;omega)⟩).setCell H.out.ge _
theorem znE (C:Cx) (Y D j n:Nat) (S:Sv) (q:PS) (w:World) (h:IM C Y D j n S q w) (hC:zaV C) (hs:C.scr=false):
  Calls Tryz.prog 24 #[.pointer (some ⟨n,0,none⟩)] w (zgo j n (zaq C q) w):=by
 obtain⟨i0,hi,az,aD,aB⟩:=info_parts Tryz.infoExp
 have HH:=zc h
 clear h
 go_enter Tryz.func24,Tryz.ntmps24
 go_wp2_with fail
 refine (znz C Y D j n S q _ HH.out hs).mono ?_
 rintro e w1 ⟨rfl,hg,hb⟩
 have aC:Hid (IM C Y D j n S q w1):=HH.out.later hb
 have aH:Hid (IS n S w S w1):=IS.below hb
 have aG:=zc hg
 clear hg hb
 go_wp2
 go_loopg [] (C.ts.length+1) (fun k wr=>∃(E:Sv) (o:PS),zaq C q=zaq C o∧C.ts.length-o.pos<k∧IM C Y D j n E o wr∧IS n S w E wr∧wr.heap[w.heap.size]? =some (.map (esM n) 6))
 case atStart=>exact⟨S,q,rfl,by omega,aC.out,aH.out,aG.out⟩
 case round=>
  obtain⟨E,o,hy,hk,m',s',g'⟩:=hrel
  have ac:=zc hy
  have am:Hid (IM C Y D j n E o wr):=m'
  have av:Hid (IS n S w E wr):=s'
  have ar:Hid (wr.heap[w.heap.size]? =some (.map (esM n) 6)):=g'
  obtain⟨c0,c1,_,_,_,_,_,_,_,_,_⟩:=zaa m'.cells
  have C0:=zc c0
  have C1:=zc c1
  have aK:=m'.mem.inv.pos
  have aI:=m'.mem.few
  clear hy m' s' g' c0 c1
  have k0:=cell_regrown C0.out
  have k1:=cell_regrown C1.out
  by_cases hp:o.pos<C.ts.length
  ·have aE:((o.pos:Int)<(C.ts.length:Int)):=by omega
   go_wp2_with fail
   refine wp_region_quiet_below (by kernel_rfl) (by kernel_rfl) ?_
   repeat (go_big_quiet_step (fail))
   refine wpQuiet_nil ?_
   intro w2 ao
   obtain⟨⟨dq,aF⟩,ad⟩:=ao
   have af:Hid (Below wr.heap.size wr w2):=by show Below _ _ _;rw[ad];exact below_regrown _ _ _
   clear ad k0 k1 C0 C1
   have H:Hid (IM C Y D j n E o w2):=am.out.later af.out
   have an:Hid (IS n S w E w2):=av.out.trans (IS.below af.out)
   have al:Hid (w2.heap[w.heap.size]? =some (.map (esM n) 6)):=zbm am.out ar.out (IS.below af.out)
   go_wp2_with fail
   refine (zhv C Y D j n E o _ H.out).mono ?_
   rintro e w3 ⟨rfl,hb⟩
   have aa:Hid (IM C Y D j n E o w3):=H.out.later hb
   have ab:Hid (IS n S w E w3):=an.out.trans (IS.below hb)
   have L:Hid (w3.heap[w.heap.size]? =some (.map (esM n) 6)):=zbm H.out al.out (IS.below hb)
   clear hb
   have ag:w.heap.size≠n:=by have:=HH.out.lt;omega
   obtain⟨c0,c1,c2,c3,c4,c5,c6,c7,c8,c9,cf⟩:=zaa aa.out.cells
   cases t0:isT C o.pos 1 zA with
   |true=>
    have A:za3 C o=letJ C 1 (adv o):=by rw[za3,t0];rfl
    have HZ:=zc (ac.out.trans (zbY hp A))
    have O:=zc A
    clear A
    rw[zct t0]
    have ai:=zcs L.out (zn0 n)
    go_wp2_with fail
    have J:Hid (IM C Y D j n E (adv o) (w3.setCell ⟨n,1,none⟩ (.int .i64 ((o.pos:Int)+1)))):=aa.out.adv hp
    have I:Hid (IS n S w E (w3.setCell ⟨n,1,none⟩ (.int .i64 ((o.pos:Int)+1)))):=ab.out.set _ _
    have Z:Hid ((w3.setCell ⟨n,1,none⟩ (.int .i64 ((o.pos:Int)+1))).heap[w.heap.size]? =some (.map (esM n) 6)):=(zp ag).trans L.out
    refine (zfV C Y D j n E (adv o) _ J.out).mono ?_
    cases z:letJ C 1 (adv o) with
    |error p=>
     rintro e K ⟨rfl,hb⟩
     have HB:Hid (Below j w K):=(HH.out.back I.out).trans hb
     have HX:Hid (zaq C q= .error p):=bdE HZ.out z
     unfold Pan
     go_wp2
     refine⟨rfl,?_⟩
     rw[HX.out]
     exact⟨rfl,HB.out⟩
    |ok a5=>
     rintro e K ⟨rfl,S5,m,s⟩
     have X:Hid (K.heap[w.heap.size]? =some (.map (esM n) 6)):=zbm J.out Z.out s
     have V:=zc m
     have M:Hid (IS n S w S5 K):=I.out.trans s
     clear m s
     have N:=zc (bdO HZ.out z)
     have U:=zc (zbZ O.out z)
     go_wp2
     go_roundg (gk-1)
     case rel=>exact⟨S5,a5,N.out,by have:=U.out;omega,V.out,M.out,X.out⟩
     case measure=>omega
   |false=>
    cases t1:isT C o.pos 1 zO with
    |true=>
     have A:za3 C o=fnI C (adv o):=by rw[za3,t0,t1];simp only[Bool.false_eq_true,↓reduceIte]
     have HZ:=zc (ac.out.trans (zbY hp A))
     have O:=zc A
     clear A
     rw[zct t1]
     have ai:=zcs L.out (zn1 n)
     go_wp2_with fail
     have J:Hid (IM C Y D j n E (adv o) (w3.setCell ⟨n,1,none⟩ (.int .i64 ((o.pos:Int)+1)))):=aa.out.adv hp
     have I:Hid (IS n S w E (w3.setCell ⟨n,1,none⟩ (.int .i64 ((o.pos:Int)+1)))):=ab.out.set _ _
     have Z:Hid ((w3.setCell ⟨n,1,none⟩ (.int .i64 ((o.pos:Int)+1))).heap[w.heap.size]? =some (.map (esM n) 6)):=(zp ag).trans L.out
     refine (zfW C Y D j n E (adv o) _ J.out).mono ?_
     cases z:fnI C (adv o) with
     |error p=>
      rintro e K ⟨rfl,hb⟩
      have HB:Hid (Below j w K):=(HH.out.back I.out).trans hb
      have HX:Hid (zaq C q= .error p):=bdE HZ.out z
      unfold Pan
      go_wp2
      refine⟨rfl,?_⟩
      rw[HX.out]
      exact⟨rfl,HB.out⟩
     |ok a5=>
      rintro e K ⟨rfl,S5,m,s⟩
      have X:Hid (K.heap[w.heap.size]? =some (.map (esM n) 6)):=zbm J.out Z.out s
      have V:=zc m
      have M:Hid (IS n S w S5 K):=I.out.trans s
      clear m s
      have N:=zc (bdO HZ.out z)
      have U:=zc (zbZ O.out z)
      go_wp2
      go_roundg (gk-1)
      case rel=>exact⟨S5,a5,N.out,by have:=U.out;omega,V.out,M.out,X.out⟩
      case measure=>omega
    |false=>
     cases t2:isT C o.pos 1 zap with
     |true=>
      have A:za3 C o=printI C (adv o):=by rw[za3,t0,t1,t2];simp only[Bool.false_eq_true,↓reduceIte]
      have HZ:=zc (ac.out.trans (zbY hp A))
      have O:=zc A
      clear A
      rw[zct t2]
      have ai:=zcs L.out (zn2 n)
      go_wp2_with fail
      have J:Hid (IM C Y D j n E (adv o) (w3.setCell ⟨n,1,none⟩ (.int .i64 ((o.pos:Int)+1)))):=aa.out.adv hp
      have I:Hid (IS n S w E (w3.setCell ⟨n,1,none⟩ (.int .i64 ((o.pos:Int)+1)))):=ab.out.set _ _
      have Z:Hid ((w3.setCell ⟨n,1,none⟩ (.int .i64 ((o.pos:Int)+1))).heap[w.heap.size]? =some (.map (esM n) 6)):=(zp ag).trans L.out
      refine (zht C Y D j n E (adv o) _ J.out).mono ?_
      cases z:printI C (adv o) with
      |error p=>
       rintro e K ⟨rfl,hb⟩
       have HB:Hid (Below j w K):=(HH.out.back I.out).trans hb
       have HX:Hid (zaq C q= .error p):=bdE HZ.out z
       unfold Pan
       go_wp2
       refine⟨rfl,?_⟩
       rw[HX.out]
       exact⟨rfl,HB.out⟩
      |ok a5=>
       rintro e K ⟨rfl,S5,m,s⟩
       have X:Hid (K.heap[w.heap.size]? =some (.map (esM n) 6)):=zbm J.out Z.out s
       have V:=zc m
       have M:Hid (IS n S w S5 K):=I.out.trans s
       clear m s
       have N:=zc (bdO HZ.out z)
       have U:=zc (zbZ O.out z)
       go_wp2
       go_roundg (gk-1)
       case rel=>exact⟨S5,a5,N.out,by have:=U.out;omega,V.out,M.out,X.out⟩
       case measure=>omega
     |false=>
      cases t3:isT C o.pos 1 za0 with
      |true=>
       have A:za3 C o=stmtI C 5 sNone cSemi (adv o):=by rw[za3,t0,t1,t2,t3];simp only[Bool.false_eq_true,↓reduceIte]
       have HZ:=zc (ac.out.trans (zbY hp A))
       have O:=zc A
       clear A
       rw[zct t3]
       have ai:=zcs L.out (zn3 n)
       go_wp2_with fail
       have J:Hid (IM C Y D j n E (adv o) (w3.setCell ⟨n,1,none⟩ (.int .i64 ((o.pos:Int)+1)))):=aa.out.adv hp
       have I:Hid (IS n S w E (w3.setCell ⟨n,1,none⟩ (.int .i64 ((o.pos:Int)+1)))):=ab.out.set _ _
       have Z:Hid ((w3.setCell ⟨n,1,none⟩ (.int .i64 ((o.pos:Int)+1))).heap[w.heap.size]? =some (.map (esM n) 6)):=(zp ag).trans L.out
       refine (zhu C Y D j n E (adv o) _ J.out).mono ?_
       cases z:stmtI C 5 sNone cSemi (adv o) with
       |error p=>
        rintro e K ⟨rfl,hb⟩
        have HB:Hid (Below j w K):=(HH.out.back I.out).trans hb
        have HX:Hid (zaq C q= .error p):=bdE HZ.out z
        unfold Pan
        go_wp2
        refine⟨rfl,?_⟩
        rw[HX.out]
        exact⟨rfl,HB.out⟩
       |ok a5=>
        rintro e K ⟨rfl,S5,m,s⟩
        have X:Hid (K.heap[w.heap.size]? =some (.map (esM n) 6)):=zbm J.out Z.out s
        have V:=zc m
        have M:Hid (IS n S w S5 K):=I.out.trans s
        clear m s
        have N:=zc (bdO HZ.out z)
        have U:=zc (zbZ O.out z)
        go_wp2
        go_roundg (gk-1)
        case rel=>exact⟨S5,a5,N.out,by have:=U.out;omega,V.out,M.out,X.out⟩
        case measure=>omega
      |false=>
       cases t4:isT C o.pos 1 zae with
       |true=>
        have A:za3 C o=zaE C (adv o):=by rw[za3,t0,t1,t2,t3,t4,hs];simp only[Bool.false_eq_true,↓reduceIte,Bool.false_and,Bool.not_false,Bool.and_self]
        have HZ:=zc (ac.out.trans (zbY hp A))
        have O:=zc A
        clear A
        rw[zct t4]
        have ai:=zcs L.out (zn4 n)
        go_wp2_with fail
        have J:Hid (IM C Y D j n E (adv o) (w3.setCell ⟨n,1,none⟩ (.int .i64 ((o.pos:Int)+1)))):=aa.out.adv hp
        have I:Hid (IS n S w E (w3.setCell ⟨n,1,none⟩ (.int .i64 ((o.pos:Int)+1)))):=ab.out.set _ _
        have Z:Hid ((w3.setCell ⟨n,1,none⟩ (.int .i64 ((o.pos:Int)+1))).heap[w.heap.size]? =some (.map (esM n) 6)):=(zp ag).trans L.out
        refine (zmU C Y D j n E (adv o) _ J.out hC).mono ?_
        cases z:zaE C (adv o) with
        |error p=>
         rintro e K ⟨rfl,hb⟩
         have HB:Hid (Below j w K):=(HH.out.back I.out).trans hb
         have HX:Hid (zaq C q= .error p):=bdE HZ.out z
         unfold Pan
         go_wp2
         refine⟨rfl,?_⟩
         rw[HX.out]
         exact⟨rfl,HB.out⟩
        |ok a5=>
         rintro e K ⟨rfl,S5,m,s⟩
         have X:Hid (K.heap[w.heap.size]? =some (.map (esM n) 6)):=zbm J.out Z.out s
         have V:=zc m
         have M:Hid (IS n S w S5 K):=I.out.trans s
         clear m s
         have N:=zc (bdO HZ.out z)
         have U:=zc (zbZ O.out z)
         go_wp2
         go_roundg (gk-1)
         case rel=>exact⟨S5,a5,N.out,by have:=U.out;omega,V.out,M.out,X.out⟩
         case measure=>omega
       |false=>
        cases t5:isT C o.pos 1 zad with
        |true=>
         have A:za3 C o=zan C (adv o):=by rw[za3,t0,t1,t2,t3,t4,t5,hs];simp only[Bool.false_eq_true,↓reduceIte,Bool.false_and,Bool.not_false,Bool.and_self,Bool.and_false]
         have HZ:=zc (ac.out.trans (zbY hp A))
         have O:=zc A
         clear A
         rw[zct t5]
         have ai:=zcs L.out (zn5 n)
         go_wp2_with fail
         have J:Hid (IM C Y D j n E (adv o) (w3.setCell ⟨n,1,none⟩ (.int .i64 ((o.pos:Int)+1)))):=aa.out.adv hp
         have I:Hid (IS n S w E (w3.setCell ⟨n,1,none⟩ (.int .i64 ((o.pos:Int)+1)))):=ab.out.set _ _
         have Z:Hid ((w3.setCell ⟨n,1,none⟩ (.int .i64 ((o.pos:Int)+1))).heap[w.heap.size]? =some (.map (esM n) 6)):=(zp ag).trans L.out
         refine (znr C Y D j n E (adv o) _ J.out hC).mono ?_
         cases z:zan C (adv o) with
         |error p=>
          rintro e K ⟨rfl,hb⟩
          have HB:Hid (Below j w K):=(HH.out.back I.out).trans hb
          have HX:Hid (zaq C q= .error p):=bdE HZ.out z
          unfold Pan
          go_wp2
          refine⟨rfl,?_⟩
          rw[HX.out]
          exact⟨rfl,HB.out⟩
         |ok a5=>
          rintro e K ⟨rfl,S5,m,s⟩
          have X:Hid (K.heap[w.heap.size]? =some (.map (esM n) 6)):=zbm J.out Z.out s
          have V:=zc m
          have M:Hid (IS n S w S5 K):=I.out.trans s
          clear m s
          have N:=zc (bdO HZ.out z)
          have U:=zc (zbZ O.out z)
          go_wp2
          go_roundg (gk-1)
          case rel=>exact⟨S5,a5,N.out,by have:=U.out;omega,V.out,M.out,X.out⟩
          case measure=>omega
        |false=>
         have A:za3 C o=letJ C 3 o:=by rw[za3,t0,t1,t2,t3,t4,t5,hs];simp only[Bool.false_eq_true,↓reduceIte,Bool.false_and,Bool.not_false,Bool.and_false]
         have HZ:=zc (ac.out.trans (zbY hp A))
         have O:=zc A
         clear A
         obtain⟨vz,ai⟩:=zi6 L.out (zn6 n (zcg C o.pos) (zcu t0 (by decide)) (zcu t1 (by decide)) (zcu t2 (by decide)) (zcu t3 (by decide)) (zcu t4 (by decide)) (zcu t5 (by decide)))
         go_wp2_with fail
         refine (zhs C Y D j n E o _ aa.out).mono ?_
         cases z:letJ C 3 o with
         |error p=>
          rintro e K ⟨rfl,hb⟩
          have HB:Hid (Below j w K):=(HH.out.back ab.out).trans hb
          have HX:Hid (zaq C q= .error p):=bdE HZ.out z
          unfold Pan
          go_wp2
          refine⟨rfl,?_⟩
          rw[HX.out]
          exact⟨rfl,HB.out⟩
         |ok a5=>
          rintro e K ⟨rfl,S5,m,s⟩
          have X:Hid (K.heap[w.heap.size]? =some (.map (esM n) 6)):=zbm aa.out L.out s
          have V:=zc m
          have M:Hid (IS n S w S5 K):=ab.out.trans s
          clear m s
          have N:=zc (bdO HZ.out z)
          have U:=zc (zbZ O.out z)
          go_wp2
          go_roundg (gk-1)
          case rel=>exact⟨S5,a5,N.out,by have:=U.out;omega,V.out,M.out,X.out⟩
          case measure=>omega
  ·have aE: ¬((o.pos:Int)<(C.ts.length:Int)):=by omega
   go_wp2_with fail
   refine wp_region_quiet_below (by kernel_rfl) (by kernel_rfl) ?_
   repeat (go_big_quiet_step (fail))
   refine wpQuiet_nil ?_
   intro w2 ao
   obtain⟨⟨dq,aF⟩,ad⟩:=ao
   have af:Hid (Below wr.heap.size wr w2):=by show Below _ _ _;rw[ad];exact below_regrown _ _ _
   clear ad k0 k1 C0 C1
   have H:Hid (IM C Y D j n E o w2):=am.out.later af.out
   have an:Hid (IS n S w E w2):=av.out.trans (IS.below af.out)
   have al:Hid (w2.heap[w.heap.size]? =some (.map (esM n) 6)):=zbm am.out ar.out (IS.below af.out)
   have HX:=zc (ac.out.trans (ziE hp))
   obtain⟨c0,c1,c2,c3,c4,c5,c6,c7,c8,c9,cf⟩:=zaa H.out.cells
   have aj:=H.out.mem.own.ep
   have aJ:=H.out.mem.inv.ep
   have ak:=H.out.free
   have ae:=zc ak
   clear ak
   have au:=H.out.lt
   rcases H.out.mem.own.la.nil_or with ⟨ha,hc,hn⟩|⟨gl,ha⟩
   ·have HN:=zc (List.eq_nil_of_length_eq_zero hn)
    rw[ha,hc,hn] at c9
    clear ha hc hn
    go_wp2_with fail
    go_region_law (first|(refine ziD rfl (.tmp 41) (.tmp 45) 24 rfl 102 i0 Tryz.underlying24 hi j 4 o.ep.length E.ep _ (by rfl) (by exact aj) (by rfl) ?_))
    all_goals
     go_wp2
     go_end0
     rw[HX.out]
     refine⟨rfl,E,H.out.mem.wholeI0 HN.out ae.out (fun k hk=>zp hk),⟨.slice (some ⟨Y,0,none⟩) C.ts.length D,.int .i64 o.pos,.int .i64 C.fin,.bool C.scr,.slice E.la.a o.la.length E.la.cap,(zas H.out.cells).trans (by simp[HN.out])⟩,?_⟩
     exact (HH.out.back (an.out.set _ _)).drew
   ·have aw:OwnR w2 j 102 4 ⟨some ⟨gl,0,none⟩,E.la.cap⟩ o.la.length (o.la.flatMap epL):=by have:=H.out.mem.own.la;unfold OwnR at this ⊢;rw[ha] at this;exact this
    rw[ha] at c9
    have aA:=H.out.mem.base
    have ax:Hid (some n≠E.ep.blk):=fun e=>ae.out (.inr (.inr (.inl e.symm)))
    go_wp2_with fail
    go_region_law (first|(refine ziC rfl (.tmp 41) (.tmp 45) 24 rfl j 102 i0 _ 4 56 Tryz.underlying24 hi az aD aB rfl (by decide) (by decide) E.ep o.ep.length _ (by rfl) (by exact aj) gl o.la.length E.la.cap j _ (by rfl) (by exact aw) (zfJ _) (by omega) (by exact aA) ?_;intro r' wz hr ap aq;have g2:=(ap.block n (by exact au) ax.out).trans (by exact H.out.cells);obtain⟨d0,d1,d2,d3,d4,d5,d6,d7,d8,d9,df⟩:=zaa g2))
    all_goals
     have HR:=zc hr
     have ah:=zc ap
     have ay:=zc aq
     have al:=zc g2
     clear hr ap aq g2 c0 c1 c2 c3 c4 c5 c6 c7 c8 c9 cf aj aw
     go_wp2
     go_end0
     rw[HX.out]
     refine⟨rfl,{E with ep:=r'},H.out.drew.mem.wholeI ah.out HR.out ay.out au ae.out (fun k hk=>zp hk),⟨.slice (some ⟨Y,0,none⟩) C.ts.length D,.int .i64 o.pos,.int .i64 C.fin,.bool C.scr,.slice E.la.a o.la.length E.la.cap,(zas al.out).trans (by simp)⟩,?_⟩
     exact ((HH.out.back an.out).trans ⟨ah.out.os,ah.out.tape,ah.out.output,ah.out.size,fun k hk=>ah.out.block k (show k<w2.heap.size by omega) (fun e=>by have:=(H.out.mem.own.ep.typed e.symm).1;omega)⟩).setCell H.out.ge _
end Go.Proofs.YticdggnnpjachaaGreat
