/-
  The table of items of impl's parser: what is stored in it,what is looked up.
  What the items of impl's parser read is what the items of the document are. No program is spoken of.
  'append' of a row onto a row of the call's own,as one step of a region that draws its order; a program handed back. No program is spoken of but for the numbers of its types.
  What program of impl's parser answers: the walks.
  What program of impl's parser answers of a module: the walk.
-/
import Derived.Maps.Own
import Derived.Test.YticdggnnpjachaaGreatCcImplParseVToImplParseX
namespace Go.Proofs.YticdggnnpjachaaGreat
set_option maxRecDepth 100000
set_option maxHeartbeats 3200000
open Go.RowKit Go.PlainAid Go.Sort Go.Maps Go.ChangeMaps
def eM (gp:Nat) (k:ByteArray) (f b:Nat):MapEntry:=⟨.string k,.func (.func f) #[.pointer (some ⟨gp,0,none⟩)] #[],b⟩
def esS (gp:Nat):Array MapEntry:=#[eM gp zA 144 0,eM gp zO 145 1,eM gp zap 146 2,eM gp za0 147 3,eM gp zby 148 4]
def esM (gp:Nat):Array MapEntry:=#[eM gp zA 144 0,eM gp zO 145 1,eM gp zap 146 2,eM gp za0 147 3,eM gp zae 149 4,eM gp zad 150 5]
theorem zgl (b:Bool) (k:ByteArray) (W:World):(Instr.checkKey b 10000 9 (.string k)).run Tryz.prog W= .ok () W:=by
 show (Instr.checkKey b (9999+1) 9 (.string k)).run Tryz.prog W= .ok () W
 rw[Instr.checkKey]
 simp[run_underlying Tryz.underlying9]
theorem zgm {k:ByteArray} {h:List MapEntry} {r:Option (Nat×Value)} (j:Instr.findNow .string (.string k) h 0=some r) (W:World):(Instr.findKey 9 (.string k) h).run Tryz.prog W= .ok r W:=by
 simp[Instr.findKey,run_underlying Tryz.underlying9,j]
theorem zcr {W w0:World} {B g c:Nat} {n:Array MapEntry} {k:ByteArray} {v:Value} (j:W.heap[g]? =some (.map n c)) (w:Instr.findNow .string (.string k) n.toList 0=some none) (h:Below B w0 W) (z:B≤g):
  ∃o,(Instr.mapUpdate 126 (.map (some g)) (.string k) v).run Tryz.prog W= .ok () o∧o.heap[g]? =some (.map (n.push ⟨.string k,v,c⟩) (c+1))∧Below B w0 o:=by
 refine⟨setBlock W g (.map (n.push ⟨.string k,v,c⟩) (c+1)),?_,heap_setBlock_same j _,⟨h.os,h.tape,h.output,by simpa [setBlock] using h.size,fun i q=>(heap_setBlock_other j _ (by omega)).trans (h.block i q)⟩⟩
 simp[Instr.mapUpdate,run_underlying Tryz.underlying126,MapKept.run_getObj_map j,zgl,zgm w,MapKept.run_setObj_map _ j,Result.andThen,setBlock]
theorem zcs {W:World} {g c i:Nat} {h:Array MapEntry} {k:ByteArray} {v:Value} (n:W.heap[g]? =some (.map h c)) (j:Instr.findNow .string (.string k) h.toList 0=some (some (i,v))):
  (Instr.lookup 126 (.map (some g)) (.string k) true).run Tryz.prog W= .ok (.tuple #[v,.bool true]) W:=by
 simp[Instr.lookup,run_underlying Tryz.underlying126,MapKept.run_getObj_map n,zgl,zgm j,Result.andThen]
theorem zi6 {W:World} {g c:Nat} {j:Array MapEntry} {k:ByteArray} (o:W.heap[g]? =some (.map j c)) (n:Instr.findNow .string (.string k) j.toList 0=some none):
  ∃v,(Instr.lookup 126 (.map (some g)) (.string k) true).run Tryz.prog W= .ok (.tuple #[v,.bool false]) W:=by
 have h: ∃v,(zeroValue 1).run Tryz.prog W= .ok v W:=⟨.nilFunc,by kernel_rfl⟩
 obtain⟨v,h⟩:=h
 exact⟨v,by simp[Instr.lookup,run_underlying Tryz.underlying126,MapKept.run_getObj_map o,zgl,zgm n,Result.andThen,h]⟩
theorem zns (C:Cx) (Y j o n:Nat) (S:Sv) (q:PS) (w:World) (h:IM C Y j o n S q w) (hs:C.scr=true):
  Calls Tryz.prog 88 #[.pointer (some ⟨n,0,none⟩)] w fun e L=>e= .returned (.map (some w.heap.size))∧L.heap[w.heap.size]? =some (.map (esS n) 5)∧Below w.heap.size w L:=by
 have V:=zc h
 have U:=@run_makeMap Tryz.prog
 have Z: ∀(M:Fn) (first j:Array Value) (w:World),(Instr.makeFunc M first j).run Tryz.prog w= .ok (.func M first j) w:=fun _ _ _ _=>rfl
 obtain⟨W1,r1,I,J⟩:=zcr (k:=zA) (v:=.func (.func 144) #[.pointer (some ⟨n,0,none⟩)] #[]) (heap_alloc_new w (.map #[] 0)) rfl ((Below.refl w.heap.size w).alloc (Nat.le_refl _) _) (Nat.le_refl _)
 obtain⟨W2,r2,N,A⟩:=zcr (k:=zO) (v:=.func (.func 145) #[.pointer (some ⟨n,0,none⟩)] #[]) I rfl J (Nat.le_refl _)
 obtain⟨W3,r3,H,E⟩:=zcr (k:=zap) (v:=.func (.func 146) #[.pointer (some ⟨n,0,none⟩)] #[]) N rfl A (Nat.le_refl _)
 obtain⟨W4,r4,O,z⟩:=zcr (k:=za0) (v:=.func (.func 147) #[.pointer (some ⟨n,0,none⟩)] #[]) H rfl E (Nat.le_refl _)
 obtain⟨W5,r5,K,D⟩:=zcr (k:=zby) (v:=.func (.func 148) #[.pointer (some ⟨n,0,none⟩)] #[]) O rfl z (Nat.le_refl _)
 have G:=zc K
 have B:=zc D
 obtain⟨_,_,_,X,_,_,_,_,_,_,cf⟩:=zaa (V.out.later z).cells
 rw[hs] at X
 clear h I J N A H E O z K D
 go_enter Tryz.func88,Tryz.ntmps88
 go_wp2
 go_ret
 exact⟨rfl,G.out,B.out⟩
theorem znt (h:Nat):Instr.findNow .string (.string zA) (esS h).toList 0=some (some (0,.func (.func 144) #[.pointer (some ⟨h,0,none⟩)] #[])):=by rfl
theorem znu (h:Nat):Instr.findNow .string (.string zO) (esS h).toList 0=some (some (1,.func (.func 145) #[.pointer (some ⟨h,0,none⟩)] #[])):=by rfl
theorem znv (h:Nat):Instr.findNow .string (.string zap) (esS h).toList 0=some (some (2,.func (.func 146) #[.pointer (some ⟨h,0,none⟩)] #[])):=by rfl
theorem znw (h:Nat):Instr.findNow .string (.string za0) (esS h).toList 0=some (some (3,.func (.func 147) #[.pointer (some ⟨h,0,none⟩)] #[])):=by rfl
theorem znx (h:Nat):Instr.findNow .string (.string zby) (esS h).toList 0=some (some (4,.func (.func 148) #[.pointer (some ⟨h,0,none⟩)] #[])):=by rfl
theorem zny (o:Nat) (x:ByteArray) (n:(x==zA)=false) (j:(x==zO)=false) (w:(x==zap)=false) (q:(x==za0)=false) (h:(x==zby)=false):Instr.findNow .string (.string x) (esS o).toList 0=some none:=by
 simp[esS,eM,Instr.findNow,Instr.sameNow,n,j,w,q,h]
theorem znz (C:Cx) (gt j o n:Nat) (S:Sv) (q:PS) (w:World) (h:IM C gt j o n S q w) (hs:C.scr=false):
  Calls Tryz.prog 88 #[.pointer (some ⟨n,0,none⟩)] w fun e M=>e= .returned (.map (some w.heap.size))∧M.heap[w.heap.size]? =some (.map (esM n) 6)∧Below w.heap.size w M:=by
 have Y:=zc h
 have X:=@run_makeMap Tryz.prog
 have aa: ∀(N:Fn) (first j:Array Value) (w:World),(Instr.makeFunc N first j).run Tryz.prog w= .ok (.func N first j) w:=fun _ _ _ _=>rfl
 obtain⟨W1,r1,J,K⟩:=zcr (k:=zA) (v:=.func (.func 144) #[.pointer (some ⟨n,0,none⟩)] #[]) (heap_alloc_new w (.map #[] 0)) rfl ((Below.refl w.heap.size w).alloc (Nat.le_refl _) _) (Nat.le_refl _)
 obtain⟨W2,r2,O,A⟩:=zcr (k:=zO) (v:=.func (.func 145) #[.pointer (some ⟨n,0,none⟩)] #[]) J rfl K (Nat.le_refl _)
 obtain⟨W3,r3,I,H⟩:=zcr (k:=zap) (v:=.func (.func 146) #[.pointer (some ⟨n,0,none⟩)] #[]) O rfl A (Nat.le_refl _)
 obtain⟨W4,r4,U,z⟩:=zcr (k:=za0) (v:=.func (.func 147) #[.pointer (some ⟨n,0,none⟩)] #[]) I rfl H (Nat.le_refl _)
 obtain⟨W5,r5,L,D⟩:=zcr (k:=zae) (v:=.func (.func 149) #[.pointer (some ⟨n,0,none⟩)] #[]) U rfl z (Nat.le_refl _)
 obtain⟨W6,r6,E,V⟩:=zcr (k:=zad) (v:=.func (.func 150) #[.pointer (some ⟨n,0,none⟩)] #[]) L rfl D (Nat.le_refl _)
 have G:=zc E
 have B:=zc V
 obtain⟨_,_,_,Z,_,_,_,_,_,_,cf⟩:=zaa (Y.out.later z).cells
 rw[hs] at Z
 clear h J K O A I H U z L D E V
 go_enter Tryz.func88,Tryz.ntmps88
 go_wp2
 go_ret
 exact⟨rfl,G.out,B.out⟩
theorem zn0 (h:Nat):Instr.findNow .string (.string zA) (esM h).toList 0=some (some (0,.func (.func 144) #[.pointer (some ⟨h,0,none⟩)] #[])):=by rfl
theorem zn1 (h:Nat):Instr.findNow .string (.string zO) (esM h).toList 0=some (some (1,.func (.func 145) #[.pointer (some ⟨h,0,none⟩)] #[])):=by rfl
theorem zn2 (h:Nat):Instr.findNow .string (.string zap) (esM h).toList 0=some (some (2,.func (.func 146) #[.pointer (some ⟨h,0,none⟩)] #[])):=by rfl
theorem zn3 (h:Nat):Instr.findNow .string (.string za0) (esM h).toList 0=some (some (3,.func (.func 147) #[.pointer (some ⟨h,0,none⟩)] #[])):=by rfl
theorem zn4 (h:Nat):Instr.findNow .string (.string zae) (esM h).toList 0=some (some (4,.func (.func 149) #[.pointer (some ⟨h,0,none⟩)] #[])):=by rfl
theorem zn5 (h:Nat):Instr.findNow .string (.string zad) (esM h).toList 0=some (some (5,.func (.func 150) #[.pointer (some ⟨h,0,none⟩)] #[])):=by rfl
theorem zn6 (o:Nat) (x:ByteArray) (n:(x==zA)=false) (j:(x==zO)=false) (z:(x==zap)=false) (q:(x==za0)=false) (h:(x==zae)=false) (w:(x==zad)=false):Instr.findNow .string (.string x) (esM o).toList 0=some none:=by
 simp[esM,eM,Instr.findNow,Instr.sameNow,n,j,z,q,h,w]
def za3 (C:Cx) (q:PS):PR:=
 if isT C q.pos 1 zA then letJ C 1 (adv q)
 else if isT C q.pos 1 zO then fnI C (adv q)
 else if isT C q.pos 1 zap then printI C (adv q)
 else if isT C q.pos 1 za0 then stmtI C 5 sNone cSemi (adv q)
 else if C.scr&&isT C q.pos 1 zby then stmtI C 6 sNone cSemi (adv q)
 else if !C.scr&&isT C q.pos 1 zae then zaE C (adv q)
 else if !C.scr&&isT C q.pos 1 zad then zan C (adv q)
 else letJ C 3 q
theorem zn7 (C:Cx) (k:Int) (n:ByteArray) (q:PS):stmtI C k n cSemi q=bd (bd (bd (pE C .sum 0 q) (zd C 4 cSemi)) (zX C k n)) .ok:=by
 rw[zdK,zK,stmtI]
 refine zZ fun a _=>?_
 rw[show za6 C cSemi cSemi.size 0 a=zd C 4 cSemi a from zhm C 59 a]
theorem zdS (C:Cx) (k:Int) (n:ByteArray) (q:PS):bd (bd (pE C .sum 0 q) (zd C 4 cSemi)) (zX C k n)=stmtI C k n cSemi q:=by rw[zn7,zdK]
theorem zn8 (C:Cx) (k:Int) (n:ByteArray) (q:PS):bd (bd (bd (pE C .sum 0 q) (zd C 4 zay)) (zd C 4 cSemi)) (zX C k n)=stmtI C k n cShutSemi q:=by
 rw[zK,zK,stmtI]
 refine zZ fun a _=>?_
 rw[show za6 C cShutSemi cShutSemi.size 0 a=bd (zd C 4 zay a) (zd C 4 cSemi) from zhn C 41 59 a,zK]
theorem zn9 (C:Cx) (k:Int) (n:ByteArray) (q:PS):bd (bd (bd (pE C .sum 0 q) (zd C 4 cSemi)) (zd C 4 zbd)) (zX C k n)=stmtI C k n cSemiRight q:=by
 rw[zK,zK,stmtI]
 refine zZ fun a _=>?_
 rw[show za6 C cSemiRight cSemiRight.size 0 a=bd (zd C 4 cSemi a) (zd C 4 zbd) from zhn C 59 125 a,zK]
theorem zi7 {C:Cx} {q:PS} (h:isT C q.pos 1 zA=true):zcm C q=bd (letJ C 1 (adv q)) fun a=>.ok (a,(ze C (q.pos+1)).text):=by
 rw[zcm,withN,zb9 h,zx,letJ,zK]
 refine zZ fun a j=>?_
 rw[zK,zx,zK,zK,zK]
 refine zZ fun b _=>?_
 rw[←zK,←zK,zdS,(zbe j).1]
 rfl
theorem zi8 {C:Cx} {q:PS} (h:isT C q.pos 1 zO=true):fnP C q=bd (fnI C (adv q)) fun a=>.ok (a,(ze C (q.pos+1)).text):=by
 rw[fnP,withN,zb9 h,zx,fnI,zK]
 refine zZ fun a j=>?_
 rw[show za6 C cCall cCall.size 0 a.1=bd (zd C 4 zm a.1) fun a=>bd (zd C 4 zay a) (zd C 4 zF) from zkB C 40 41 123 a.1,zK,zK,zx]
 rw[(zbe j).1]
 simp only[zK,←zn9]
 rfl
theorem zi9 (x:PR) (n:ByteArray):zaG (bd x fun a=>.ok (a,n))=x:=by rw[zaG,zK];exact zdK x
theorem zgn (C:Cx) (l:List Ep) (q:PS):impFromI C l q=bd (zaQ C (zaA C (.ok q))) fun b=>zR (fun e=>zao C (zb8 b.2 e)) l (.ok b.1):=by
 rw[impFromI,zaQ,zaA,zx,zK,zK]
 refine zZ fun a _=>zZ fun b _=>?_
 rw[zK]
 rfl
theorem znA {C:Cx} {q:PS} (h:isT C q.pos 1 zae=true):zaK C q=zaE C (adv q):=by
 rw[zaK,zb9 h,zx,zaE]
 cases o:isT C (adv q).pos 4 zF with
 |true=>
  have j:((ze C (adv q).pos).kind==3)=false:=by
   have:=zfb o
   rw[beq_iff_eq] at this
   rw[this]
   rfl
  rw[j]
  simp only[Bool.false_eq_true,↓reduceIte]
  rw[zcz,zb9 o,zx]
  refine zZ fun a _=>?_
  rw[zgn]
 |false=>
  cases z:isT C (adv q).pos 4 zv with
  |true=>
   have j:((ze C (adv q).pos).kind==3)=false:=by
    have:=zfb z
    rw[beq_iff_eq] at this
    rw[this]
    rfl
   rw[j]
   simp only[Bool.false_eq_true,↓reduceIte]
   rw[zb9 z,zx,zK]
   refine zZ fun a _=>zZ fun b _=>?_
   rw[zgn]
   rfl
  |false=>
   cases w:zB C (adv q).pos false with
   |true=>
    have j:((ze C (adv q).pos).kind==3)=false:=by
     have n:=w
     simp only[zB,Bool.and_eq_true,beq_iff_eq] at n
     rw[n.1]
     rfl
    rw[j]
    simp only[Bool.false_eq_true,↓reduceIte]
    refine zZ fun a _=>?_
    rw[zgn]
    rfl
   |false=>
    cases j:((ze C (adv q).pos).kind==3) with
    |true=>simp only[Bool.false_eq_true,↓reduceIte]
    |false=>
     simp only[Bool.false_eq_true,↓reduceIte]
     rw[zG,j,zh,w]
     rfl
theorem znB (C:Cx) (l:List Ep) (q:PS) (h:isT C q.pos 1 zP=false) (j:za5 l=false):za2 C l q=bd (zd C 4 cSemi q) fun q=>zR (fun e=>zn C (zz e)) l (.ok q):=by rw[za2,h,j];rfl
theorem ziA (C:Cx) (l:List Ep) (q:PS) (h:(isT C q.pos 1 zP||za5 l)=true):za2 C l q=bd (zaQ C (zaA C (.ok q))) fun b=>zR (fun e=>zn C (zal b.2 e)) l (.ok b.1):=by
 rw[za2,h,if_pos rfl,zaQ,zaA,zx,zK,zK]
 refine zZ fun a _=>zZ fun b _=>?_
 rw[zK]
 rfl
theorem znC {C:Cx} {q:PS} (h:isT C q.pos 1 zad=true):zaf C q=zan C (adv q):=by
 rw[zaf,zb9 h,zx,zan]
 cases w:isT C (adv q).pos 4 zF with
 |true=>
  simp only[↓reduceIte]
  rw[zcz,zb9 w,zx]
  refine zZ fun a _=>?_
  cases n:isT C a.1.pos 1 zP with
  |true=>rw[ziA C a.2 a.1 (by rw[n];rfl),if_neg (by simp)]
  |false=>
   cases j:za5 a.2 with
   |true=>rw[ziA C a.2 a.1 (by rw[j];simp),if_neg (by simp)]
   |false=>rw[znB C a.2 a.1 n j,if_pos (by simp)]
 |false=>
  cases D:isT C (adv q).pos 4 zv with
  |true=>
   simp only[Bool.false_eq_true,↓reduceIte]
   rw[zb9 D,zaQ,zaA,zx,zK,zK]
   refine zZ fun a _=>zZ fun b _=>?_
   rw[zK]
   rfl
  |false=>
   cases z:isT C (adv q).pos 1 sDefault with
   |true=>
    simp only[Bool.false_eq_true,↓reduceIte]
    rw[zb9 z,zx,zdS]
   |false=>
    cases o:isT C (adv q).pos 1 zA with
    |true=>
     simp only[Bool.false_eq_true,↓reduceIte]
     rw[zi7 o,zK]
     rfl
    |false=>
     cases A:isT C (adv q).pos 1 zO with
     |true=>
      simp only[Bool.false_eq_true,↓reduceIte]
      rw[zi8 A,zK]
      rfl
     |false=>simp only[Bool.false_eq_true,↓reduceIte]
theorem zcY {C:Cx} {i:Nat} {x y:ByteArray} (h:isT C i 1 x=true) (j:(x.toList==y.toList)=false):isT C i 1 y=false:=by
 have e:=zfT h
 rw[isT,e,j]
 simp
theorem ziB (C:Cx) (q:PS):za3 C q=zy C q:=by
 rw[za3,zy]
 cases j:isT C q.pos 1 zA with
 |true=>
  rw[zcY j (y:=zae) (by simp),zcY j (y:=zad) (by simp)]
  simp only[Bool.false_eq_true,↓reduceIte,Bool.and_false]
  rw[zi7 j,zi9]
 |false=>
  cases o:isT C q.pos 1 zO with
  |true=>
   rw[zcY o (y:=zae) (by simp),zcY o (y:=zad) (by simp)]
   simp only[Bool.false_eq_true,↓reduceIte,Bool.and_false]
   rw[zi8 o,zi9]
  |false=>
   cases n:isT C q.pos 1 zap with
   |true=>
    rw[zcY n (y:=zae) (by simp),zcY n (y:=zad) (by simp)]
    simp only[Bool.false_eq_true,↓reduceIte,Bool.and_false]
    rw[zb9 n,zx,printI,zK,zK,zK]
    refine zZ fun a _=>?_
    rw[←zn8,zK,zK]
   |false=>
    cases h:isT C q.pos 1 za0 with
    |true=>
     rw[zcY h (y:=zae) (by simp),zcY h (y:=zad) (by simp)]
     simp only[Bool.false_eq_true,↓reduceIte,Bool.and_false]
     rw[zb9 h,zx,zdS]
    |false=>
     cases D:C.scr with
     |true=>
      cases A:isT C q.pos 1 zby with
      |true=>
       simp only[Bool.false_eq_true,↓reduceIte,Bool.not_true,Bool.false_and,Bool.and_self]
       rw[zb9 A,zx,zdS]
      |false=>
       simp only[Bool.false_eq_true,↓reduceIte,Bool.not_true,Bool.false_and,Bool.and_false]
       rw[letJ]
       refine zZ fun a _=>?_
       rw[zK,zK]
       refine zZ fun b _=>?_
       rw[←zK,zdS]
     |false=>
      cases z:isT C q.pos 1 zae with
      |true=>
       simp only[Bool.false_eq_true,↓reduceIte,Bool.not_false,Bool.false_and,Bool.and_self]
       rw[znA z]
      |false=>
       cases w:isT C q.pos 1 zad with
       |true=>
        simp only[Bool.false_eq_true,↓reduceIte,Bool.not_false,Bool.false_and,Bool.and_self,Bool.and_false]
        rw[znC w]
       |false=>
        simp only[Bool.false_eq_true,↓reduceIte,Bool.not_false,Bool.false_and,Bool.and_false]
        rw[letJ]
        refine zZ fun a _=>?_
        rw[zK,zK]
        refine zZ fun b _=>?_
        rw[←zK,zdS]
theorem ziC {P:Program} {V:Array Oper} {o:Oper} {a:Act} {W:World} {K:Act→World→Prop} {Q:Exit→Act→World→Prop} {E:Prop} (aa:o.guard=none) (s x:Operand) (t:TypeId)
  (ho:o.op= .call {callee:=.builtin .append,args:=#[s,x],argTypes:=#[t,t]})
  (A:Nat) (e:TypeId) (i:TypeInfo) (z:Value) (size q:Nat) (ht:P.underlying t=some (.slice e)) (hi:P.info? e=some i) (hz:i.zero=some z) (I:i.size=size) (ac:i.bytes=q) (ae:z.cells.size=size) (Z:0<size) (M:q≤100)
  (r:Rw) (n:Nat) (xs:List Value) (hs:a.eval s= .slice r.a n r.cap) (O:OwnR W A e size r n xs)
  (U m c J:Nat) (w:List Value) (hx:a.eval x= .slice (some ⟨U,0,none⟩) m c) (hg:OwnR W J e size ⟨some ⟨U,0,none⟩,c⟩ m w) (h1: ∀u∈w,u.oneCell'=true) (hn:n+m≤1000000) (H:A≤W.heap.size)
  (h: ∀N L,OwnR L A e size N (n+m) (xs++w)→W.grownBy L r.blk→(N.blk=r.blk∨N.blk=some W.heap.size)→K (a.put o.dst (.slice N.a (n+m:Nat) N.cap)) L):
  if Region.wanted o (yielded V a.tmps)=true then Oper.wp P o a W K Q else E:=by
 have hw:Region.wanted o (yielded V a.tmps)=true:=by simp[Region.wanted,aa]
 rw[if_pos hw]
 obtain⟨v',L,hr,Y,h3,_,h5⟩:=run_append_own_at (P:=P) W A t o.type e i z size q ht hi hz I ac ae Z _ n xs O ⟨U,0,none⟩ m c w hg.1 (by
  intro j u hj
  have e1:(⟨U,0,none⟩:Addr).add j=⟨U,j,none⟩:=by simp[Addr.add];exact fun h=>h.symm
  have ad:j<w.length:=(List.getElem?_eq_some_iff.1 hj).1
  rw[e1,World.ownsRow.cellAt hg j (by rw[←hg.1];exact ad)]
  exact hj) h1 (by unfold maxLen;omega) (by have:(n+m)*q≤1000000*100:=Nat.mul_le_mul hn M;omega) H
 unfold Oper.wp execOp
 simp only[ho,resolve,invoke,builtin,Sem.run_bind,Sem.run_pure,Result.andThen_ok,List.map_toArray,List.map_cons,List.map_nil,hs,hx,hr]
 rcases Y.2 with ⟨hv,X⟩|⟨g',D,af,rfl,ab⟩
 ·subst hv
  have:=h ⟨none,0⟩ L (by rw[X] at Y ⊢;exact Y) (by rw[←zbh r n];exact h3) (by rw[←zbh r n];exact h5)
  rw[X] at this
  exact this
 ·refine h ⟨some ⟨g',0,none⟩,D⟩ L Y ?_ ?_
  ·rw[←zbh r n];exact h3
  ·rw[←zbh r n,←zbh ⟨some ⟨g',0,none⟩,D⟩ (n+m)];exact h5
theorem ziD {P:Program} {q:Array Oper} {o:Oper} {a:Act} {W:World} {K:Act→World→Prop} {Q:Exit→Act→World→Prop} {E:Prop} (z:o.guard=none) (s x:Operand) (t:TypeId)
  (J:o.op= .call {callee:=.builtin .append,args:=#[s,x],argTypes:=#[t,t]})
  (e:TypeId) (i:TypeInfo) (H:P.underlying t=some (.slice e)) (D:P.info? e=some i) (j size n:Nat)
  (r:Rw) (xs:List Value) (N:a.eval s= .slice r.a n r.cap) (w:OwnR W j e size r n xs) (I:a.eval x= .slice none 0 0)
  (h:K (a.put o.dst (.slice r.a n r.cap)) W):if Region.wanted o (yielded q a.tmps)=true then Oper.wp P o a W K Q else E:=by
 have U:Region.wanted o (yielded q a.tmps)=true:=by simp[Region.wanted,z]
 rw[if_pos U]
 have V:(Builtin.append_ #[t,t] o.type #[.slice r.a n r.cap,.slice none 0 0]).run P W= .ok (.slice r.a n r.cap) W:=by
  rcases w.2 with ⟨A,_⟩|⟨g,M,O,A,_,_,L,_⟩
  ·rw[A]
   simp[Builtin.append_,run_underlying H,sizeOf,typeInfo,D,Builtin.lenOf,Builtin.firstCells]
  ·rw[A]
   simp[Builtin.append_,run_underlying H,sizeOf,typeInfo,D,Builtin.lenOf,Builtin.firstCells,loadCells,L,storeCells]
 unfold Oper.wp execOp
 simp only[J,resolve,invoke,builtin,Sem.run_bind,Sem.run_pure,Result.andThen_ok,List.map_toArray,List.map_cons,List.map_nil,N,I,V]
 exact h
theorem Mem.wholeI {C:Cx} {V I j b:Nat} {S:Sv} {q:PS} {W L K:World} {D:Rw} (z:Mem C V I j S q W) (X:W.grownBy L S.ep.blk) (O:OwnR L j 102 4 D (q.ep.length+q.la.length) (q.ep.flatMap epL++q.la.flatMap epL)) (H:D.blk=S.ep.blk∨D.blk=some W.heap.size) (hb:b<W.heap.size) (w: ¬S.has b)
  (N: ∀k,k≠b→K.heap[k]? =L.heap[k]?):OwnMod K j {S with ep:=D} q:=by
 have A:(q.ep++q.la).length=q.ep.length+q.la.length:=by simp
 have E: ∀(r:Rw) (e:TypeId) (o n:Nat) (M:List Value),OwnR W j e o r n M→e≠102→(∀k,r.blk=some k→S.has k)→OwnR K j e o r n M:=fun r e o n M h U Y=>
  h.keep fun k g=>(N k (fun J=>w (by rw[←J];exact Y k g))).trans (X.block k (h.typed g).2.1 fun Z=>(h.ne z.own.ep U g) Z.symm)
 refine⟨E _ _ _ _ _ z.own.rq (by decide) fun k g=>.inl g,E _ _ _ _ _ z.own.im (by decide) fun k g=>.inr (.inl g),?_,E _ _ _ _ _ z.own.st (by decide) fun k g=>.inr (.inr (.inr (.inl g))),E _ _ _ _ _ z.own.ex (by decide) fun k g=>.inr (.inr (.inr (.inr (.inl g)))),z.inv.rq,z.inv.im,z.inv.ep,z.inv.st,z.inv.ex⟩
 rw[A,List.flatMap_append]
 refine O.keep fun k g=>N k ?_
 rcases H with e|e
 ·intro J
  exact w (by rw[←J];exact .inr (.inr (.inl (by rw[←e];exact g))))
 ·have:W.heap.size=k:=Option.some.inj (e.symm.trans g)
  omega
theorem Mem.wholeI0 {C:Cx} {M E j b:Nat} {S:Sv} {q:PS} {W H:World} (w:Mem C M E j S q W) (K:q.la=[]) (z: ¬S.has b)
  (L: ∀k,k≠b→H.heap[k]? =W.heap[k]?):OwnMod H j S q:=by
 have A: ∀(r:Rw) (e:TypeId) (o n:Nat) (D:List Value),OwnR W j e o r n D→(∀k,r.blk=some k→S.has k)→OwnR H j e o r n D:=fun r e o n D h J=>
  h.keep fun k g=>L k (fun I=>z (by rw[←I];exact J k g))
 refine⟨A _ _ _ _ _ w.own.rq fun k g=>.inl g,A _ _ _ _ _ w.own.im fun k g=>.inr (.inl g),?_,A _ _ _ _ _ w.own.st fun k g=>.inr (.inr (.inr (.inl g))),A _ _ _ _ _ w.own.ex fun k g=>.inr (.inr (.inr (.inr (.inl g)))),w.inv.rq,w.inv.im,w.inv.ep,w.inv.st,w.inv.ex⟩
 rw[K,List.append_nil]
 exact A _ _ _ _ _ w.own.ep fun k g=>.inr (.inr (.inl g))
theorem zct {C:Cx} {i:Nat} {k:ByteArray} (h:isT C i 1 k=true):zcg C i=k:=by
 rw[zcg,zfb h,zfT h]
 rfl
theorem zcu {C:Cx} {i:Nat} {k:ByteArray} (h:isT C i 1 k=false) (n:sNone≠k):(zcg C i==k)=false:=by
 rw[Bool.eq_false_iff]
 intro e
 rw[MapKept.bytes_beq] at e
 cases j:((ze C i).kind==1) with
 |false=>
  rw[zcg,j] at e
  exact n e
 |true=>
  rw[zcg,j,if_pos rfl] at e
  rw[isT,j,e] at h
  simp at h
theorem zbm {C:Cx} {E o n A g c:Nat} {S D:Sv} {q:PS} {W w:World} {z:Array MapEntry} (h:IM C E o n A S q W) (j:W.heap[g]? =some (.map z c)) (s:IS A S W D w):w.heap[g]? =some (.map z c):=by
 refine (s.block g (Array.getElem?_eq_some_iff.1 j).1 (fun k=>?_) (fun e=>?_)).trans j
 ·rcases k with k|k|k|k|k|k
  ·obtain⟨_,_,c,e⟩:=h.mem.own.rq.typed k
   rw[j] at e;cases e
  ·obtain⟨_,_,c,e⟩:=h.mem.own.im.typed k
   rw[j] at e;cases e
  ·obtain⟨_,_,c,e⟩:=h.mem.own.ep.typed k
   rw[j] at e;cases e
  ·obtain⟨_,_,c,e⟩:=h.mem.own.st.typed k
   rw[j] at e;cases e
  ·obtain⟨_,_,c,e⟩:=h.mem.own.ex.typed k
   rw[j] at e;cases e
  ·obtain⟨_,_,c,e⟩:=h.mem.own.la.typed k
   rw[j] at e;cases e
 ·have:=h.cells
  rw[←e,j] at this
  cases this
theorem zbY {C:Cx} {q:PS} {y:PR} (j:q.pos<C.ts.length) (h:za3 C q=y):zaq C q=bd y (zaq C):=by rw[zeQ,if_pos j,←ziB,h]
theorem ziE {C:Cx} {q:PS} (h: ¬q.pos<C.ts.length):zaq C q= .ok q:=by rw[zeQ,if_neg h]
theorem zbZ {C:Cx} {q a:PS} {y:PR} (j:za3 C q=y) (h:y= .ok a):q.pos<a.pos:=zeP (by rw[←ziB,j,h])
def zgo (base gp:Nat) (y:PR) (w:World) (e:Ending) (w':World):Prop:=
 match y with
 | .ok q=>e= .returned (.tuple #[])∧∃S,OwnMod w' base S q∧(∃v0 v1 v2 v3 v9,w'.heap[gp]? =some (.cells #[v0,v1,v2,v3,.slice S.rq.a q.rq.length S.rq.cap,.slice S.im.a q.im.length S.im.cap,.slice S.ep.a (q.ep++q.la).length S.ep.cap,.slice S.st.a q.st.length S.st.cap,.slice S.ex.a q.ex.length S.ex.cap,v9] 59 (0,0)))∧Below base w w'
 | .error p=>e=Pan p∧Below base w w'
theorem znD (C:Cx) (Y D j n:Nat) (S:Sv) (q:PS) (w:World) (h:IM C Y D j n S q w) (hs:C.scr=true):
  Calls Tryz.prog 24 #[.pointer (some ⟨n,0,none⟩)] w (zgo j n (zaq C q) w):=by
 obtain⟨i0,hi,aC,aE,ay⟩:=info_parts Tryz.infoExp
 have HH:=zc h
 clear h
 go_enter Tryz.func24,Tryz.ntmps24
 go_wp2_with fail
 refine (zns C Y D j n S q _ HH.out hs).mono ?_
 rintro e w1 ⟨rfl,hg,Z⟩
 have aG:Hid (IM C Y D j n S q w1):=HH.out.later Z
 have aF:Hid (IS n S w S w1):=IS.below Z
 have aH:=zc hg
 clear hg Z
 go_wp2
 go_loopg [] (C.ts.length+1) (fun k wr=>∃(E:Sv) (o:PS),zaq C q=zaq C o∧C.ts.length-o.pos<k∧IM C Y D j n E o wr∧IS n S w E wr∧wr.heap[w.heap.size]? =some (.map (esS n) 5))
 case atStart=>exact⟨S,q,rfl,by omega,aG.out,aF.out,aH.out⟩
 case round=>
  obtain⟨E,o,hy,hk,m',s',g'⟩:=hrel
  have ae:=zc hy
  have am:Hid (IM C Y D j n E o wr):=m'
  have ax:Hid (IS n S w E wr):=s'
  have ar:Hid (wr.heap[w.heap.size]? =some (.map (esS n) 5)):=g'
  obtain⟨c0,c1,_,_,_,_,_,_,_,_,_⟩:=zaa m'.cells
  have C0:=zc c0
  have C1:=zc c1
  have aL:=m'.mem.inv.pos
  have aJ:=m'.mem.few
  clear hy m' s' g' c0 c1
  have k0:=cell_regrown C0.out
  have k1:=cell_regrown C1.out
  by_cases hp:o.pos<C.ts.length
  ·have az:((o.pos:Int)<(C.ts.length:Int)):=by omega
   go_wp2_with fail
   refine wp_region_quiet_below (by kernel_rfl) (by kernel_rfl) ?_
   repeat (go_big_quiet_step (fail))
   refine wpQuiet_nil ?_
   intro w2 ap
   obtain⟨⟨dq,aB⟩,ab⟩:=ap
   have ag:Hid (Below wr.heap.size wr w2):=by show Below _ _ _;rw[ab];exact below_regrown _ _ _
   clear ab k0 k1 C0 C1
   have H:Hid (IM C Y D j n E o w2):=am.out.later ag.out
   have an:Hid (IS n S w E w2):=ax.out.trans (IS.below ag.out)
   have ao:Hid (w2.heap[w.heap.size]? =some (.map (esS n) 5)):=zbm am.out ar.out (IS.below ag.out)
   go_wp2_with fail
   refine (zhv C Y D j n E o _ H.out).mono ?_
   rintro e w3 ⟨rfl,Z⟩
   have ac:Hid (IM C Y D j n E o w3):=H.out.later Z
   have af:Hid (IS n S w E w3):=an.out.trans (IS.below Z)
   have L:Hid (w3.heap[w.heap.size]? =some (.map (esS n) 5)):=zbm H.out ao.out (IS.below Z)
   clear Z
   have aj:w.heap.size≠n:=by have:=HH.out.lt;omega
   obtain⟨c0,c1,c2,c3,c4,c5,c6,c7,c8,c9,cf⟩:=zaa ac.out.cells
   cases t0:isT C o.pos 1 zA with
   |true=>
    have z:za3 C o=letJ C 1 (adv o):=by rw[za3,t0];rfl
    have HZ:=zc (ae.out.trans (zbY hp z))
    have X:=zc z
    clear z
    rw[zct t0]
    have ak:=zcs L.out (znt n)
    go_wp2_with fail
    have K:Hid (IM C Y D j n E (adv o) (w3.setCell ⟨n,1,none⟩ (.int .i64 ((o.pos:Int)+1)))):=ac.out.adv hp
    have I:Hid (IS n S w E (w3.setCell ⟨n,1,none⟩ (.int .i64 ((o.pos:Int)+1)))):=af.out.set _ _
    have aa:Hid ((w3.setCell ⟨n,1,none⟩ (.int .i64 ((o.pos:Int)+1))).heap[w.heap.size]? =some (.map (esS n) 5)):=(zp aj).trans L.out
    refine (zfV C Y D j n E (adv o) _ K.out).mono ?_
    cases A:letJ C 1 (adv o) with
    |error p=>
     rintro e J ⟨rfl,Z⟩
     have HB:Hid (Below j w J):=(HH.out.back I.out).trans Z
     have HX:Hid (zaq C q= .error p):=bdE HZ.out A
     unfold Pan
     go_wp2
     refine⟨rfl,?_⟩
     rw[HX.out]
     exact⟨rfl,HB.out⟩
    |ok a5=>
     rintro e J ⟨rfl,S5,m,s⟩
     have M:Hid (J.heap[w.heap.size]? =some (.map (esS n) 5)):=zbm K.out aa.out s
     have V:=zc m
     have O:Hid (IS n S w S5 J):=I.out.trans s
     clear m s
     have U:=zc (bdO HZ.out A)
     have N:=zc (zbZ X.out A)
     go_wp2
     go_roundg (gk-1)
     case rel=>exact⟨S5,a5,U.out,by have:=N.out;omega,V.out,O.out,M.out⟩
     case measure=>omega
   |false=>
    cases t1:isT C o.pos 1 zO with
    |true=>
     have z:za3 C o=fnI C (adv o):=by rw[za3,t0,t1];simp only[Bool.false_eq_true,↓reduceIte]
     have HZ:=zc (ae.out.trans (zbY hp z))
     have X:=zc z
     clear z
     rw[zct t1]
     have ak:=zcs L.out (znu n)
     go_wp2_with fail
     have K:Hid (IM C Y D j n E (adv o) (w3.setCell ⟨n,1,none⟩ (.int .i64 ((o.pos:Int)+1)))):=ac.out.adv hp
     have I:Hid (IS n S w E (w3.setCell ⟨n,1,none⟩ (.int .i64 ((o.pos:Int)+1)))):=af.out.set _ _
     have aa:Hid ((w3.setCell ⟨n,1,none⟩ (.int .i64 ((o.pos:Int)+1))).heap[w.heap.size]? =some (.map (esS n) 5)):=(zp aj).trans L.out
     refine (zfW C Y D j n E (adv o) _ K.out).mono ?_
     cases A:fnI C (adv o) with
     |error p=>
      rintro e J ⟨rfl,Z⟩
      have HB:Hid (Below j w J):=(HH.out.back I.out).trans Z
      have HX:Hid (zaq C q= .error p):=bdE HZ.out A
      unfold Pan
      go_wp2
      refine⟨rfl,?_⟩
      rw[HX.out]
      exact⟨rfl,HB.out⟩
     |ok a5=>
      rintro e J ⟨rfl,S5,m,s⟩
      have M:Hid (J.heap[w.heap.size]? =some (.map (esS n) 5)):=zbm K.out aa.out s
      have V:=zc m
      have O:Hid (IS n S w S5 J):=I.out.trans s
      clear m s
      have U:=zc (bdO HZ.out A)
      have N:=zc (zbZ X.out A)
      go_wp2
      go_roundg (gk-1)
      case rel=>exact⟨S5,a5,U.out,by have:=N.out;omega,V.out,O.out,M.out⟩
      case measure=>omega
    |false=>
     cases t2:isT C o.pos 1 zap with
     |true=>
      have z:za3 C o=printI C (adv o):=by rw[za3,t0,t1,t2];simp only[Bool.false_eq_true,↓reduceIte]
      have HZ:=zc (ae.out.trans (zbY hp z))
      have X:=zc z
      clear z
      rw[zct t2]
      have ak:=zcs L.out (znv n)
      go_wp2_with fail
      have K:Hid (IM C Y D j n E (adv o) (w3.setCell ⟨n,1,none⟩ (.int .i64 ((o.pos:Int)+1)))):=ac.out.adv hp
      have I:Hid (IS n S w E (w3.setCell ⟨n,1,none⟩ (.int .i64 ((o.pos:Int)+1)))):=af.out.set _ _
      have aa:Hid ((w3.setCell ⟨n,1,none⟩ (.int .i64 ((o.pos:Int)+1))).heap[w.heap.size]? =some (.map (esS n) 5)):=(zp aj).trans L.out
      refine (zht C Y D j n E (adv o) _ K.out).mono ?_
      cases A:printI C (adv o) with
      |error p=>
       rintro e J ⟨rfl,Z⟩
       have HB:Hid (Below j w J):=(HH.out.back I.out).trans Z
       have HX:Hid (zaq C q= .error p):=bdE HZ.out A
       unfold Pan
       go_wp2
       refine⟨rfl,?_⟩
       rw[HX.out]
       exact⟨rfl,HB.out⟩
      |ok a5=>
       rintro e J ⟨rfl,S5,m,s⟩
       have M:Hid (J.heap[w.heap.size]? =some (.map (esS n) 5)):=zbm K.out aa.out s
       have V:=zc m
       have O:Hid (IS n S w S5 J):=I.out.trans s
       clear m s
       have U:=zc (bdO HZ.out A)
       have N:=zc (zbZ X.out A)
       go_wp2
       go_roundg (gk-1)
       case rel=>exact⟨S5,a5,U.out,by have:=N.out;omega,V.out,O.out,M.out⟩
       case measure=>omega
     |false=>
      cases t3:isT C o.pos 1 za0 with
      |true=>
       have z:za3 C o=stmtI C 5 sNone cSemi (adv o):=by rw[za3,t0,t1,t2,t3];simp only[Bool.false_eq_true,↓reduceIte]
       have HZ:=zc (ae.out.trans (zbY hp z))
       have X:=zc z
       clear z
       rw[zct t3]
       have ak:=zcs L.out (znw n)
       go_wp2_with fail
       have K:Hid (IM C Y D j n E (adv o) (w3.setCell ⟨n,1,none⟩ (.int .i64 ((o.pos:Int)+1)))):=ac.out.adv hp
       have I:Hid (IS n S w E (w3.setCell ⟨n,1,none⟩ (.int .i64 ((o.pos:Int)+1)))):=af.out.set _ _
       have aa:Hid ((w3.setCell ⟨n,1,none⟩ (.int .i64 ((o.pos:Int)+1))).heap[w.heap.size]? =some (.map (esS n) 5)):=(zp aj).trans L.out
       refine (zhu C Y D j n E (adv o) _ K.out).mono ?_
       cases A:stmtI C 5 sNone cSemi (adv o) with
       |error p=>
        rintro e J ⟨rfl,Z⟩
        have HB:Hid (Below j w J):=(HH.out.back I.out).trans Z
        have HX:Hid (zaq C q= .error p):=bdE HZ.out A
        unfold Pan
        go_wp2
        refine⟨rfl,?_⟩
        rw[HX.out]
        exact⟨rfl,HB.out⟩
       |ok a5=>
        rintro e J ⟨rfl,S5,m,s⟩
        have M:Hid (J.heap[w.heap.size]? =some (.map (esS n) 5)):=zbm K.out aa.out s
        have V:=zc m
        have O:Hid (IS n S w S5 J):=I.out.trans s
        clear m s
        have U:=zc (bdO HZ.out A)
        have N:=zc (zbZ X.out A)
        go_wp2
        go_roundg (gk-1)
        case rel=>exact⟨S5,a5,U.out,by have:=N.out;omega,V.out,O.out,M.out⟩
        case measure=>omega
      |false=>
       cases t4:isT C o.pos 1 zby with
       |true=>
        have z:za3 C o=stmtI C 6 sNone cSemi (adv o):=by rw[za3,t0,t1,t2,t3,t4,hs];simp only[Bool.false_eq_true,↓reduceIte,Bool.and_self]
        have HZ:=zc (ae.out.trans (zbY hp z))
        have X:=zc z
        clear z
        rw[zct t4]
        have ak:=zcs L.out (znx n)
        go_wp2_with fail
        have K:Hid (IM C Y D j n E (adv o) (w3.setCell ⟨n,1,none⟩ (.int .i64 ((o.pos:Int)+1)))):=ac.out.adv hp
        have I:Hid (IS n S w E (w3.setCell ⟨n,1,none⟩ (.int .i64 ((o.pos:Int)+1)))):=af.out.set _ _
        have aa:Hid ((w3.setCell ⟨n,1,none⟩ (.int .i64 ((o.pos:Int)+1))).heap[w.heap.size]? =some (.map (esS n) 5)):=(zp aj).trans L.out
        refine (zkY C Y D j n E (adv o) _ K.out).mono ?_
        cases A:stmtI C 6 sNone cSemi (adv o) with
        |error p=>
         rintro e J ⟨rfl,Z⟩
         have HB:Hid (Below j w J):=(HH.out.back I.out).trans Z
         have HX:Hid (zaq C q= .error p):=bdE HZ.out A
         unfold Pan
         go_wp2
         refine⟨rfl,?_⟩
         rw[HX.out]
         exact⟨rfl,HB.out⟩
        |ok a5=>
         rintro e J ⟨rfl,S5,m,s⟩
         have M:Hid (J.heap[w.heap.size]? =some (.map (esS n) 5)):=zbm K.out aa.out s
         have V:=zc m
         have O:Hid (IS n S w S5 J):=I.out.trans s
         clear m s
         have U:=zc (bdO HZ.out A)
         have N:=zc (zbZ X.out A)
         go_wp2
         go_roundg (gk-1)
         case rel=>exact⟨S5,a5,U.out,by have:=N.out;omega,V.out,O.out,M.out⟩
         case measure=>omega
       |false=>
        have z:za3 C o=letJ C 3 o:=by rw[za3,t0,t1,t2,t3,t4,hs];simp only[Bool.false_eq_true,↓reduceIte,Bool.and_false,Bool.not_true,Bool.false_and]
        have HZ:=zc (ae.out.trans (zbY hp z))
        have X:=zc z
        clear z
        obtain⟨vz,ak⟩:=zi6 L.out (zny n (zcg C o.pos) (zcu t0 (by decide)) (zcu t1 (by decide)) (zcu t2 (by decide)) (zcu t3 (by decide)) (zcu t4 (by decide)))
        go_wp2_with fail
        refine (zhs C Y D j n E o _ ac.out).mono ?_
        cases A:letJ C 3 o with
        |error p=>
         rintro e J ⟨rfl,Z⟩
         have HB:Hid (Below j w J):=(HH.out.back af.out).trans Z
         have HX:Hid (zaq C q= .error p):=bdE HZ.out A
         unfold Pan
         go_wp2
         refine⟨rfl,?_⟩
         rw[HX.out]
         exact⟨rfl,HB.out⟩
        |ok a5=>
         rintro e J ⟨rfl,S5,m,s⟩
         have M:Hid (J.heap[w.heap.size]? =some (.map (esS n) 5)):=zbm ac.out L.out s
         have V:=zc m
         have O:Hid (IS n S w S5 J):=af.out.trans s
         clear m s
         have U:=zc (bdO HZ.out A)
         have N:=zc (zbZ X.out A)
         go_wp2
         go_roundg (gk-1)
         case rel=>exact⟨S5,a5,U.out,by have:=N.out;omega,V.out,O.out,M.out⟩
         case measure=>omega
  ·have az: ¬((o.pos:Int)<(C.ts.length:Int)):=by omega
   go_wp2_with fail
   refine wp_region_quiet_below (by kernel_rfl) (by kernel_rfl) ?_
   repeat (go_big_quiet_step (fail))
   refine wpQuiet_nil ?_
   intro w2 ap
   obtain⟨⟨dq,aB⟩,ab⟩:=ap
   have ag:Hid (Below wr.heap.size wr w2):=by show Below _ _ _;rw[ab];exact below_regrown _ _ _
   clear ab k0 k1 C0 C1
   have H:Hid (IM C Y D j n E o w2):=am.out.later ag.out
   have an:Hid (IS n S w E w2):=ax.out.trans (IS.below ag.out)
   have ao:Hid (w2.heap[w.heap.size]? =some (.map (esS n) 5)):=zbm am.out ar.out (IS.below ag.out)
   have HX:=zc (ae.out.trans (ziE hp))
   obtain⟨c0,c1,c2,c3,c4,c5,c6,c7,c8,c9,cf⟩:=zaa H.out.cells
   have al:=H.out.mem.own.ep
   have aK:=H.out.mem.inv.ep
   have ai:=H.out.free
   have ad:=zc ai
   clear ai
   have av:=H.out.lt
   rcases H.out.mem.own.la.nil_or with ⟨ha,hc,hn⟩|⟨gl,ha⟩
   ·have HN:=zc (List.eq_nil_of_length_eq_zero hn)
    rw[ha,hc,hn] at c9
    clear ha hc hn
    go_wp2_with fail
    go_region_law (first|(refine ziD rfl (.tmp 41) (.tmp 45) 24 rfl 102 i0 Tryz.underlying24 hi j 4 o.ep.length E.ep _ (by rfl) (by exact al) (by rfl) ?_))
    all_goals
     go_wp2
     go_end0
     rw[HX.out]
     refine⟨rfl,E,H.out.mem.wholeI0 HN.out ad.out (fun k hk=>zp hk),⟨.slice (some ⟨Y,0,none⟩) C.ts.length D,.int .i64 o.pos,.int .i64 C.fin,.bool C.scr,.slice E.la.a o.la.length E.la.cap,(zas H.out.cells).trans (by simp[HN.out])⟩,?_⟩
     exact (HH.out.back (an.out.set _ _)).drew
   ·have au:OwnR w2 j 102 4 ⟨some ⟨gl,0,none⟩,E.la.cap⟩ o.la.length (o.la.flatMap epL):=by have:=H.out.mem.own.la;unfold OwnR at this ⊢;rw[ha] at this;exact this
    rw[ha] at c9
    have aI:=H.out.mem.base
    have aD:Hid (some n≠E.ep.blk):=fun e=>ad.out (.inr (.inr (.inl e.symm)))
    go_wp2_with fail
    go_region_law (first|(refine ziC rfl (.tmp 41) (.tmp 45) 24 rfl j 102 i0 _ 4 56 Tryz.underlying24 hi aC aE ay rfl (by decide) (by decide) E.ep o.ep.length _ (by rfl) (by exact al) gl o.la.length E.la.cap j _ (by rfl) (by exact au) (zfJ _) (by omega) (by exact aI) ?_;intro r' wz hr aq aw;have g2:=(aq.block n (by exact av) aD.out).trans (by exact H.out.cells);obtain⟨d0,d1,d2,d3,d4,d5,d6,d7,d8,d9,df⟩:=zaa g2))
    all_goals
     have HR:=zc hr
     have ah:=zc aq
     have aA:=zc aw
     have ao:=zc g2
     clear hr aq aw g2 c0 c1 c2 c3 c4 c5 c6 c7 c8 c9 cf al au
     go_wp2
     go_end0
     rw[HX.out]
     refine⟨rfl,{E with ep:=r'},H.out.drew.mem.wholeI ah.out HR.out aA.out av ad.out (fun k hk=>zp hk),⟨.slice (some ⟨Y,0,none⟩) C.ts.length D,.int .i64 o.pos,.int .i64 C.fin,.bool C.scr,.slice E.la.a o.la.length E.la.cap,(zas ao.out).trans (by simp)⟩,?_⟩
     exact ((HH.out.back an.out).trans ⟨ah.out.os,ah.out.tape,ah.out.output,ah.out.size,fun k hk=>ah.out.block k (show k<w2.heap.size by omega) (fun e=>by have:=(H.out.mem.own.ep.typed e.symm).1;omega)⟩).setCell H.out.ge _
theorem znE (C:Cx) (Y D j n:Nat) (S:Sv) (q:PS) (w:World) (h:IM C Y D j n S q w) (hC:zaV C) (hs:C.scr=false):
  Calls Tryz.prog 24 #[.pointer (some ⟨n,0,none⟩)] w (zgo j n (zaq C q) w):=by
 obtain⟨i0,hi,aB,aD,ax⟩:=info_parts Tryz.infoExp
 have HH:=zc h
 clear h
 go_enter Tryz.func24,Tryz.ntmps24
 go_wp2_with fail
 refine (znz C Y D j n S q _ HH.out hs).mono ?_
 rintro e w1 ⟨rfl,hg,hb⟩
 have aF:Hid (IM C Y D j n S q w1):=HH.out.later hb
 have aE:Hid (IS n S w S w1):=IS.below hb
 have aG:=zc hg
 clear hg hb
 go_wp2
 go_loopg [] (C.ts.length+1) (fun k wr=>∃(E:Sv) (o:PS),zaq C q=zaq C o∧C.ts.length-o.pos<k∧IM C Y D j n E o wr∧IS n S w E wr∧wr.heap[w.heap.size]? =some (.map (esM n) 6))
 case atStart=>exact⟨S,q,rfl,by omega,aF.out,aE.out,aG.out⟩
 case round=>
  obtain⟨E,o,hy,hk,m',s',g'⟩:=hrel
  have ab:=zc hy
  have al:Hid (IM C Y D j n E o wr):=m'
  have aw:Hid (IS n S w E wr):=s'
  have aq:Hid (wr.heap[w.heap.size]? =some (.map (esM n) 6)):=g'
  obtain⟨c0,c1,_,_,_,_,_,_,_,_,_⟩:=zaa m'.cells
  have C0:=zc c0
  have C1:=zc c1
  have aK:=m'.mem.inv.pos
  have aI:=m'.mem.few
  clear hy m' s' g' c0 c1
  have k0:=cell_regrown C0.out
  have k1:=cell_regrown C1.out
  by_cases hp:o.pos<C.ts.length
  ·have ay:((o.pos:Int)<(C.ts.length:Int)):=by omega
   go_wp2_with fail
   refine wp_region_quiet_below (by kernel_rfl) (by kernel_rfl) ?_
   repeat (go_big_quiet_step (fail))
   refine wpQuiet_nil ?_
   intro w2 ao
   obtain⟨⟨dq,aA⟩,ac⟩:=ao
   have af:Hid (Below wr.heap.size wr w2):=by show Below _ _ _;rw[ac];exact below_regrown _ _ _
   clear ac k0 k1 C0 C1
   have H:Hid (IM C Y D j n E o w2):=al.out.later af.out
   have am:Hid (IS n S w E w2):=aw.out.trans (IS.below af.out)
   have an:Hid (w2.heap[w.heap.size]? =some (.map (esM n) 6)):=zbm al.out aq.out (IS.below af.out)
   go_wp2_with fail
   refine (zhv C Y D j n E o _ H.out).mono ?_
   rintro e w3 ⟨rfl,hb⟩
   have aa:Hid (IM C Y D j n E o w3):=H.out.later hb
   have ad:Hid (IS n S w E w3):=am.out.trans (IS.below hb)
   have L:Hid (w3.heap[w.heap.size]? =some (.map (esM n) 6)):=zbm H.out an.out (IS.below hb)
   clear hb
   have ah:w.heap.size≠n:=by have:=HH.out.lt;omega
   obtain⟨c0,c1,c2,c3,c4,c5,c6,c7,c8,c9,cf⟩:=zaa aa.out.cells
   cases t0:isT C o.pos 1 zA with
   |true=>
    have z:za3 C o=letJ C 1 (adv o):=by rw[za3,t0];rfl
    have HZ:=zc (ab.out.trans (zbY hp z))
    have X:=zc z
    clear z
    rw[zct t0]
    have ai:=zcs L.out (zn0 n)
    go_wp2_with fail
    have J:Hid (IM C Y D j n E (adv o) (w3.setCell ⟨n,1,none⟩ (.int .i64 ((o.pos:Int)+1)))):=aa.out.adv hp
    have I:Hid (IS n S w E (w3.setCell ⟨n,1,none⟩ (.int .i64 ((o.pos:Int)+1)))):=ad.out.set _ _
    have Z:Hid ((w3.setCell ⟨n,1,none⟩ (.int .i64 ((o.pos:Int)+1))).heap[w.heap.size]? =some (.map (esM n) 6)):=(zp ah).trans L.out
    refine (zfV C Y D j n E (adv o) _ J.out).mono ?_
    cases A:letJ C 1 (adv o) with
    |error p=>
     rintro e K ⟨rfl,hb⟩
     have HB:Hid (Below j w K):=(HH.out.back I.out).trans hb
     have HX:Hid (zaq C q= .error p):=bdE HZ.out A
     unfold Pan
     go_wp2
     refine⟨rfl,?_⟩
     rw[HX.out]
     exact⟨rfl,HB.out⟩
    |ok a5=>
     rintro e K ⟨rfl,S5,m,s⟩
     have M:Hid (K.heap[w.heap.size]? =some (.map (esM n) 6)):=zbm J.out Z.out s
     have V:=zc m
     have O:Hid (IS n S w S5 K):=I.out.trans s
     clear m s
     have U:=zc (bdO HZ.out A)
     have N:=zc (zbZ X.out A)
     go_wp2
     go_roundg (gk-1)
     case rel=>exact⟨S5,a5,U.out,by have:=N.out;omega,V.out,O.out,M.out⟩
     case measure=>omega
   |false=>
    cases t1:isT C o.pos 1 zO with
    |true=>
     have z:za3 C o=fnI C (adv o):=by rw[za3,t0,t1];simp only[Bool.false_eq_true,↓reduceIte]
     have HZ:=zc (ab.out.trans (zbY hp z))
     have X:=zc z
     clear z
     rw[zct t1]
     have ai:=zcs L.out (zn1 n)
     go_wp2_with fail
     have J:Hid (IM C Y D j n E (adv o) (w3.setCell ⟨n,1,none⟩ (.int .i64 ((o.pos:Int)+1)))):=aa.out.adv hp
     have I:Hid (IS n S w E (w3.setCell ⟨n,1,none⟩ (.int .i64 ((o.pos:Int)+1)))):=ad.out.set _ _
     have Z:Hid ((w3.setCell ⟨n,1,none⟩ (.int .i64 ((o.pos:Int)+1))).heap[w.heap.size]? =some (.map (esM n) 6)):=(zp ah).trans L.out
     refine (zfW C Y D j n E (adv o) _ J.out).mono ?_
     cases A:fnI C (adv o) with
     |error p=>
      rintro e K ⟨rfl,hb⟩
      have HB:Hid (Below j w K):=(HH.out.back I.out).trans hb
      have HX:Hid (zaq C q= .error p):=bdE HZ.out A
      unfold Pan
      go_wp2
      refine⟨rfl,?_⟩
      rw[HX.out]
      exact⟨rfl,HB.out⟩
     |ok a5=>
      rintro e K ⟨rfl,S5,m,s⟩
      have M:Hid (K.heap[w.heap.size]? =some (.map (esM n) 6)):=zbm J.out Z.out s
      have V:=zc m
      have O:Hid (IS n S w S5 K):=I.out.trans s
      clear m s
      have U:=zc (bdO HZ.out A)
      have N:=zc (zbZ X.out A)
      go_wp2
      go_roundg (gk-1)
      case rel=>exact⟨S5,a5,U.out,by have:=N.out;omega,V.out,O.out,M.out⟩
      case measure=>omega
    |false=>
     cases t2:isT C o.pos 1 zap with
     |true=>
      have z:za3 C o=printI C (adv o):=by rw[za3,t0,t1,t2];simp only[Bool.false_eq_true,↓reduceIte]
      have HZ:=zc (ab.out.trans (zbY hp z))
      have X:=zc z
      clear z
      rw[zct t2]
      have ai:=zcs L.out (zn2 n)
      go_wp2_with fail
      have J:Hid (IM C Y D j n E (adv o) (w3.setCell ⟨n,1,none⟩ (.int .i64 ((o.pos:Int)+1)))):=aa.out.adv hp
      have I:Hid (IS n S w E (w3.setCell ⟨n,1,none⟩ (.int .i64 ((o.pos:Int)+1)))):=ad.out.set _ _
      have Z:Hid ((w3.setCell ⟨n,1,none⟩ (.int .i64 ((o.pos:Int)+1))).heap[w.heap.size]? =some (.map (esM n) 6)):=(zp ah).trans L.out
      refine (zht C Y D j n E (adv o) _ J.out).mono ?_
      cases A:printI C (adv o) with
      |error p=>
       rintro e K ⟨rfl,hb⟩
       have HB:Hid (Below j w K):=(HH.out.back I.out).trans hb
       have HX:Hid (zaq C q= .error p):=bdE HZ.out A
       unfold Pan
       go_wp2
       refine⟨rfl,?_⟩
       rw[HX.out]
       exact⟨rfl,HB.out⟩
      |ok a5=>
       rintro e K ⟨rfl,S5,m,s⟩
       have M:Hid (K.heap[w.heap.size]? =some (.map (esM n) 6)):=zbm J.out Z.out s
       have V:=zc m
       have O:Hid (IS n S w S5 K):=I.out.trans s
       clear m s
       have U:=zc (bdO HZ.out A)
       have N:=zc (zbZ X.out A)
       go_wp2
       go_roundg (gk-1)
       case rel=>exact⟨S5,a5,U.out,by have:=N.out;omega,V.out,O.out,M.out⟩
       case measure=>omega
     |false=>
      cases t3:isT C o.pos 1 za0 with
      |true=>
       have z:za3 C o=stmtI C 5 sNone cSemi (adv o):=by rw[za3,t0,t1,t2,t3];simp only[Bool.false_eq_true,↓reduceIte]
       have HZ:=zc (ab.out.trans (zbY hp z))
       have X:=zc z
       clear z
       rw[zct t3]
       have ai:=zcs L.out (zn3 n)
       go_wp2_with fail
       have J:Hid (IM C Y D j n E (adv o) (w3.setCell ⟨n,1,none⟩ (.int .i64 ((o.pos:Int)+1)))):=aa.out.adv hp
       have I:Hid (IS n S w E (w3.setCell ⟨n,1,none⟩ (.int .i64 ((o.pos:Int)+1)))):=ad.out.set _ _
       have Z:Hid ((w3.setCell ⟨n,1,none⟩ (.int .i64 ((o.pos:Int)+1))).heap[w.heap.size]? =some (.map (esM n) 6)):=(zp ah).trans L.out
       refine (zhu C Y D j n E (adv o) _ J.out).mono ?_
       cases A:stmtI C 5 sNone cSemi (adv o) with
       |error p=>
        rintro e K ⟨rfl,hb⟩
        have HB:Hid (Below j w K):=(HH.out.back I.out).trans hb
        have HX:Hid (zaq C q= .error p):=bdE HZ.out A
        unfold Pan
        go_wp2
        refine⟨rfl,?_⟩
        rw[HX.out]
        exact⟨rfl,HB.out⟩
       |ok a5=>
        rintro e K ⟨rfl,S5,m,s⟩
        have M:Hid (K.heap[w.heap.size]? =some (.map (esM n) 6)):=zbm J.out Z.out s
        have V:=zc m
        have O:Hid (IS n S w S5 K):=I.out.trans s
        clear m s
        have U:=zc (bdO HZ.out A)
        have N:=zc (zbZ X.out A)
        go_wp2
        go_roundg (gk-1)
        case rel=>exact⟨S5,a5,U.out,by have:=N.out;omega,V.out,O.out,M.out⟩
        case measure=>omega
      |false=>
       cases t4:isT C o.pos 1 zae with
       |true=>
        have z:za3 C o=zaE C (adv o):=by rw[za3,t0,t1,t2,t3,t4,hs];simp only[Bool.false_eq_true,↓reduceIte,Bool.false_and,Bool.not_false,Bool.and_self]
        have HZ:=zc (ab.out.trans (zbY hp z))
        have X:=zc z
        clear z
        rw[zct t4]
        have ai:=zcs L.out (zn4 n)
        go_wp2_with fail
        have J:Hid (IM C Y D j n E (adv o) (w3.setCell ⟨n,1,none⟩ (.int .i64 ((o.pos:Int)+1)))):=aa.out.adv hp
        have I:Hid (IS n S w E (w3.setCell ⟨n,1,none⟩ (.int .i64 ((o.pos:Int)+1)))):=ad.out.set _ _
        have Z:Hid ((w3.setCell ⟨n,1,none⟩ (.int .i64 ((o.pos:Int)+1))).heap[w.heap.size]? =some (.map (esM n) 6)):=(zp ah).trans L.out
        refine (zmU C Y D j n E (adv o) _ J.out hC).mono ?_
        cases A:zaE C (adv o) with
        |error p=>
         rintro e K ⟨rfl,hb⟩
         have HB:Hid (Below j w K):=(HH.out.back I.out).trans hb
         have HX:Hid (zaq C q= .error p):=bdE HZ.out A
         unfold Pan
         go_wp2
         refine⟨rfl,?_⟩
         rw[HX.out]
         exact⟨rfl,HB.out⟩
        |ok a5=>
         rintro e K ⟨rfl,S5,m,s⟩
         have M:Hid (K.heap[w.heap.size]? =some (.map (esM n) 6)):=zbm J.out Z.out s
         have V:=zc m
         have O:Hid (IS n S w S5 K):=I.out.trans s
         clear m s
         have U:=zc (bdO HZ.out A)
         have N:=zc (zbZ X.out A)
         go_wp2
         go_roundg (gk-1)
         case rel=>exact⟨S5,a5,U.out,by have:=N.out;omega,V.out,O.out,M.out⟩
         case measure=>omega
       |false=>
        cases t5:isT C o.pos 1 zad with
        |true=>
         have z:za3 C o=zan C (adv o):=by rw[za3,t0,t1,t2,t3,t4,t5,hs];simp only[Bool.false_eq_true,↓reduceIte,Bool.false_and,Bool.not_false,Bool.and_self,Bool.and_false]
         have HZ:=zc (ab.out.trans (zbY hp z))
         have X:=zc z
         clear z
         rw[zct t5]
         have ai:=zcs L.out (zn5 n)
         go_wp2_with fail
         have J:Hid (IM C Y D j n E (adv o) (w3.setCell ⟨n,1,none⟩ (.int .i64 ((o.pos:Int)+1)))):=aa.out.adv hp
         have I:Hid (IS n S w E (w3.setCell ⟨n,1,none⟩ (.int .i64 ((o.pos:Int)+1)))):=ad.out.set _ _
         have Z:Hid ((w3.setCell ⟨n,1,none⟩ (.int .i64 ((o.pos:Int)+1))).heap[w.heap.size]? =some (.map (esM n) 6)):=(zp ah).trans L.out
         refine (znr C Y D j n E (adv o) _ J.out hC).mono ?_
         cases A:zan C (adv o) with
         |error p=>
          rintro e K ⟨rfl,hb⟩
          have HB:Hid (Below j w K):=(HH.out.back I.out).trans hb
          have HX:Hid (zaq C q= .error p):=bdE HZ.out A
          unfold Pan
          go_wp2
          refine⟨rfl,?_⟩
          rw[HX.out]
          exact⟨rfl,HB.out⟩
         |ok a5=>
          rintro e K ⟨rfl,S5,m,s⟩
          have M:Hid (K.heap[w.heap.size]? =some (.map (esM n) 6)):=zbm J.out Z.out s
          have V:=zc m
          have O:Hid (IS n S w S5 K):=I.out.trans s
          clear m s
          have U:=zc (bdO HZ.out A)
          have N:=zc (zbZ X.out A)
          go_wp2
          go_roundg (gk-1)
          case rel=>exact⟨S5,a5,U.out,by have:=N.out;omega,V.out,O.out,M.out⟩
          case measure=>omega
        |false=>
         have z:za3 C o=letJ C 3 o:=by rw[za3,t0,t1,t2,t3,t4,t5,hs];simp only[Bool.false_eq_true,↓reduceIte,Bool.false_and,Bool.not_false,Bool.and_false]
         have HZ:=zc (ab.out.trans (zbY hp z))
         have X:=zc z
         clear z
         obtain⟨vz,ai⟩:=zi6 L.out (zn6 n (zcg C o.pos) (zcu t0 (by decide)) (zcu t1 (by decide)) (zcu t2 (by decide)) (zcu t3 (by decide)) (zcu t4 (by decide)) (zcu t5 (by decide)))
         go_wp2_with fail
         refine (zhs C Y D j n E o _ aa.out).mono ?_
         cases A:letJ C 3 o with
         |error p=>
          rintro e K ⟨rfl,hb⟩
          have HB:Hid (Below j w K):=(HH.out.back ad.out).trans hb
          have HX:Hid (zaq C q= .error p):=bdE HZ.out A
          unfold Pan
          go_wp2
          refine⟨rfl,?_⟩
          rw[HX.out]
          exact⟨rfl,HB.out⟩
         |ok a5=>
          rintro e K ⟨rfl,S5,m,s⟩
          have M:Hid (K.heap[w.heap.size]? =some (.map (esM n) 6)):=zbm aa.out L.out s
          have V:=zc m
          have O:Hid (IS n S w S5 K):=ad.out.trans s
          clear m s
          have U:=zc (bdO HZ.out A)
          have N:=zc (zbZ X.out A)
          go_wp2
          go_roundg (gk-1)
          case rel=>exact⟨S5,a5,U.out,by have:=N.out;omega,V.out,O.out,M.out⟩
          case measure=>omega
  ·have ay: ¬((o.pos:Int)<(C.ts.length:Int)):=by omega
   go_wp2_with fail
   refine wp_region_quiet_below (by kernel_rfl) (by kernel_rfl) ?_
   repeat (go_big_quiet_step (fail))
   refine wpQuiet_nil ?_
   intro w2 ao
   obtain⟨⟨dq,aA⟩,ac⟩:=ao
   have af:Hid (Below wr.heap.size wr w2):=by show Below _ _ _;rw[ac];exact below_regrown _ _ _
   clear ac k0 k1 C0 C1
   have H:Hid (IM C Y D j n E o w2):=al.out.later af.out
   have am:Hid (IS n S w E w2):=aw.out.trans (IS.below af.out)
   have an:Hid (w2.heap[w.heap.size]? =some (.map (esM n) 6)):=zbm al.out aq.out (IS.below af.out)
   have HX:=zc (ab.out.trans (ziE hp))
   obtain⟨c0,c1,c2,c3,c4,c5,c6,c7,c8,c9,cf⟩:=zaa H.out.cells
   have ak:=H.out.mem.own.ep
   have aJ:=H.out.mem.inv.ep
   have aj:=H.out.free
   have ae:=zc aj
   clear aj
   have au:=H.out.lt
   rcases H.out.mem.own.la.nil_or with ⟨ha,hc,hn⟩|⟨gl,ha⟩
   ·have HN:=zc (List.eq_nil_of_length_eq_zero hn)
    rw[ha,hc,hn] at c9
    clear ha hc hn
    go_wp2_with fail
    go_region_law (first|(refine ziD rfl (.tmp 41) (.tmp 45) 24 rfl 102 i0 Tryz.underlying24 hi j 4 o.ep.length E.ep _ (by rfl) (by exact ak) (by rfl) ?_))
    all_goals
     go_wp2
     go_end0
     rw[HX.out]
     refine⟨rfl,E,H.out.mem.wholeI0 HN.out ae.out (fun k hk=>zp hk),⟨.slice (some ⟨Y,0,none⟩) C.ts.length D,.int .i64 o.pos,.int .i64 C.fin,.bool C.scr,.slice E.la.a o.la.length E.la.cap,(zas H.out.cells).trans (by simp[HN.out])⟩,?_⟩
     exact (HH.out.back (am.out.set _ _)).drew
   ·have ar:OwnR w2 j 102 4 ⟨some ⟨gl,0,none⟩,E.la.cap⟩ o.la.length (o.la.flatMap epL):=by have:=H.out.mem.own.la;unfold OwnR at this ⊢;rw[ha] at this;exact this
    rw[ha] at c9
    have aH:=H.out.mem.base
    have aC:Hid (some n≠E.ep.blk):=fun e=>ae.out (.inr (.inr (.inl e.symm)))
    go_wp2_with fail
    go_region_law (first|(refine ziC rfl (.tmp 41) (.tmp 45) 24 rfl j 102 i0 _ 4 56 Tryz.underlying24 hi aB aD ax rfl (by decide) (by decide) E.ep o.ep.length _ (by rfl) (by exact ak) gl o.la.length E.la.cap j _ (by rfl) (by exact ar) (zfJ _) (by omega) (by exact aH) ?_;intro r' wz hr ap av;have g2:=(ap.block n (by exact au) aC.out).trans (by exact H.out.cells);obtain⟨d0,d1,d2,d3,d4,d5,d6,d7,d8,d9,df⟩:=zaa g2))
    all_goals
     have HR:=zc hr
     have ag:=zc ap
     have az:=zc av
     have an:=zc g2
     clear hr ap av g2 c0 c1 c2 c3 c4 c5 c6 c7 c8 c9 cf ak ar
     go_wp2
     go_end0
     rw[HX.out]
     refine⟨rfl,{E with ep:=r'},H.out.drew.mem.wholeI ag.out HR.out az.out au ae.out (fun k hk=>zp hk),⟨.slice (some ⟨Y,0,none⟩) C.ts.length D,.int .i64 o.pos,.int .i64 C.fin,.bool C.scr,.slice E.la.a o.la.length E.la.cap,(zas an.out).trans (by simp)⟩,?_⟩
     exact ((HH.out.back am.out).trans ⟨ag.out.os,ag.out.tape,ag.out.output,ag.out.size,fun k hk=>ag.out.block k (show k<w2.heap.size by omega) (fun e=>by have:=(H.out.mem.own.ep.typed e.symm).1;omega)⟩).setCell H.out.ge _
end Go.Proofs.YticdggnnpjachaaGreat
