/-
  The table of items of impl's parser: what is stored in it,what is looked up.
  What the items of impl's parser read is what the items of the document are. No program is spoken of.
  'append' of a row onto a row of the call's own,as one step of a region that draws its order; a program handed back. No program is spoken of but for the numbers of its types.
  What program of impl's parser answers: the walks.
  What program of impl's parser answers of a module: the walk.
-/
import Derived.Maps.Own
import Derived.Test.YtjdddblpfbmpaaaGreatCoImplParseVToImplParseX
namespace Go.Proofs.YtjdddblpfbmpaaaGreat
set_option maxRecDepth 100000
set_option maxHeartbeats 3200000
open Go.RowKit Go.PlainAid Go.Sort Go.Maps Go.ChangeMaps
def eM (gp:Nat) (k:ByteArray) (f b:Nat):MapEntry:=⟨.string k,.func (.func f) #[.pointer (some ⟨gp,0,none⟩)] #[],b⟩
def esS (gp:Nat):Array MapEntry:=#[eM gp zA 186 0,eM gp zN 187 1,eM gp zao 188 2,eM gp zaz 189 3,eM gp zbv 190 4]
def esM (gp:Nat):Array MapEntry:=#[eM gp zA 186 0,eM gp zN 187 1,eM gp zao 188 2,eM gp zaz 189 3,eM gp zad 191 4,eM gp zab 192 5]
theorem zgi (b:Bool) (k:ByteArray) (W:World):(Instr.checkKey b 10000 9 (.string k)).run Tryz.prog W= .ok () W:=by
 show (Instr.checkKey b (9999+1) 9 (.string k)).run Tryz.prog W= .ok () W
 rw[Instr.checkKey]
 simp[run_underlying Tryz.underlying9]
theorem zgj {k:ByteArray} {h:List MapEntry} {r:Option (Nat×Value)} (j:Instr.findNow .string (.string k) h 0=some r) (W:World):(Instr.findKey 9 (.string k) h).run Tryz.prog W= .ok r W:=by
 simp[Instr.findKey,run_underlying Tryz.underlying9,j]
theorem zco {W w0:World} {B g c:Nat} {j:Array MapEntry} {k:ByteArray} {v:Value} (n:W.heap[g]? =some (.map j c)) (w:Instr.findNow .string (.string k) j.toList 0=some none) (h:Below B w0 W) (A:B≤g):
  ∃q,(Instr.mapUpdate 194 (.map (some g)) (.string k) v).run Tryz.prog W= .ok () q∧q.heap[g]? =some (.map (j.push ⟨.string k,v,c⟩) (c+1))∧Below B w0 q:=by
 refine⟨setBlock W g (.map (j.push ⟨.string k,v,c⟩) (c+1)),?_,heap_setBlock_same n _,⟨h.os,h.tape,h.output,by simpa [setBlock] using h.size,fun i z=>(heap_setBlock_other n _ (by omega)).trans (h.block i z)⟩⟩
 simp[Instr.mapUpdate,run_underlying Tryz.underlying194,MapKept.run_getObj_map n,zgi,zgj w,MapKept.run_setObj_map _ n,Result.andThen,setBlock]
theorem zcp {W:World} {g c i:Nat} {h:Array MapEntry} {k:ByteArray} {v:Value} (j:W.heap[g]? =some (.map h c)) (n:Instr.findNow .string (.string k) h.toList 0=some (some (i,v))):
  (Instr.lookup 194 (.map (some g)) (.string k) true).run Tryz.prog W= .ok (.tuple #[v,.bool true]) W:=by
 simp[Instr.lookup,run_underlying Tryz.underlying194,MapKept.run_getObj_map j,zgi,zgj n,Result.andThen]
theorem zi9 {W:World} {g c:Nat} {j:Array MapEntry} {k:ByteArray} (n:W.heap[g]? =some (.map j c)) (q:Instr.findNow .string (.string k) j.toList 0=some none):
  ∃v,(Instr.lookup 194 (.map (some g)) (.string k) true).run Tryz.prog W= .ok (.tuple #[v,.bool false]) W:=by
 have h: ∃v,(zeroValue 1).run Tryz.prog W= .ok v W:=⟨.nilFunc,by kernel_rfl⟩
 obtain⟨v,h⟩:=h
 exact⟨v,by simp[Instr.lookup,run_underlying Tryz.underlying194,MapKept.run_getObj_map n,zgi,zgj q,Result.andThen,h]⟩
theorem zn2 (C:Cx) (gt j z n:Nat) (S:Sv) (q:PS) (w:World) (h:IM C gt j z n S q w) (Z:C.scr=true):
  Calls Tryz.prog 163 #[.pointer (some ⟨n,0,none⟩)] w fun e H=>e= .returned (.map (some w.heap.size))∧H.heap[w.heap.size]? =some (.map (esS n) 5)∧Below w.heap.size w H:=by
 have HH:=zc h
 have V:=@run_makeMap Tryz.prog
 have X: ∀(M:Fn) (first j:Array Value) (w:World),(Instr.makeFunc M first j).run Tryz.prog w= .ok (.func M first j) w:=fun _ _ _ _=>rfl
 obtain⟨W1,r1,L,D⟩:=zco (k:=zA) (v:=.func (.func 186) #[.pointer (some ⟨n,0,none⟩)] #[]) (heap_alloc_new w (.map #[] 0)) rfl ((Below.refl w.heap.size w).alloc (Nat.le_refl _) _) (Nat.le_refl _)
 obtain⟨W2,r2,J,N⟩:=zco (k:=zN) (v:=.func (.func 187) #[.pointer (some ⟨n,0,none⟩)] #[]) L rfl D (Nat.le_refl _)
 obtain⟨W3,r3,U,I⟩:=zco (k:=zao) (v:=.func (.func 188) #[.pointer (some ⟨n,0,none⟩)] #[]) J rfl N (Nat.le_refl _)
 obtain⟨W4,r4,K,A⟩:=zco (k:=zaz) (v:=.func (.func 189) #[.pointer (some ⟨n,0,none⟩)] #[]) U rfl I (Nat.le_refl _)
 obtain⟨W5,r5,O,E⟩:=zco (k:=zbv) (v:=.func (.func 190) #[.pointer (some ⟨n,0,none⟩)] #[]) K rfl A (Nat.le_refl _)
 have G:=zc O
 have B:=zc E
 obtain⟨_,_,_,Y,_,_,_,_,_,_,cf⟩:=zY (HH.out.later A).cells
 rw[Z] at Y
 clear h L D J N U I K A O E
 go_enter Tryz.func163,Tryz.ntmps163
 go_wp2
 go_ret
 exact⟨rfl,G.out,B.out⟩
theorem zn3 (h:Nat):Instr.findNow .string (.string zA) (esS h).toList 0=some (some (0,.func (.func 186) #[.pointer (some ⟨h,0,none⟩)] #[])):=by rfl
theorem zn4 (h:Nat):Instr.findNow .string (.string zN) (esS h).toList 0=some (some (1,.func (.func 187) #[.pointer (some ⟨h,0,none⟩)] #[])):=by rfl
theorem zn5 (h:Nat):Instr.findNow .string (.string zao) (esS h).toList 0=some (some (2,.func (.func 188) #[.pointer (some ⟨h,0,none⟩)] #[])):=by rfl
theorem zn6 (h:Nat):Instr.findNow .string (.string zaz) (esS h).toList 0=some (some (3,.func (.func 189) #[.pointer (some ⟨h,0,none⟩)] #[])):=by rfl
theorem zn7 (h:Nat):Instr.findNow .string (.string zbv) (esS h).toList 0=some (some (4,.func (.func 190) #[.pointer (some ⟨h,0,none⟩)] #[])):=by rfl
theorem zn8 (h:Nat) (x:ByteArray) (w:(x==zA)=false) (q:(x==zN)=false) (j:(x==zao)=false) (z:(x==zaz)=false) (n:(x==zbv)=false):Instr.findNow .string (.string x) (esS h).toList 0=some none:=by
 simp[esS,eM,Instr.findNow,Instr.sameNow,w,q,j,z,n]
theorem zn9 (C:Cx) (gt n z j:Nat) (S:Sv) (q:PS) (w:World) (h:IM C gt n z j S q w) (hs:C.scr=false):
  Calls Tryz.prog 163 #[.pointer (some ⟨j,0,none⟩)] w fun e I=>e= .returned (.map (some w.heap.size))∧I.heap[w.heap.size]? =some (.map (esM j) 6)∧Below w.heap.size w I:=by
 have HH:=zc h
 have Y:=@run_makeMap Tryz.prog
 have Z: ∀(O:Fn) (first n:Array Value) (w:World),(Instr.makeFunc O first n).run Tryz.prog w= .ok (.func O first n) w:=fun _ _ _ _=>rfl
 obtain⟨W1,r1,N,E⟩:=zco (k:=zA) (v:=.func (.func 186) #[.pointer (some ⟨j,0,none⟩)] #[]) (heap_alloc_new w (.map #[] 0)) rfl ((Below.refl w.heap.size w).alloc (Nat.le_refl _) _) (Nat.le_refl _)
 obtain⟨W2,r2,L,U⟩:=zco (k:=zN) (v:=.func (.func 187) #[.pointer (some ⟨j,0,none⟩)] #[]) N rfl E (Nat.le_refl _)
 obtain⟨W3,r3,X,K⟩:=zco (k:=zao) (v:=.func (.func 188) #[.pointer (some ⟨j,0,none⟩)] #[]) L rfl U (Nat.le_refl _)
 obtain⟨W4,r4,M,A⟩:=zco (k:=zaz) (v:=.func (.func 189) #[.pointer (some ⟨j,0,none⟩)] #[]) X rfl K (Nat.le_refl _)
 obtain⟨W5,r5,V,H⟩:=zco (k:=zad) (v:=.func (.func 191) #[.pointer (some ⟨j,0,none⟩)] #[]) M rfl A (Nat.le_refl _)
 obtain⟨W6,r6,D,J⟩:=zco (k:=zab) (v:=.func (.func 192) #[.pointer (some ⟨j,0,none⟩)] #[]) V rfl H (Nat.le_refl _)
 have G:=zc D
 have B:=zc J
 obtain⟨_,_,_,c3,_,_,_,_,_,_,cf⟩:=zY (HH.out.later A).cells
 rw[hs] at c3
 clear h N E L U X K M A V H D J
 go_enter Tryz.func163,Tryz.ntmps163
 go_wp2
 go_ret
 exact⟨rfl,G.out,B.out⟩
theorem znA (h:Nat):Instr.findNow .string (.string zA) (esM h).toList 0=some (some (0,.func (.func 186) #[.pointer (some ⟨h,0,none⟩)] #[])):=by rfl
theorem znB (h:Nat):Instr.findNow .string (.string zN) (esM h).toList 0=some (some (1,.func (.func 187) #[.pointer (some ⟨h,0,none⟩)] #[])):=by rfl
theorem znC (h:Nat):Instr.findNow .string (.string zao) (esM h).toList 0=some (some (2,.func (.func 188) #[.pointer (some ⟨h,0,none⟩)] #[])):=by rfl
theorem znD (h:Nat):Instr.findNow .string (.string zaz) (esM h).toList 0=some (some (3,.func (.func 189) #[.pointer (some ⟨h,0,none⟩)] #[])):=by rfl
theorem znE (h:Nat):Instr.findNow .string (.string zad) (esM h).toList 0=some (some (4,.func (.func 191) #[.pointer (some ⟨h,0,none⟩)] #[])):=by rfl
theorem znF (h:Nat):Instr.findNow .string (.string zab) (esM h).toList 0=some (some (5,.func (.func 192) #[.pointer (some ⟨h,0,none⟩)] #[])):=by rfl
theorem znG (h:Nat) (x:ByteArray) (z:(x==zA)=false) (q:(x==zN)=false) (j:(x==zao)=false) (A:(x==zaz)=false) (n:(x==zad)=false) (w:(x==zab)=false):Instr.findNow .string (.string x) (esM h).toList 0=some none:=by
 simp[esM,eM,Instr.findNow,Instr.sameNow,z,q,j,A,n,w]
def za2 (C:Cx) (q:PS):PR:=
 if isT C q.pos 1 zA then letJ C 1 (adv q)
 else if isT C q.pos 1 zN then fnI C (adv q)
 else if isT C q.pos 1 zao then printI C (adv q)
 else if isT C q.pos 1 zaz then stmtI C 5 sNone cSemi (adv q)
 else if C.scr&&isT C q.pos 1 zbv then stmtI C 6 sNone cSemi (adv q)
 else if !C.scr&&isT C q.pos 1 zad then zaC C (adv q)
 else if !C.scr&&isT C q.pos 1 zab then zam C (adv q)
 else letJ C 3 q
theorem znH (C:Cx) (k:Int) (n:ByteArray) (q:PS):stmtI C k n cSemi q=bd (bd (bd (pE C .sum 0 q) (zd C 4 cSemi)) (zV C k n)) .ok:=by
 rw[zdH,zJ,stmtI]
 refine zX fun a _=>?_
 rw[show za5 C cSemi cSemi.size 0 a=zd C 4 cSemi a from zhj C 59 a]
theorem zdP (C:Cx) (k:Int) (n:ByteArray) (q:PS):bd (bd (pE C .sum 0 q) (zd C 4 cSemi)) (zV C k n)=stmtI C k n cSemi q:=by rw[znH,zdH]
theorem znI (C:Cx) (k:Int) (n:ByteArray) (q:PS):bd (bd (bd (pE C .sum 0 q) (zd C 4 zaw)) (zd C 4 cSemi)) (zV C k n)=stmtI C k n cShutSemi q:=by
 rw[zJ,zJ,stmtI]
 refine zX fun a _=>?_
 rw[show za5 C cShutSemi cShutSemi.size 0 a=bd (zd C 4 zaw a) (zd C 4 cSemi) from zhk C 41 59 a,zJ]
theorem znJ (C:Cx) (k:Int) (n:ByteArray) (q:PS):bd (bd (bd (pE C .sum 0 q) (zd C 4 cSemi)) (zd C 4 zbb)) (zV C k n)=stmtI C k n cSemiRight q:=by
 rw[zJ,zJ,stmtI]
 refine zX fun a _=>?_
 rw[show za5 C cSemiRight cSemiRight.size 0 a=bd (zd C 4 cSemi a) (zd C 4 zbb) from zhk C 59 125 a,zJ]
theorem ziA {C:Cx} {q:PS} (h:isT C q.pos 1 zA=true):zci C q=bd (letJ C 1 (adv q)) fun a=>.ok (a,(ze C (q.pos+1)).text):=by
 rw[zci,withN,zb5 h,zx,letJ,zJ]
 refine zX fun a j=>?_
 rw[zJ,zx,zJ,zJ,zJ]
 refine zX fun b _=>?_
 rw[←zJ,←zJ,zdP,(zbc j).1]
 rfl
theorem ziB {C:Cx} {q:PS} (h:isT C q.pos 1 zN=true):fnP C q=bd (fnI C (adv q)) fun a=>.ok (a,(ze C (q.pos+1)).text):=by
 rw[fnP,withN,zb5 h,zx,fnI,zJ]
 refine zX fun a j=>?_
 rw[show za5 C cCall cCall.size 0 a.1=bd (zd C 4 zm a.1) fun a=>bd (zd C 4 zaw a) (zd C 4 zF) from zkG C 40 41 123 a.1,zJ,zJ,zx]
 rw[(zbc j).1]
 simp only[zJ,←znJ]
 rfl
theorem ziC (x:PR) (n:ByteArray):zaE (bd x fun a=>.ok (a,n))=x:=by rw[zaE,zJ];exact zdH x
theorem zgk (C:Cx) (l:List Ep) (q:PS):impFromI C l q=bd (zaN C (za8 C (.ok q))) fun b=>zQ (fun e=>zan C (zb4 b.2 e)) l (.ok b.1):=by
 rw[impFromI,zaN,za8,zx,zJ,zJ]
 refine zX fun a _=>zX fun b _=>?_
 rw[zJ]
 rfl
theorem znK {C:Cx} {q:PS} (h:isT C q.pos 1 zad=true):zaH C q=zaC C (adv q):=by
 rw[zaH,zb5 h,zx,zaC]
 cases A:isT C (adv q).pos 4 zF with
 |true=>
  have j:((ze C (adv q).pos).kind==3)=false:=by
   have:=zeY A
   rw[beq_iff_eq] at this
   rw[this]
   rfl
  rw[j]
  simp only[Bool.false_eq_true,↓reduceIte]
  rw[zcw,zb5 A,zx]
  refine zX fun a _=>?_
  rw[zgk]
 |false=>
  cases z:isT C (adv q).pos 4 zv with
  |true=>
   have j:((ze C (adv q).pos).kind==3)=false:=by
    have:=zeY z
    rw[beq_iff_eq] at this
    rw[this]
    rfl
   rw[j]
   simp only[Bool.false_eq_true,↓reduceIte]
   rw[zb5 z,zx,zJ]
   refine zX fun a _=>zX fun b _=>?_
   rw[zgk]
   rfl
  |false=>
   cases w:zB C (adv q).pos false with
   |true=>
    have j:((ze C (adv q).pos).kind==3)=false:=by
     have n:=w
     simp only[zB,Bool.and_eq_true,beq_iff_eq] at n
     rw[n.1]
     rfl
    rw[j]
    simp only[Bool.false_eq_true,↓reduceIte]
    refine zX fun a _=>?_
    rw[zgk]
    rfl
   |false=>
    cases j:((ze C (adv q).pos).kind==3) with
    |true=>simp only[Bool.false_eq_true,↓reduceIte]
    |false=>
     simp only[Bool.false_eq_true,↓reduceIte]
     rw[zG,j,zh,w]
     rfl
theorem znL (C:Cx) (l:List Ep) (q:PS) (h:isT C q.pos 1 zO=false) (j:za4 l=false):za1 C l q=bd (zd C 4 cSemi q) fun q=>zQ (fun e=>zn C (zz e)) l (.ok q):=by rw[za1,h,j];rfl
theorem ziD (C:Cx) (l:List Ep) (q:PS) (h:(isT C q.pos 1 zO||za4 l)=true):za1 C l q=bd (zaN C (za8 C (.ok q))) fun b=>zQ (fun e=>zn C (zak b.2 e)) l (.ok b.1):=by
 rw[za1,h,if_pos rfl,zaN,za8,zx,zJ,zJ]
 refine zX fun a _=>zX fun b _=>?_
 rw[zJ]
 rfl
theorem znM {C:Cx} {q:PS} (h:isT C q.pos 1 zab=true):zae C q=zam C (adv q):=by
 rw[zae,zb5 h,zx,zam]
 cases A:isT C (adv q).pos 4 zF with
 |true=>
  simp only[↓reduceIte]
  rw[zcw,zb5 A,zx]
  refine zX fun a _=>?_
  cases n:isT C a.1.pos 1 zO with
  |true=>rw[ziD C a.2 a.1 (by rw[n];rfl),if_neg (by simp)]
  |false=>
   cases j:za4 a.2 with
   |true=>rw[ziD C a.2 a.1 (by rw[j];simp),if_neg (by simp)]
   |false=>rw[znL C a.2 a.1 n j,if_pos (by simp)]
 |false=>
  cases w:isT C (adv q).pos 4 zv with
  |true=>
   simp only[Bool.false_eq_true,↓reduceIte]
   rw[zb5 w,zaN,za8,zx,zJ,zJ]
   refine zX fun a _=>zX fun b _=>?_
   rw[zJ]
   rfl
  |false=>
   cases E:isT C (adv q).pos 1 sDefault with
   |true=>
    simp only[Bool.false_eq_true,↓reduceIte]
    rw[zb5 E,zx,zdP]
   |false=>
    cases z:isT C (adv q).pos 1 zA with
    |true=>
     simp only[Bool.false_eq_true,↓reduceIte]
     rw[ziA z,zJ]
     rfl
    |false=>
     cases D:isT C (adv q).pos 1 zN with
     |true=>
      simp only[Bool.false_eq_true,↓reduceIte]
      rw[ziB D,zJ]
      rfl
     |false=>simp only[Bool.false_eq_true,↓reduceIte]
theorem zcW {C:Cx} {i:Nat} {x y:ByteArray} (h:isT C i 1 x=true) (j:(x.toList==y.toList)=false):isT C i 1 y=false:=by
 have e:=zfQ h
 rw[isT,e,j]
 simp
theorem ziE (C:Cx) (q:PS):za2 C q=zy C q:=by
 rw[za2,zy]
 cases n:isT C q.pos 1 zA with
 |true=>
  rw[zcW n (y:=zad) (by simp),zcW n (y:=zab) (by simp)]
  simp only[Bool.false_eq_true,↓reduceIte,Bool.and_false]
  rw[ziA n,ziC]
 |false=>
  cases h:isT C q.pos 1 zN with
  |true=>
   rw[zcW h (y:=zad) (by simp),zcW h (y:=zab) (by simp)]
   simp only[Bool.false_eq_true,↓reduceIte,Bool.and_false]
   rw[ziB h,ziC]
  |false=>
   cases w:isT C q.pos 1 zao with
   |true=>
    rw[zcW w (y:=zad) (by simp),zcW w (y:=zab) (by simp)]
    simp only[Bool.false_eq_true,↓reduceIte,Bool.and_false]
    rw[zb5 w,zx,printI,zJ,zJ,zJ]
    refine zX fun a _=>?_
    rw[←znI,zJ,zJ]
   |false=>
    cases j:isT C q.pos 1 zaz with
    |true=>
     rw[zcW j (y:=zad) (by simp),zcW j (y:=zab) (by simp)]
     simp only[Bool.false_eq_true,↓reduceIte,Bool.and_false]
     rw[zb5 j,zx,zdP]
    |false=>
     cases E:C.scr with
     |true=>
      cases D:isT C q.pos 1 zbv with
      |true=>
       simp only[Bool.false_eq_true,↓reduceIte,Bool.not_true,Bool.false_and,Bool.and_self]
       rw[zb5 D,zx,zdP]
      |false=>
       simp only[Bool.false_eq_true,↓reduceIte,Bool.not_true,Bool.false_and,Bool.and_false]
       rw[letJ]
       refine zX fun a _=>?_
       rw[zJ,zJ]
       refine zX fun b _=>?_
       rw[←zJ,zdP]
     |false=>
      cases z:isT C q.pos 1 zad with
      |true=>
       simp only[Bool.false_eq_true,↓reduceIte,Bool.not_false,Bool.false_and,Bool.and_self]
       rw[znK z]
      |false=>
       cases A:isT C q.pos 1 zab with
       |true=>
        simp only[Bool.false_eq_true,↓reduceIte,Bool.not_false,Bool.false_and,Bool.and_self,Bool.and_false]
        rw[znM A]
       |false=>
        simp only[Bool.false_eq_true,↓reduceIte,Bool.not_false,Bool.false_and,Bool.and_false]
        rw[letJ]
        refine zX fun a _=>?_
        rw[zJ,zJ]
        refine zX fun b _=>?_
        rw[←zJ,zdP]
theorem ziF {P:Program} {U:Array Oper} {o:Oper} {a:Act} {W:World} {K:Act→World→Prop} {Q:Exit→Act→World→Prop} {E:Prop} (Z:o.guard=none) (s x:Operand) (t:TypeId)
  (ho:o.op= .call {callee:=.builtin .append,args:=#[s,x],argTypes:=#[t,t]})
  (A:Nat) (e:TypeId) (i:TypeInfo) (z:Value) (size q:Nat) (ht:P.underlying t=some (.slice e)) (hi:P.info? e=some i) (hz:i.zero=some z) (H:i.size=size) (ac:i.bytes=q) (ad:z.cells.size=size) (ab:0<size) (O:q≤100)
  (r:Rw) (n:Nat) (xs:List Value) (hs:a.eval s= .slice r.a n r.cap) (M:OwnR W A e size r n xs)
  (V m c J:Nat) (w:List Value) (hx:a.eval x= .slice (some ⟨V,0,none⟩) m c) (hg:OwnR W J e size ⟨some ⟨V,0,none⟩,c⟩ m w) (h1: ∀u∈w,u.oneCell'=true) (hn:n+m≤4000000) (I:A≤W.heap.size)
  (h: ∀N L,OwnR L A e size N (n+m) (xs++w)→W.grownBy L r.blk→(N.blk=r.blk∨N.blk=some W.heap.size)→K (a.put o.dst (.slice N.a (n+m:Nat) N.cap)) L):
  if Region.wanted o (yielded U a.tmps)=true then Oper.wp P o a W K Q else E:=by
 have hw:Region.wanted o (yielded U a.tmps)=true:=by simp[Region.wanted,Z]
 rw[if_pos hw]
 obtain⟨v',L,hr,Y,h3,_,h5⟩:=run_append_own_at (P:=P) W A t o.type e i z size q ht hi hz H ac ad ab _ n xs M ⟨V,0,none⟩ m c w hg.1 (by
  intro j u hj
  have e1:(⟨V,0,none⟩:Addr).add j=⟨V,j,none⟩:=by simp[Addr.add];exact fun h=>h.symm
  have aa:j<w.length:=(List.getElem?_eq_some_iff.1 hj).1
  rw[e1,World.ownsRow.cellAt hg j (by rw[←hg.1];exact aa)]
  exact hj) h1 (by unfold maxLen;omega) (by have:(n+m)*q≤4000000*100:=Nat.mul_le_mul hn O;omega) I
 unfold Oper.wp execOp
 simp only[ho,resolve,invoke,builtin,Sem.run_bind,Sem.run_pure,Result.andThen_ok,List.map_toArray,List.map_cons,List.map_nil,hs,hx,hr]
 rcases Y.2 with ⟨hv,X⟩|⟨g',D,af,rfl,ae⟩
 ·subst hv
  have:=h ⟨none,0⟩ L (by rw[X] at Y ⊢;exact Y) (by rw[←zbe r n];exact h3) (by rw[←zbe r n];exact h5)
  rw[X] at this
  exact this
 ·refine h ⟨some ⟨g',0,none⟩,D⟩ L Y ?_ ?_
  ·rw[←zbe r n];exact h3
  ·rw[←zbe r n,←zbe ⟨some ⟨g',0,none⟩,D⟩ (n+m)];exact h5
theorem ziG {P:Program} {q:Array Oper} {o:Oper} {a:Act} {W:World} {K:Act→World→Prop} {Q:Exit→Act→World→Prop} {E:Prop} (z:o.guard=none) (s x:Operand) (t:TypeId)
  (L:o.op= .call {callee:=.builtin .append,args:=#[s,x],argTypes:=#[t,t]})
  (e:TypeId) (i:TypeInfo) (D:P.underlying t=some (.slice e)) (H:P.info? e=some i) (w size n:Nat)
  (r:Rw) (xs:List Value) (O:a.eval s= .slice r.a n r.cap) (j:OwnR W w e size r n xs) (U:a.eval x= .slice none 0 0)
  (h:K (a.put o.dst (.slice r.a n r.cap)) W):if Region.wanted o (yielded q a.tmps)=true then Oper.wp P o a W K Q else E:=by
 have J:Region.wanted o (yielded q a.tmps)=true:=by simp[Region.wanted,z]
 rw[if_pos J]
 have M:(Builtin.append_ #[t,t] o.type #[.slice r.a n r.cap,.slice none 0 0]).run P W= .ok (.slice r.a n r.cap) W:=by
  rcases j.2 with ⟨A,_⟩|⟨g,N,I,A,_,_,V,_⟩
  ·rw[A]
   simp[Builtin.append_,run_underlying D,sizeOf,typeInfo,H,Builtin.lenOf,Builtin.firstCells]
  ·rw[A]
   simp[Builtin.append_,run_underlying D,sizeOf,typeInfo,H,Builtin.lenOf,Builtin.firstCells,loadCells,V,storeCells]
 unfold Oper.wp execOp
 simp only[L,resolve,invoke,builtin,Sem.run_bind,Sem.run_pure,Result.andThen_ok,List.map_toArray,List.map_cons,List.map_nil,O,U,M]
 exact h
theorem Mem.wholeI {C:Cx} {Z K j b:Nat} {S:Sv} {q:PS} {W I M:World} {E:Rw} (A:Mem C Z K j S q W) (U:W.grownBy I S.ep.blk) (X:OwnR I j 86 4 E (q.ep.length+q.la.length) (q.ep.flatMap epL++q.la.flatMap epL)) (J:E.blk=S.ep.blk∨E.blk=some W.heap.size) (hb:b<W.heap.size) (w: ¬S.has b)
  (O: ∀k,k≠b→M.heap[k]? =I.heap[k]?):OwnMod M j {S with ep:=E} q:=by
 have D:(q.ep++q.la).length=q.ep.length+q.la.length:=by simp
 have H: ∀(r:Rw) (e:TypeId) (z n:Nat) (N:List Value),OwnR W j e z r n N→e≠86→(∀k,r.blk=some k→S.has k)→OwnR M j e z r n N:=fun r e z n N h he Y=>
  h.keep fun k g=>(O k (fun L=>w (by rw[←L];exact Y k g))).trans (U.block k (h.typed g).2.1 fun V=>(h.ne A.own.ep he g) V.symm)
 refine⟨H _ _ _ _ _ A.own.rq (by decide) fun k g=>.inl g,H _ _ _ _ _ A.own.im (by decide) fun k g=>.inr (.inl g),?_,H _ _ _ _ _ A.own.st (by decide) fun k g=>.inr (.inr (.inr (.inl g))),H _ _ _ _ _ A.own.ex (by decide) fun k g=>.inr (.inr (.inr (.inr (.inl g)))),A.inv.rq,A.inv.im,A.inv.ep,A.inv.st,A.inv.ex⟩
 rw[D,List.flatMap_append]
 refine X.keep fun k g=>O k ?_
 rcases J with e|e
 ·intro L
  exact w (by rw[←L];exact .inr (.inr (.inl (by rw[←e];exact g))))
 ·have:W.heap.size=k:=Option.some.inj (e.symm.trans g)
  omega
theorem Mem.wholeI0 {C:Cx} {M E j b:Nat} {S:Sv} {q:PS} {W I:World} (z:Mem C M E j S q W) (J:q.la=[]) (A: ¬S.has b)
  (N: ∀k,k≠b→I.heap[k]? =W.heap[k]?):OwnMod I j S q:=by
 have D: ∀(r:Rw) (e:TypeId) (w n:Nat) (H:List Value),OwnR W j e w r n H→(∀k,r.blk=some k→S.has k)→OwnR I j e w r n H:=fun r e w n H h L=>
  h.keep fun k g=>N k (fun K=>A (by rw[←K];exact L k g))
 refine⟨D _ _ _ _ _ z.own.rq fun k g=>.inl g,D _ _ _ _ _ z.own.im fun k g=>.inr (.inl g),?_,D _ _ _ _ _ z.own.st fun k g=>.inr (.inr (.inr (.inl g))),D _ _ _ _ _ z.own.ex fun k g=>.inr (.inr (.inr (.inr (.inl g)))),z.inv.rq,z.inv.im,z.inv.ep,z.inv.st,z.inv.ex⟩
 rw[J,List.append_nil]
 exact D _ _ _ _ _ z.own.ep fun k g=>.inr (.inr (.inl g))
theorem zcq {C:Cx} {i:Nat} {k:ByteArray} (h:isT C i 1 k=true):zcc C i=k:=by
 rw[zcc,zeY h,zfQ h]
 rfl
theorem zcr {C:Cx} {i:Nat} {k:ByteArray} (h:isT C i 1 k=false) (n:sNone≠k):(zcc C i==k)=false:=by
 rw[Bool.eq_false_iff]
 intro e
 rw[MapKept.bytes_beq] at e
 cases j:((ze C i).kind==1) with
 |false=>
  rw[zcc,j] at e
  exact n e
 |true=>
  rw[zcc,j,if_pos rfl] at e
  rw[isT,j,e] at h
  simp at h
theorem zbi {C:Cx} {H w n z g c:Nat} {S E:Sv} {q:PS} {W A:World} {D:Array MapEntry} (h:IM C H w n z S q W) (j:W.heap[g]? =some (.map D c)) (s:IS z S W E A):A.heap[g]? =some (.map D c):=by
 refine (s.block g (Array.getElem?_eq_some_iff.1 j).1 (fun k=>?_) (fun e=>?_)).trans j
 ·rcases k with k|k|k|k|k|k
  ·obtain⟨_,_,c,e⟩:=h.mem.own.rq.typed k
   rw[j] at e;cases e
  ·obtain⟨_,_,c,e⟩:=h.mem.own.im.typed k
   rw[j] at e;cases e
  ·obtain⟨_,_,c,e⟩:=h.mem.own.ep.typed k
   rw[j] at e;cases e
  ·obtain⟨_,_,c,e⟩:=h.mem.own.st.typed k
   rw[j] at e;cases e
  ·obtain⟨_,_,c,e⟩:=h.mem.own.ex.typed k
   rw[j] at e;cases e
  ·obtain⟨_,_,c,e⟩:=h.mem.own.la.typed k
   rw[j] at e;cases e
 ·have:=h.cells
  rw[←e,j] at this
  cases this
theorem zbU {C:Cx} {q:PS} {y:PR} (h:q.pos<C.ts.length) (j:za2 C q=y):zap C q=bd y (zap C):=by rw[zeN,if_pos h,←ziE,j]
theorem ziH {C:Cx} {q:PS} (h: ¬q.pos<C.ts.length):zap C q= .ok q:=by rw[zeN,if_neg h]
theorem zbV {C:Cx} {q a:PS} {y:PR} (j:za2 C q=y) (h:y= .ok a):q.pos<a.pos:=zeM (by rw[←ziE,j,h])
def zgl (base gp:Nat) (y:PR) (w:World) (e:Ending) (w':World):Prop:=
 match y with
 | .ok q=>e= .returned (.tuple #[])∧∃S,OwnMod w' base S q∧(∃v0 v1 v2 v3 v9,w'.heap[gp]? =some (.cells #[v0,v1,v2,v3,.slice S.rq.a q.rq.length S.rq.cap,.slice S.im.a q.im.length S.im.cap,.slice S.ep.a (q.ep++q.la).length S.ep.cap,.slice S.st.a q.st.length S.st.cap,.slice S.ex.a q.ex.length S.ex.cap,v9] 160 (0,0)))∧Below base w w'
 | .error p=>e=Pan p∧Below base w w'
theorem znN (C:Cx) (gt H z n:Nat) (S:Sv) (q:PS) (w:World) (h:IM C gt H z n S q w) (hs:C.scr=true):
  Calls Tryz.prog 120 #[.pointer (some ⟨n,0,none⟩)] w (zgl z n (zap C q) w):=by
 obtain⟨i0,hi,az,aF,aD⟩:=info_parts Tryz.infoExp
 go_enter Tryz.func120,Tryz.ntmps120
 go_wp2_with fail
 refine (zn2 C gt H z n S q _ h hs).mono ?_
 rintro e w1 ⟨rfl,hg,Y⟩
 have aG:=h.later Y
 have ay:IS n S w S w1:=IS.below Y
 have aH:=zc hg
 clear hg Y
 go_wp2
 go_loopg [] (C.ts.length+1) (fun k wr=>∃(K:Sv) (j:PS),zap C q=zap C j∧C.ts.length-j.pos<k∧IM C gt H z n K j wr∧IS n S w K wr∧wr.heap[w.heap.size]? =some (.map (esS n) 5))
 case atStart=>exact⟨S,q,rfl,by omega,aG,ay,aH.out⟩
 case round=>
  obtain⟨K,j,hy,hk,m',s',g'⟩:=hrel
  have ac:=zc hy
  have am:=m'
  have av:=s'
  have aq:Hid (wr.heap[w.heap.size]? =some (.map (esS n) 5)):=g'
  obtain⟨c0,c1,_,_,_,_,_,_,_,_,_⟩:=zY m'.cells
  have C0:=zc c0
  have C1:=zc c1
  have aJ:=m'.mem.inv.pos
  have aI:=m'.mem.few
  clear hy m' s' g' c0 c1
  have k0:=cell_regrown C0.out
  have k1:=cell_regrown C1.out
  by_cases hp:j.pos<C.ts.length
  ·have aB:((j.pos:Int)<(C.ts.length:Int)):=by omega
   go_wp2_with fail
   refine wp_region_quiet_below (by kernel_rfl) (by kernel_rfl) ?_
   repeat (go_big_quiet_step (fail))
   refine wpQuiet_nil ?_
   intro w2 ao
   obtain⟨⟨dq,aC⟩,aa⟩:=ao
   have ae:Below wr.heap.size wr w2:=by show Below _ _ _;rw[aa];exact below_regrown _ _ _
   clear aa k0 k1 C0 C1
   have E:Hid (IM C gt H z n K j w2):=am.later ae
   have al:=av.trans (IS.below ae)
   have an:Hid (w2.heap[w.heap.size]? =some (.map (esS n) 5)):=zbi am aq.out (IS.below ae)
   go_wp2_with fail
   refine (zhs C gt H z n K j _ E.out).mono ?_
   rintro e w3 ⟨rfl,Y⟩
   have ab:Hid (IM C gt H z n K j w3):=E.out.later Y
   have ad:=al.trans (IS.below Y)
   have L:Hid (w3.heap[w.heap.size]? =some (.map (esS n) 5)):=zbi E.out an.out (IS.below Y)
   clear Y
   have ah:w.heap.size≠n:=by have:=h.lt;omega
   obtain⟨c0,c1,c2,c3,c4,c5,c6,c7,c8,c9,cf⟩:=zY ab.out.cells
   cases t0:isT C j.pos 1 zA with
   |true=>
    have A:za2 C j=letJ C 1 (adv j):=by rw[za2,t0];rfl
    have HZ:=zc (ac.out.trans (zbU hp A))
    have U:=zc A
    clear A
    rw[zcq t0]
    have ai:=zcp L.out (zn3 n)
    go_wp2_with fail
    have J:=ab.out.adv hp
    have I:IS n S w K (w3.setCell ⟨n,1,none⟩ (.int .i64 ((j.pos:Int)+1))):=ad.set _ _
    have Z:Hid ((w3.setCell ⟨n,1,none⟩ (.int .i64 ((j.pos:Int)+1))).heap[w.heap.size]? =some (.map (esS n) 5)):=(zt ah).trans L.out
    refine (zfS C gt H z n K (adv j) _ J).mono ?_
    cases D:letJ C 1 (adv j) with
    |error p=>
     rintro e w5 ⟨rfl,Y⟩
     have HB:=(h.back I).trans Y
     have HX:Hid (zap C q= .error p):=bdE HZ.out D
     unfold Pan
     go_wp2
     refine⟨rfl,?_⟩
     rw[HX.out]
     exact⟨rfl,HB⟩
    |ok a5=>
     rintro e w5 ⟨rfl,S5,N,s⟩
     have M:Hid (w5.heap[w.heap.size]? =some (.map (esS n) 5)):=zbi J Z.out s
     have V:=I.trans s
     clear s
     have O:=zc (bdO HZ.out D)
     have X:=zc (zbV U.out D)
     go_wp2
     go_roundg (gk-1)
     case rel=>exact⟨S5,a5,O.out,by have:=X.out;omega,N,V,M.out⟩
     case measure=>omega
   |false=>
    cases t1:isT C j.pos 1 zN with
    |true=>
     have A:za2 C j=fnI C (adv j):=by rw[za2,t0,t1];simp only[Bool.false_eq_true,↓reduceIte]
     have HZ:=zc (ac.out.trans (zbU hp A))
     have U:=zc A
     clear A
     rw[zcq t1]
     have ai:=zcp L.out (zn4 n)
     go_wp2_with fail
     have J:=ab.out.adv hp
     have I:IS n S w K (w3.setCell ⟨n,1,none⟩ (.int .i64 ((j.pos:Int)+1))):=ad.set _ _
     have Z:Hid ((w3.setCell ⟨n,1,none⟩ (.int .i64 ((j.pos:Int)+1))).heap[w.heap.size]? =some (.map (esS n) 5)):=(zt ah).trans L.out
     refine (zfT C gt H z n K (adv j) _ J).mono ?_
     cases D:fnI C (adv j) with
     |error p=>
      rintro e w5 ⟨rfl,Y⟩
      have HB:=(h.back I).trans Y
      have HX:Hid (zap C q= .error p):=bdE HZ.out D
      unfold Pan
      go_wp2
      refine⟨rfl,?_⟩
      rw[HX.out]
      exact⟨rfl,HB⟩
     |ok a5=>
      rintro e w5 ⟨rfl,S5,N,s⟩
      have M:Hid (w5.heap[w.heap.size]? =some (.map (esS n) 5)):=zbi J Z.out s
      have V:=I.trans s
      clear s
      have O:=zc (bdO HZ.out D)
      have X:=zc (zbV U.out D)
      go_wp2
      go_roundg (gk-1)
      case rel=>exact⟨S5,a5,O.out,by have:=X.out;omega,N,V,M.out⟩
      case measure=>omega
    |false=>
     cases t2:isT C j.pos 1 zao with
     |true=>
      have A:za2 C j=printI C (adv j):=by rw[za2,t0,t1,t2];simp only[Bool.false_eq_true,↓reduceIte]
      have HZ:=zc (ac.out.trans (zbU hp A))
      have U:=zc A
      clear A
      rw[zcq t2]
      have ai:=zcp L.out (zn5 n)
      go_wp2_with fail
      have J:=ab.out.adv hp
      have I:IS n S w K (w3.setCell ⟨n,1,none⟩ (.int .i64 ((j.pos:Int)+1))):=ad.set _ _
      have Z:Hid ((w3.setCell ⟨n,1,none⟩ (.int .i64 ((j.pos:Int)+1))).heap[w.heap.size]? =some (.map (esS n) 5)):=(zt ah).trans L.out
      refine (zhq C gt H z n K (adv j) _ J).mono ?_
      cases D:printI C (adv j) with
      |error p=>
       rintro e w5 ⟨rfl,Y⟩
       have HB:=(h.back I).trans Y
       have HX:Hid (zap C q= .error p):=bdE HZ.out D
       unfold Pan
       go_wp2
       refine⟨rfl,?_⟩
       rw[HX.out]
       exact⟨rfl,HB⟩
      |ok a5=>
       rintro e w5 ⟨rfl,S5,N,s⟩
       have M:Hid (w5.heap[w.heap.size]? =some (.map (esS n) 5)):=zbi J Z.out s
       have V:=I.trans s
       clear s
       have O:=zc (bdO HZ.out D)
       have X:=zc (zbV U.out D)
       go_wp2
       go_roundg (gk-1)
       case rel=>exact⟨S5,a5,O.out,by have:=X.out;omega,N,V,M.out⟩
       case measure=>omega
     |false=>
      cases t3:isT C j.pos 1 zaz with
      |true=>
       have A:za2 C j=stmtI C 5 sNone cSemi (adv j):=by rw[za2,t0,t1,t2,t3];simp only[Bool.false_eq_true,↓reduceIte]
       have HZ:=zc (ac.out.trans (zbU hp A))
       have U:=zc A
       clear A
       rw[zcq t3]
       have ai:=zcp L.out (zn6 n)
       go_wp2_with fail
       have J:=ab.out.adv hp
       have I:IS n S w K (w3.setCell ⟨n,1,none⟩ (.int .i64 ((j.pos:Int)+1))):=ad.set _ _
       have Z:Hid ((w3.setCell ⟨n,1,none⟩ (.int .i64 ((j.pos:Int)+1))).heap[w.heap.size]? =some (.map (esS n) 5)):=(zt ah).trans L.out
       refine (zhr C gt H z n K (adv j) _ J).mono ?_
       cases D:stmtI C 5 sNone cSemi (adv j) with
       |error p=>
        rintro e w5 ⟨rfl,Y⟩
        have HB:=(h.back I).trans Y
        have HX:Hid (zap C q= .error p):=bdE HZ.out D
        unfold Pan
        go_wp2
        refine⟨rfl,?_⟩
        rw[HX.out]
        exact⟨rfl,HB⟩
       |ok a5=>
        rintro e w5 ⟨rfl,S5,N,s⟩
        have M:Hid (w5.heap[w.heap.size]? =some (.map (esS n) 5)):=zbi J Z.out s
        have V:=I.trans s
        clear s
        have O:=zc (bdO HZ.out D)
        have X:=zc (zbV U.out D)
        go_wp2
        go_roundg (gk-1)
        case rel=>exact⟨S5,a5,O.out,by have:=X.out;omega,N,V,M.out⟩
        case measure=>omega
      |false=>
       cases t4:isT C j.pos 1 zbv with
       |true=>
        have A:za2 C j=stmtI C 6 sNone cSemi (adv j):=by rw[za2,t0,t1,t2,t3,t4,hs];simp only[Bool.false_eq_true,↓reduceIte,Bool.and_self]
        have HZ:=zc (ac.out.trans (zbU hp A))
        have U:=zc A
        clear A
        rw[zcq t4]
        have ai:=zcp L.out (zn7 n)
        go_wp2_with fail
        have J:=ab.out.adv hp
        have I:IS n S w K (w3.setCell ⟨n,1,none⟩ (.int .i64 ((j.pos:Int)+1))):=ad.set _ _
        have Z:Hid ((w3.setCell ⟨n,1,none⟩ (.int .i64 ((j.pos:Int)+1))).heap[w.heap.size]? =some (.map (esS n) 5)):=(zt ah).trans L.out
        refine (zld C gt H z n K (adv j) _ J).mono ?_
        cases D:stmtI C 6 sNone cSemi (adv j) with
        |error p=>
         rintro e w5 ⟨rfl,Y⟩
         have HB:=(h.back I).trans Y
         have HX:Hid (zap C q= .error p):=bdE HZ.out D
         unfold Pan
         go_wp2
         refine⟨rfl,?_⟩
         rw[HX.out]
         exact⟨rfl,HB⟩
        |ok a5=>
         rintro e w5 ⟨rfl,S5,N,s⟩
         have M:Hid (w5.heap[w.heap.size]? =some (.map (esS n) 5)):=zbi J Z.out s
         have V:=I.trans s
         clear s
         have O:=zc (bdO HZ.out D)
         have X:=zc (zbV U.out D)
         go_wp2
         go_roundg (gk-1)
         case rel=>exact⟨S5,a5,O.out,by have:=X.out;omega,N,V,M.out⟩
         case measure=>omega
       |false=>
        have A:za2 C j=letJ C 3 j:=by rw[za2,t0,t1,t2,t3,t4,hs];simp only[Bool.false_eq_true,↓reduceIte,Bool.and_false,Bool.not_true,Bool.false_and]
        have HZ:=zc (ac.out.trans (zbU hp A))
        have U:=zc A
        clear A
        obtain⟨vz,ai⟩:=zi9 L.out (zn8 n (zcc C j.pos) (zcr t0 (by decide)) (zcr t1 (by decide)) (zcr t2 (by decide)) (zcr t3 (by decide)) (zcr t4 (by decide)))
        go_wp2_with fail
        refine (zhp C gt H z n K j _ ab.out).mono ?_
        cases D:letJ C 3 j with
        |error p=>
         rintro e w5 ⟨rfl,Y⟩
         have HB:=(h.back ad).trans Y
         have HX:Hid (zap C q= .error p):=bdE HZ.out D
         unfold Pan
         go_wp2
         refine⟨rfl,?_⟩
         rw[HX.out]
         exact⟨rfl,HB⟩
        |ok a5=>
         rintro e w5 ⟨rfl,S5,N,s⟩
         have M:Hid (w5.heap[w.heap.size]? =some (.map (esS n) 5)):=zbi ab.out L.out s
         have V:=ad.trans s
         clear s
         have O:=zc (bdO HZ.out D)
         have X:=zc (zbV U.out D)
         go_wp2
         go_roundg (gk-1)
         case rel=>exact⟨S5,a5,O.out,by have:=X.out;omega,N,V,M.out⟩
         case measure=>omega
  ·have aB: ¬((j.pos:Int)<(C.ts.length:Int)):=by omega
   go_wp2_with fail
   refine wp_region_quiet_below (by kernel_rfl) (by kernel_rfl) ?_
   repeat (go_big_quiet_step (fail))
   refine wpQuiet_nil ?_
   intro w2 ao
   obtain⟨⟨dq,aC⟩,aa⟩:=ao
   have ae:Below wr.heap.size wr w2:=by show Below _ _ _;rw[aa];exact below_regrown _ _ _
   clear aa k0 k1 C0 C1
   have E:Hid (IM C gt H z n K j w2):=am.later ae
   have al:=av.trans (IS.below ae)
   have an:Hid (w2.heap[w.heap.size]? =some (.map (esS n) 5)):=zbi am aq.out (IS.below ae)
   have HX:=zc (ac.out.trans (ziH hp))
   obtain⟨c0,c1,c2,c3,c4,c5,c6,c7,c8,c9,cf⟩:=zY E.out.cells
   have ak:=E.out.mem.own.ep
   have aK:=E.out.mem.inv.ep
   have aj:=E.out.free
   have af:=zc aj
   clear aj
   have ar:=E.out.lt
   rcases E.out.mem.own.la.nil_or with ⟨ha,hc,hn⟩|⟨gl,ha⟩
   ·have HN:=zc (List.eq_nil_of_length_eq_zero hn)
    rw[ha,hc,hn] at c9
    clear ha hc hn
    go_wp2_with fail
    go_region_law (first|(refine ziG rfl (.tmp 41) (.tmp 45) 32 rfl 86 i0 Tryz.underlying32 hi z 4 j.ep.length K.ep _ (by rfl) (by exact ak) (by rfl) ?_))
    all_goals
     go_wp2
     go_end0
     rw[HX.out]
     refine⟨rfl,K,E.out.mem.wholeI0 HN.out af.out (fun k hk=>zt hk),⟨.slice (some ⟨gt,0,none⟩) C.ts.length H,.int .i64 j.pos,.int .i64 C.fin,.bool C.scr,.slice K.la.a j.la.length K.la.cap,(zag E.out.cells).trans (by simp[HN.out])⟩,?_⟩
     exact (h.back (al.set _ _)).drew
   ·have au:OwnR w2 z 86 4 ⟨some ⟨gl,0,none⟩,K.la.cap⟩ j.la.length (j.la.flatMap epL):=by have:=E.out.mem.own.la;unfold OwnR at this ⊢;rw[ha] at this;exact this
    rw[ha] at c9
    have ax:=E.out.mem.base
    have aE:Hid (some n≠K.ep.blk):=fun e=>af.out (.inr (.inr (.inl e.symm)))
    go_wp2_with fail
    go_region_law (first|(refine ziF rfl (.tmp 41) (.tmp 45) 32 rfl z 86 i0 _ 4 56 Tryz.underlying32 hi az aF aD rfl (by decide) (by decide) K.ep j.ep.length _ (by rfl) (by exact ak) gl j.la.length K.la.cap z _ (by rfl) (by exact au) (zfG _) (by omega) (by exact ax) ?_;intro r' wz hr ap aw;have g2:=(ap.block n (by exact ar) aE.out).trans (by exact E.out.cells);obtain⟨d0,d1,d2,d3,d4,d5,d6,d7,d8,d9,df⟩:=zY g2))
    all_goals
     have HR:=zc hr
     have ag:=zc ap
     have aA:=zc aw
     have an:=zc g2
     clear hr ap aw g2 c0 c1 c2 c3 c4 c5 c6 c7 c8 c9 cf ak au
     go_wp2
     go_end0
     rw[HX.out]
     refine⟨rfl,{K with ep:=r'},E.out.drew.mem.wholeI ag.out HR.out aA.out ar af.out (fun k hk=>zt hk),⟨.slice (some ⟨gt,0,none⟩) C.ts.length H,.int .i64 j.pos,.int .i64 C.fin,.bool C.scr,.slice K.la.a j.la.length K.la.cap,(zag an.out).trans (by simp)⟩,?_⟩
     exact ((h.back al).trans ⟨ag.out.os,ag.out.tape,ag.out.output,ag.out.size,fun k hk=>ag.out.block k (show k<w2.heap.size by omega) (fun e=>by have:=(E.out.mem.own.ep.typed e.symm).1;omega)⟩).setCell E.out.ge _
theorem znO (C:Cx) (gt J z n:Nat) (S:Sv) (q:PS) (w:World) (h:IM C gt J z n S q w) (hC:zaT C) (hs:C.scr=false):
  Calls Tryz.prog 120 #[.pointer (some ⟨n,0,none⟩)] w (zgl z n (zap C q) w):=by
 obtain⟨i0,hi,az,aF,aD⟩:=info_parts Tryz.infoExp
 go_enter Tryz.func120,Tryz.ntmps120
 go_wp2_with fail
 refine (zn9 C gt J z n S q _ h hs).mono ?_
 rintro e w1 ⟨rfl,hg,Z⟩
 have aG:=h.later Z
 have ay:IS n S w S w1:=IS.below Z
 have aH:=zc hg
 clear hg Z
 go_wp2
 go_loopg [] (C.ts.length+1) (fun k wr=>∃(K:Sv) (j:PS),zap C q=zap C j∧C.ts.length-j.pos<k∧IM C gt J z n K j wr∧IS n S w K wr∧wr.heap[w.heap.size]? =some (.map (esM n) 6))
 case atStart=>exact⟨S,q,rfl,by omega,aG,ay,aH.out⟩
 case round=>
  obtain⟨K,j,hy,hk,m',s',g'⟩:=hrel
  have ab:=zc hy
  have am:=m'
  have av:=s'
  have aq:Hid (wr.heap[w.heap.size]? =some (.map (esM n) 6)):=g'
  obtain⟨c0,c1,_,_,_,_,_,_,_,_,_⟩:=zY m'.cells
  have C0:=zc c0
  have C1:=zc c1
  have aJ:=m'.mem.inv.pos
  have aI:=m'.mem.few
  clear hy m' s' g' c0 c1
  have k0:=cell_regrown C0.out
  have k1:=cell_regrown C1.out
  by_cases hp:j.pos<C.ts.length
  ·have aB:((j.pos:Int)<(C.ts.length:Int)):=by omega
   go_wp2_with fail
   refine wp_region_quiet_below (by kernel_rfl) (by kernel_rfl) ?_
   repeat (go_big_quiet_step (fail))
   refine wpQuiet_nil ?_
   intro w2 ao
   obtain⟨⟨dq,aC⟩,ad⟩:=ao
   have ae:Below wr.heap.size wr w2:=by show Below _ _ _;rw[ad];exact below_regrown _ _ _
   clear ad k0 k1 C0 C1
   have E:Hid (IM C gt J z n K j w2):=am.later ae
   have al:=av.trans (IS.below ae)
   have an:Hid (w2.heap[w.heap.size]? =some (.map (esM n) 6)):=zbi am aq.out (IS.below ae)
   go_wp2_with fail
   refine (zhs C gt J z n K j _ E.out).mono ?_
   rintro e w3 ⟨rfl,Z⟩
   have aa:Hid (IM C gt J z n K j w3):=E.out.later Z
   have ac:=al.trans (IS.below Z)
   have L:Hid (w3.heap[w.heap.size]? =some (.map (esM n) 6)):=zbi E.out an.out (IS.below Z)
   clear Z
   have ag:w.heap.size≠n:=by have:=h.lt;omega
   obtain⟨c0,c1,c2,c3,c4,c5,c6,c7,c8,c9,cf⟩:=zY aa.out.cells
   cases t0:isT C j.pos 1 zA with
   |true=>
    have A:za2 C j=letJ C 1 (adv j):=by rw[za2,t0];rfl
    have HZ:=zc (ab.out.trans (zbU hp A))
    have U:=zc A
    clear A
    rw[zcq t0]
    have ah:=zcp L.out (znA n)
    go_wp2_with fail
    have I:=aa.out.adv hp
    have H:IS n S w K (w3.setCell ⟨n,1,none⟩ (.int .i64 ((j.pos:Int)+1))):=ac.set _ _
    have Y:Hid ((w3.setCell ⟨n,1,none⟩ (.int .i64 ((j.pos:Int)+1))).heap[w.heap.size]? =some (.map (esM n) 6)):=(zt ag).trans L.out
    refine (zfS C gt J z n K (adv j) _ I).mono ?_
    cases D:letJ C 1 (adv j) with
    |error p=>
     rintro e w5 ⟨rfl,Z⟩
     have HB:=(h.back H).trans Z
     have HX:Hid (zap C q= .error p):=bdE HZ.out D
     unfold Pan
     go_wp2
     refine⟨rfl,?_⟩
     rw[HX.out]
     exact⟨rfl,HB⟩
    |ok a5=>
     rintro e w5 ⟨rfl,S5,N,s⟩
     have M:Hid (w5.heap[w.heap.size]? =some (.map (esM n) 6)):=zbi I Y.out s
     have V:=H.trans s
     clear s
     have O:=zc (bdO HZ.out D)
     have X:=zc (zbV U.out D)
     go_wp2
     go_roundg (gk-1)
     case rel=>exact⟨S5,a5,O.out,by have:=X.out;omega,N,V,M.out⟩
     case measure=>omega
   |false=>
    cases t1:isT C j.pos 1 zN with
    |true=>
     have A:za2 C j=fnI C (adv j):=by rw[za2,t0,t1];simp only[Bool.false_eq_true,↓reduceIte]
     have HZ:=zc (ab.out.trans (zbU hp A))
     have U:=zc A
     clear A
     rw[zcq t1]
     have ah:=zcp L.out (znB n)
     go_wp2_with fail
     have I:=aa.out.adv hp
     have H:IS n S w K (w3.setCell ⟨n,1,none⟩ (.int .i64 ((j.pos:Int)+1))):=ac.set _ _
     have Y:Hid ((w3.setCell ⟨n,1,none⟩ (.int .i64 ((j.pos:Int)+1))).heap[w.heap.size]? =some (.map (esM n) 6)):=(zt ag).trans L.out
     refine (zfT C gt J z n K (adv j) _ I).mono ?_
     cases D:fnI C (adv j) with
     |error p=>
      rintro e w5 ⟨rfl,Z⟩
      have HB:=(h.back H).trans Z
      have HX:Hid (zap C q= .error p):=bdE HZ.out D
      unfold Pan
      go_wp2
      refine⟨rfl,?_⟩
      rw[HX.out]
      exact⟨rfl,HB⟩
     |ok a5=>
      rintro e w5 ⟨rfl,S5,N,s⟩
      have M:Hid (w5.heap[w.heap.size]? =some (.map (esM n) 6)):=zbi I Y.out s
      have V:=H.trans s
      clear s
      have O:=zc (bdO HZ.out D)
      have X:=zc (zbV U.out D)
      go_wp2
      go_roundg (gk-1)
      case rel=>exact⟨S5,a5,O.out,by have:=X.out;omega,N,V,M.out⟩
      case measure=>omega
    |false=>
     cases t2:isT C j.pos 1 zao with
     |true=>
      have A:za2 C j=printI C (adv j):=by rw[za2,t0,t1,t2];simp only[Bool.false_eq_true,↓reduceIte]
      have HZ:=zc (ab.out.trans (zbU hp A))
      have U:=zc A
      clear A
      rw[zcq t2]
      have ah:=zcp L.out (znC n)
      go_wp2_with fail
      have I:=aa.out.adv hp
      have H:IS n S w K (w3.setCell ⟨n,1,none⟩ (.int .i64 ((j.pos:Int)+1))):=ac.set _ _
      have Y:Hid ((w3.setCell ⟨n,1,none⟩ (.int .i64 ((j.pos:Int)+1))).heap[w.heap.size]? =some (.map (esM n) 6)):=(zt ag).trans L.out
      refine (zhq C gt J z n K (adv j) _ I).mono ?_
      cases D:printI C (adv j) with
      |error p=>
       rintro e w5 ⟨rfl,Z⟩
       have HB:=(h.back H).trans Z
       have HX:Hid (zap C q= .error p):=bdE HZ.out D
       unfold Pan
       go_wp2
       refine⟨rfl,?_⟩
       rw[HX.out]
       exact⟨rfl,HB⟩
      |ok a5=>
       rintro e w5 ⟨rfl,S5,N,s⟩
       have M:Hid (w5.heap[w.heap.size]? =some (.map (esM n) 6)):=zbi I Y.out s
       have V:=H.trans s
       clear s
       have O:=zc (bdO HZ.out D)
       have X:=zc (zbV U.out D)
       go_wp2
       go_roundg (gk-1)
       case rel=>exact⟨S5,a5,O.out,by have:=X.out;omega,N,V,M.out⟩
       case measure=>omega
     |false=>
      cases t3:isT C j.pos 1 zaz with
      |true=>
       have A:za2 C j=stmtI C 5 sNone cSemi (adv j):=by rw[za2,t0,t1,t2,t3];simp only[Bool.false_eq_true,↓reduceIte]
       have HZ:=zc (ab.out.trans (zbU hp A))
       have U:=zc A
       clear A
       rw[zcq t3]
       have ah:=zcp L.out (znD n)
       go_wp2_with fail
       have I:=aa.out.adv hp
       have H:IS n S w K (w3.setCell ⟨n,1,none⟩ (.int .i64 ((j.pos:Int)+1))):=ac.set _ _
       have Y:Hid ((w3.setCell ⟨n,1,none⟩ (.int .i64 ((j.pos:Int)+1))).heap[w.heap.size]? =some (.map (esM n) 6)):=(zt ag).trans L.out
       refine (zhr C gt J z n K (adv j) _ I).mono ?_
       cases D:stmtI C 5 sNone cSemi (adv j) with
       |error p=>
        rintro e w5 ⟨rfl,Z⟩
        have HB:=(h.back H).trans Z
        have HX:Hid (zap C q= .error p):=bdE HZ.out D
        unfold Pan
        go_wp2
        refine⟨rfl,?_⟩
        rw[HX.out]
        exact⟨rfl,HB⟩
       |ok a5=>
        rintro e w5 ⟨rfl,S5,N,s⟩
        have M:Hid (w5.heap[w.heap.size]? =some (.map (esM n) 6)):=zbi I Y.out s
        have V:=H.trans s
        clear s
        have O:=zc (bdO HZ.out D)
        have X:=zc (zbV U.out D)
        go_wp2
        go_roundg (gk-1)
        case rel=>exact⟨S5,a5,O.out,by have:=X.out;omega,N,V,M.out⟩
        case measure=>omega
      |false=>
       cases t4:isT C j.pos 1 zad with
       |true=>
        have A:za2 C j=zaC C (adv j):=by rw[za2,t0,t1,t2,t3,t4,hs];simp only[Bool.false_eq_true,↓reduceIte,Bool.false_and,Bool.not_false,Bool.and_self]
        have HZ:=zc (ab.out.trans (zbU hp A))
        have U:=zc A
        clear A
        rw[zcq t4]
        have ah:=zcp L.out (znE n)
        go_wp2_with fail
        have I:=aa.out.adv hp
        have H:IS n S w K (w3.setCell ⟨n,1,none⟩ (.int .i64 ((j.pos:Int)+1))):=ac.set _ _
        have Y:Hid ((w3.setCell ⟨n,1,none⟩ (.int .i64 ((j.pos:Int)+1))).heap[w.heap.size]? =some (.map (esM n) 6)):=(zt ag).trans L.out
        refine (zne C gt J z n K (adv j) _ I hC).mono ?_
        cases D:zaC C (adv j) with
        |error p=>
         rintro e w5 ⟨rfl,Z⟩
         have HB:=(h.back H).trans Z
         have HX:Hid (zap C q= .error p):=bdE HZ.out D
         unfold Pan
         go_wp2
         refine⟨rfl,?_⟩
         rw[HX.out]
         exact⟨rfl,HB⟩
        |ok a5=>
         rintro e w5 ⟨rfl,S5,N,s⟩
         have M:Hid (w5.heap[w.heap.size]? =some (.map (esM n) 6)):=zbi I Y.out s
         have V:=H.trans s
         clear s
         have O:=zc (bdO HZ.out D)
         have X:=zc (zbV U.out D)
         go_wp2
         go_roundg (gk-1)
         case rel=>exact⟨S5,a5,O.out,by have:=X.out;omega,N,V,M.out⟩
         case measure=>omega
       |false=>
        cases t5:isT C j.pos 1 zab with
        |true=>
         have A:za2 C j=zam C (adv j):=by rw[za2,t0,t1,t2,t3,t4,t5,hs];simp only[Bool.false_eq_true,↓reduceIte,Bool.false_and,Bool.not_false,Bool.and_self,Bool.and_false]
         have HZ:=zc (ab.out.trans (zbU hp A))
         have U:=zc A
         clear A
         rw[zcq t5]
         have ah:=zcp L.out (znF n)
         go_wp2_with fail
         have I:=aa.out.adv hp
         have H:IS n S w K (w3.setCell ⟨n,1,none⟩ (.int .i64 ((j.pos:Int)+1))):=ac.set _ _
         have Y:Hid ((w3.setCell ⟨n,1,none⟩ (.int .i64 ((j.pos:Int)+1))).heap[w.heap.size]? =some (.map (esM n) 6)):=(zt ag).trans L.out
         refine (zn1 C gt J z n K (adv j) _ I hC).mono ?_
         cases D:zam C (adv j) with
         |error p=>
          rintro e w5 ⟨rfl,Z⟩
          have HB:=(h.back H).trans Z
          have HX:Hid (zap C q= .error p):=bdE HZ.out D
          unfold Pan
          go_wp2
          refine⟨rfl,?_⟩
          rw[HX.out]
          exact⟨rfl,HB⟩
         |ok a5=>
          rintro e w5 ⟨rfl,S5,N,s⟩
          have M:Hid (w5.heap[w.heap.size]? =some (.map (esM n) 6)):=zbi I Y.out s
          have V:=H.trans s
          clear s
          have O:=zc (bdO HZ.out D)
          have X:=zc (zbV U.out D)
          go_wp2
          go_roundg (gk-1)
          case rel=>exact⟨S5,a5,O.out,by have:=X.out;omega,N,V,M.out⟩
          case measure=>omega
        |false=>
         have A:za2 C j=letJ C 3 j:=by rw[za2,t0,t1,t2,t3,t4,t5,hs];simp only[Bool.false_eq_true,↓reduceIte,Bool.false_and,Bool.not_false,Bool.and_false]
         have HZ:=zc (ab.out.trans (zbU hp A))
         have U:=zc A
         clear A
         obtain⟨vz,ah⟩:=zi9 L.out (znG n (zcc C j.pos) (zcr t0 (by decide)) (zcr t1 (by decide)) (zcr t2 (by decide)) (zcr t3 (by decide)) (zcr t4 (by decide)) (zcr t5 (by decide)))
         go_wp2_with fail
         refine (zhp C gt J z n K j _ aa.out).mono ?_
         cases D:letJ C 3 j with
         |error p=>
          rintro e w5 ⟨rfl,Z⟩
          have HB:=(h.back ac).trans Z
          have HX:Hid (zap C q= .error p):=bdE HZ.out D
          unfold Pan
          go_wp2
          refine⟨rfl,?_⟩
          rw[HX.out]
          exact⟨rfl,HB⟩
         |ok a5=>
          rintro e w5 ⟨rfl,S5,N,s⟩
          have M:Hid (w5.heap[w.heap.size]? =some (.map (esM n) 6)):=zbi aa.out L.out s
          have V:=ac.trans s
          clear s
          have O:=zc (bdO HZ.out D)
          have X:=zc (zbV U.out D)
          go_wp2
          go_roundg (gk-1)
          case rel=>exact⟨S5,a5,O.out,by have:=X.out;omega,N,V,M.out⟩
          case measure=>omega
  ·have aB: ¬((j.pos:Int)<(C.ts.length:Int)):=by omega
   go_wp2_with fail
   refine wp_region_quiet_below (by kernel_rfl) (by kernel_rfl) ?_
   repeat (go_big_quiet_step (fail))
   refine wpQuiet_nil ?_
   intro w2 ao
   obtain⟨⟨dq,aC⟩,ad⟩:=ao
   have ae:Below wr.heap.size wr w2:=by show Below _ _ _;rw[ad];exact below_regrown _ _ _
   clear ad k0 k1 C0 C1
   have E:Hid (IM C gt J z n K j w2):=am.later ae
   have al:=av.trans (IS.below ae)
   have an:Hid (w2.heap[w.heap.size]? =some (.map (esM n) 6)):=zbi am aq.out (IS.below ae)
   have HX:=zc (ab.out.trans (ziH hp))
   obtain⟨c0,c1,c2,c3,c4,c5,c6,c7,c8,c9,cf⟩:=zY E.out.cells
   have ak:=E.out.mem.own.ep
   have aK:=E.out.mem.inv.ep
   have aj:=E.out.free
   have af:=zc aj
   clear aj
   have ar:=E.out.lt
   rcases E.out.mem.own.la.nil_or with ⟨ha,hc,hn⟩|⟨gl,ha⟩
   ·have HN:=zc (List.eq_nil_of_length_eq_zero hn)
    rw[ha,hc,hn] at c9
    clear ha hc hn
    go_wp2_with fail
    go_region_law (first|(refine ziG rfl (.tmp 41) (.tmp 45) 32 rfl 86 i0 Tryz.underlying32 hi z 4 j.ep.length K.ep _ (by rfl) (by exact ak) (by rfl) ?_))
    all_goals
     go_wp2
     go_end0
     rw[HX.out]
     refine⟨rfl,K,E.out.mem.wholeI0 HN.out af.out (fun k hk=>zt hk),⟨.slice (some ⟨gt,0,none⟩) C.ts.length J,.int .i64 j.pos,.int .i64 C.fin,.bool C.scr,.slice K.la.a j.la.length K.la.cap,(zag E.out.cells).trans (by simp[HN.out])⟩,?_⟩
     exact (h.back (al.set _ _)).drew
   ·have au:OwnR w2 z 86 4 ⟨some ⟨gl,0,none⟩,K.la.cap⟩ j.la.length (j.la.flatMap epL):=by have:=E.out.mem.own.la;unfold OwnR at this ⊢;rw[ha] at this;exact this
    rw[ha] at c9
    have ax:=E.out.mem.base
    have aE:Hid (some n≠K.ep.blk):=fun e=>af.out (.inr (.inr (.inl e.symm)))
    go_wp2_with fail
    go_region_law (first|(refine ziF rfl (.tmp 41) (.tmp 45) 32 rfl z 86 i0 _ 4 56 Tryz.underlying32 hi az aF aD rfl (by decide) (by decide) K.ep j.ep.length _ (by rfl) (by exact ak) gl j.la.length K.la.cap z _ (by rfl) (by exact au) (zfG _) (by omega) (by exact ax) ?_;intro r' wz hr ap aw;have g2:=(ap.block n (by exact ar) aE.out).trans (by exact E.out.cells);obtain⟨d0,d1,d2,d3,d4,d5,d6,d7,d8,d9,df⟩:=zY g2))
    all_goals
     have HR:=zc hr
     have ai:=zc ap
     have aA:=zc aw
     have an:=zc g2
     clear hr ap aw g2 c0 c1 c2 c3 c4 c5 c6 c7 c8 c9 cf ak au
     go_wp2
     go_end0
     rw[HX.out]
     refine⟨rfl,{K with ep:=r'},E.out.drew.mem.wholeI ai.out HR.out aA.out ar af.out (fun k hk=>zt hk),⟨.slice (some ⟨gt,0,none⟩) C.ts.length J,.int .i64 j.pos,.int .i64 C.fin,.bool C.scr,.slice K.la.a j.la.length K.la.cap,(zag an.out).trans (by simp)⟩,?_⟩
     exact ((h.back al).trans ⟨ai.out.os,ai.out.tape,ai.out.output,ai.out.size,fun k hk=>ai.out.block k (show k<w2.heap.size by omega) (fun e=>by have:=(E.out.mem.own.ep.typed e.symm).1;omega)⟩).setCell E.out.ge _
end Go.Proofs.YtjdddblpfbmpaaaGreat
