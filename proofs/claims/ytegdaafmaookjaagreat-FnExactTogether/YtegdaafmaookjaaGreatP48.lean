/- Facts. -/
import Derived.Maps.Own
import Derived.Test.YtegdaafmaookjaaGreatP27
namespace Go.Proofs.YtegdaafmaookjaaGreat
open Nat (le_refl)
open Go.Proofs.Tryz
set_option maxRecDepth 100000
set_option maxHeartbeats 1600000
open Go.RowKit Go.PlainAid Go.Sort Go.Maps Go.ChangeMaps
def eM (gp:Nat) (k:BA0) (f b:Nat):MapEntry:=⟨.string k,.func (.func f) #[.pointer (some ⟨gp,0,none⟩)] #[],b⟩
def esS (gp:Nat):Array MapEntry:=#[eM gp zN 227 0,eM gp zab 228 1,eM gp za5 229 2,eM gp zaI 230 3,eM gp zch 231 4]
def esM (gp:Nat):Array MapEntry:=#[eM gp zN 227 0,eM gp zab 228 1,eM gp za5 229 2,eM gp zaI 230 3,eM gp zat 232 4,eM gp zaq 233 5]
theorem zjw (b:Bool) (k:BA0) (W:World):(Instr.checkKey b 10000 9 (.string k)).run prog W= .ok () W:=by
 show (Instr.checkKey b (9999+1) 9 (.string k)).run prog W= .ok () W;rw[Instr.checkKey];simp[run_underlying underlying9]
variable (C:Cx) (g b c:Nat) (z:Int) (w:List Ep) (d:Nat) (s:BA0) (q:PS) {t:BA0} {W:World} {n:Nat} {S:Array MapEntry} {D:Cx} {p:PS}
theorem zjx {h:List MapEntry} {r:Option (Nat×Value)} (q:Instr.findNow .string (.string t) h 0=some r) (W:World):(Instr.findKey 9 (.string t) h).run prog W= .ok r W:=by
 simp[Instr.findKey,run_underlying underlying9,q]
theorem zdp {w0:World} {g c:Nat} {k:BA0} {v:Value} (w:W.heap[g]? =some (.map S c)) (H:Instr.findNow .string (.string k) S.toList 0=some none) (h:Below n w0 W) (hB:n<=g):
  ∃A,(Instr.mapUpdate 230 (.map (some g)) (.string k) v).run prog W= .ok () A/\A.heap[g]? =some (.map (S.push ⟨.string k,v,c⟩) (c+1))/\Below n w0 A:=by
 refine⟨setBlock W g (.map (S.push ⟨.string k,v,c⟩) (c+1)),?_,heap_setBlock_same w _,⟨h.os,h.tape,h.output,by simpa [setBlock] using h.size,fun i I=>(heap_setBlock_other w _ (by omega)).trans (h.block i I)⟩⟩;simp[Instr.mapUpdate,run_underlying underlying230,MapKept.run_getObj_map w,zjw,zjx H,MapKept.run_setObj_map _ w,Result.andThen,setBlock]
theorem zdq {c i:Nat} {v:Value} (q:W.heap[n]? =some (.map S c)) (w:Instr.findNow .string (.string t) S.toList 0=some (some (i,v))):
  (Instr.lookup 230 (.map (some n)) (.string t) true).run prog W= .ok (.tuple #[v,.bool true]) W:=by
 simp[Instr.lookup,run_underlying underlying230,MapKept.run_getObj_map q,zjw,zjx w,Result.andThen]
theorem znp {c:Nat} (w:W.heap[n]? =some (.map S c)) (A:Instr.findNow .string (.string t) S.toList 0=some none):
  ∃v,(Instr.lookup 230 (.map (some n)) (.string t) true).run prog W= .ok (.tuple #[v,.bool false]) W:=by
 have h: ∃v,(zeroValue 1).run prog W= .ok v W:=⟨.nilFunc,by kernel_rfl⟩;obtain⟨v,h⟩:=h;exact⟨v,by simp[Instr.lookup,run_underlying underlying230,MapKept.run_getObj_map w,zjw,zjx A,Result.andThen,h]⟩
theorem zvZ (S:Sv) (q:PS) (w:World) (h:IM C g b c d S q w) (hs:C.scr=true):
  Calls prog 212 #[.pointer (some ⟨d,0,none⟩)] w fun e w'=>e= .returned (.map (some w.heap.size))/\w'.heap[w.heap.size]? =some (.map (esS d) 5)/\Bw w w':=by
 have HH:=zc h;have Z:=@run_makeMap prog;have aa: ∀(U:Fn) (first b:Array Value) (w:World),(Instr.makeFunc U first b).run prog w= .ok (.func U first b) w:=fun _ _ _ _=>rfl;obtain⟨W1,r1,O,J⟩:=zdp (k:=zN) (v:=.func (.func 227) #[.pointer (some ⟨d,0,none⟩)] #[]) (hN0 w (.map #[] 0)) rfl ((Below.refl w.heap.size w).alloc (le_refl _) _) (le_refl _);obtain⟨W2,r2,M,V⟩:=zdp (k:=zab) (v:=.func (.func 228) #[.pointer (some ⟨d,0,none⟩)] #[]) O rfl J (le_refl _);obtain⟨W3,r3,Y,L⟩:=zdp (k:=za5) (v:=.func (.func 229) #[.pointer (some ⟨d,0,none⟩)] #[]) M rfl V (le_refl _);obtain⟨W4,r4,N,I⟩:=zdp (k:=zaI) (v:=.func (.func 230) #[.pointer (some ⟨d,0,none⟩)] #[]) Y rfl L (le_refl _);obtain⟨W5,r5,X,K⟩:=zdp (k:=zch) (v:=.func (.func 231) #[.pointer (some ⟨d,0,none⟩)] #[]) N rfl I (le_refl _);have G:=zc X;have B:=zc K;obtain⟨_,_,_,c3,_,_,_,_,_,_,cf⟩:=zan (HH.o.later I).cells;rw[hs] at c3;clear h O J M V Y L N I X K;go_enter func212,ntmps212;go_wp2;go_ret;exact⟨rfl,G.o,B.o⟩
theorem zwa:Instr.findNow .string (.string zN) (esS g).toList 0=some (some (0,.func (.func 227) #[.pointer (some ⟨g,0,none⟩)] #[])):=by rfl
theorem zwb:Instr.findNow .string (.string zab) (esS g).toList 0=some (some (1,.func (.func 228) #[.pointer (some ⟨g,0,none⟩)] #[])):=by rfl
theorem zwc:Instr.findNow .string (.string za5) (esS g).toList 0=some (some (2,.func (.func 229) #[.pointer (some ⟨g,0,none⟩)] #[])):=by rfl
theorem zwd:Instr.findNow .string (.string zaI) (esS g).toList 0=some (some (3,.func (.func 230) #[.pointer (some ⟨g,0,none⟩)] #[])):=by rfl
theorem zwe:Instr.findNow .string (.string zch) (esS g).toList 0=some (some (4,.func (.func 231) #[.pointer (some ⟨g,0,none⟩)] #[])):=by rfl
theorem zwf (H:(s==zN)=false) (A:(s==zab)=false) (q:(s==za5)=false) (I:(s==zaI)=false) (w:(s==zch)=false):Instr.findNow .string (.string s) (esS g).toList 0=some none:=by
 simp[esS,eM,Instr.findNow,Instr.sameNow,H,A,q,I,w]
theorem zwg (S:Sv) (q:PS) (w:World) (h:IM C g b c d S q w) (hs:C.scr=false):
  Calls prog 212 #[.pointer (some ⟨d,0,none⟩)] w fun e w'=>e= .returned (.map (some w.heap.size))/\w'.heap[w.heap.size]? =some (.map (esM d) 6)/\Bw w w':=by
 have HH:=zc h;have aa:=@run_makeMap prog;have ab: ∀(X:Fn) (first b:Array Value) (w:World),(Instr.makeFunc X first b).run prog w= .ok (.func X first b) w:=fun _ _ _ _=>rfl;obtain⟨W1,r1,V,K⟩:=zdp (k:=zN) (v:=.func (.func 227) #[.pointer (some ⟨d,0,none⟩)] #[]) (hN0 w (.map #[] 0)) rfl ((Below.refl w.heap.size w).alloc (le_refl _) _) (le_refl _);obtain⟨W2,r2,O,Y⟩:=zdp (k:=zab) (v:=.func (.func 228) #[.pointer (some ⟨d,0,none⟩)] #[]) V rfl K (le_refl _);obtain⟨W3,r3,g3,N⟩:=zdp (k:=za5) (v:=.func (.func 229) #[.pointer (some ⟨d,0,none⟩)] #[]) O rfl Y (le_refl _);obtain⟨W4,r4,U,I⟩:=zdp (k:=zaI) (v:=.func (.func 230) #[.pointer (some ⟨d,0,none⟩)] #[]) g3 rfl N (le_refl _);obtain⟨W5,r5,Z,L⟩:=zdp (k:=zat) (v:=.func (.func 232) #[.pointer (some ⟨d,0,none⟩)] #[]) U rfl I (le_refl _);obtain⟨W6,r6,J,M⟩:=zdp (k:=zaq) (v:=.func (.func 233) #[.pointer (some ⟨d,0,none⟩)] #[]) Z rfl L (le_refl _);have G:=zc J;have B:=zc M;obtain⟨_,_,_,c3,_,_,_,_,_,_,cf⟩:=zan (HH.o.later I).cells;rw[hs] at c3;clear h V K O Y g3 N U I Z L J M;go_enter func212,ntmps212;go_wp2;go_ret;exact⟨rfl,G.o,B.o⟩
theorem zwh:Instr.findNow .string (.string zN) (esM g).toList 0=some (some (0,.func (.func 227) #[.pointer (some ⟨g,0,none⟩)] #[])):=by rfl
theorem zwi:Instr.findNow .string (.string zab) (esM g).toList 0=some (some (1,.func (.func 228) #[.pointer (some ⟨g,0,none⟩)] #[])):=by rfl
theorem zwj:Instr.findNow .string (.string za5) (esM g).toList 0=some (some (2,.func (.func 229) #[.pointer (some ⟨g,0,none⟩)] #[])):=by rfl
theorem zwk:Instr.findNow .string (.string zaI) (esM g).toList 0=some (some (3,.func (.func 230) #[.pointer (some ⟨g,0,none⟩)] #[])):=by rfl
theorem zwl:Instr.findNow .string (.string zat) (esM g).toList 0=some (some (4,.func (.func 232) #[.pointer (some ⟨g,0,none⟩)] #[])):=by rfl
theorem zwm:Instr.findNow .string (.string zaq) (esM g).toList 0=some (some (5,.func (.func 233) #[.pointer (some ⟨g,0,none⟩)] #[])):=by rfl
theorem zwn (I:(s==zN)=false) (A:(s==zab)=false) (q:(s==za5)=false) (J:(s==zaI)=false) (w:(s==zat)=false) (H:(s==zaq)=false):Instr.findNow .string (.string s) (esM g).toList 0=some none:=by
 simp[esM,eM,Instr.findNow,Instr.sameNow,I,A,q,J,w,H]
def zaL (C:Cx) (q:PS):PR:=
 if isT C q.pos 1 zN then letJ C 1 (adv q)
 else if isT C q.pos 1 zab then fnI C (adv q)
 else if isT C q.pos 1 za5 then printI C (adv q)
 else if isT C q.pos 1 zaI then stmtI C 5 sNone cSemi (adv q)
 else if C.scr&&isT C q.pos 1 zch then stmtI C 6 sNone cSemi (adv q)
 else if !C.scr&&isT C q.pos 1 zat then zba C (adv q)
 else if !C.scr&&isT C q.pos 1 zaq then za4 C (adv q)
 else letJ C 3 q
theorem zwo:stmtI C z s cSemi q=bd (bd (bd (pE C .sum 0 q) (zd C 4 cSemi)) (zae C z s)) .ok:=by
 rw[zfx,zX,stmtI];refine zam fun a _=>?_;rw[show zaO C cSemi cSemi.size 0 a=zd C 4 cSemi a from zkQ C 59 a]
theorem zf8:bd (bd (pE C .sum 0 q) (zd C 4 cSemi)) (zae C z s)=stmtI C z s cSemi q:=by rw[zwo,zfx]
theorem zwp:bd (bd (bd (pE C .sum 0 q) (zd C 4 zaF)) (zd C 4 cSemi)) (zae C z s)=stmtI C z s cShutSemi q:=by
 rw[zX,zX,stmtI];refine zam fun a _=>?_;rw[show zaO C cShutSemi cShutSemi.size 0 a=bd (zd C 4 zaF a) (zd C 4 cSemi) from zkR C 41 59 a,zX]
theorem zwq:bd (bd (bd (pE C .sum 0 q) (zd C 4 cSemi)) (zd C 4 zbE)) (zae C z s)=stmtI C z s cSemiRight q:=by
 rw[zX,zX,stmtI];refine zam fun a _=>?_;rw[show zaO C cSemiRight cSemiRight.size 0 a=bd (zd C 4 cSemi a) (zd C 4 zbE) from zkR C 59 125 a,zX]
theorem znq (h:isT D p.pos 1 zN=true):zdh D p=bd (letJ D 1 (adv p)) fun a=>.ok (a,(ze D (p.pos+1)).text):=by
 rw[zdh,withN,zct h,zJ,letJ,zX];refine zam fun a w=>?_;rw[zX,zJ,zX,zX,zX];refine zam fun b _=>?_;rw[<-zX,<-zX,zf8,(zbF w).1];rfl
theorem znr (h:isT D p.pos 1 zab=true):fnP D p=bd (fnI D (adv p)) fun a=>.ok (a,(ze D (p.pos+1)).text):=by
 rw[fnP,withN,zct h,zJ,fnI,zX];refine zam fun a w=>?_;rw[show zaO D cCall cCall.size 0 a.1=bd (zd D 4 zu a.1) fun a=>bd (zd D 4 zaF a) (zd D 4 zU) from zq2 D 40 41 123 a.1,zX,zX,zJ];rw[(zbF w).1];simp only[zX,<-zwq];rfl
theorem zns (x:PR) (n:BA0):zbc (bd x fun a=>.ok (a,n))=x:=by rw[zbc,zX];exact zfx x
theorem zjy:impFromI C w q=bd (zbu C (zaT C (.ok q))) fun b=>zaf (fun e=>zau C (zcs b.2 e)) w (.ok b.1):=by
 rw[impFromI,zbu,zaT,zJ,zX,zX];refine zam fun a _=>zam fun b _=>?_;rw[zX];rfl
theorem zwr (h:isT D p.pos 1 zat=true):zbo D p=zba D (adv p):=by
 rw[zbo,zct h,zJ,zba];cases J:isT D (adv p).pos 4 zU with
 |true=>
  have w:((ze D (adv p).pos).kind==3)=false:=by
   have:=zhi J;rw[beq_iff_eq] at this;rw[this];rfl
  rw[w];simp only[fE,↓reduceIte];rw[zd2,zct J,zJ];refine zam fun a _=>?_;rw[zjy]
 |false=>
  cases I:isT D (adv p).pos 4 zG with
  |true=>
   have w:((ze D (adv p).pos).kind==3)=false:=by
    have:=zhi I;rw[beq_iff_eq] at this;rw[this];rfl
   rw[w];simp only[fE,↓reduceIte];rw[zct I,zJ,zX];refine zam fun a _=>zam fun b _=>?_;rw[zjy];rfl
  |false=>
   cases H:zO D (adv p).pos false with
   |true=>
    have w:((ze D (adv p).pos).kind==3)=false:=by
     have A:=H;simp only[zO,Bool.and_eq_true,beq_iff_eq] at A;rw[A.1];rfl
    rw[w];simp only[fE,↓reduceIte];refine zam fun a _=>?_;rw[zjy];rfl
   |false=>
    cases w:((ze D (adv p).pos).kind==3) with
    |true=>simp only[fE,↓reduceIte]
    |false=>
     simp only[fE,↓reduceIte];rw[zR,w,zq,H];rfl
theorem zws (h:isT C q.pos 1 zac=false) (k:zaN w=false):zaK C w q=bd (zd C 4 cSemi q) fun q=>zaf (fun e=>zv C (zL e)) w (.ok q):=by rw[zaK,h,k];rfl
theorem znt (h:(isT C q.pos 1 zac||zaN w)=true):zaK C w q=bd (zbu C (zaT C (.ok q))) fun b=>zaf (fun e=>zv C (za2 b.2 e)) w (.ok b.1):=by
 rw[zaK,h,if_pos rfl,zbu,zaT,zJ,zX,zX];refine zam fun a _=>zam fun b _=>?_;rw[zX];rfl
theorem zwt (h:isT D p.pos 1 zaq=true):zav D p=za4 D (adv p):=by
 rw[zav,zct h,zJ,za4];cases J:isT D (adv p).pos 4 zU with
 |true=>
  simp only[↓reduceIte];rw[zd2,zct J,zJ];refine zam fun a _=>?_;cases A:isT D a.1.pos 1 zac with
  |true=>rw[znt D a.2 a.1 (by rw[A];rfl),if_neg (by simp)]
  |false=>
   cases w:zaN a.2 with
   |true=>rw[znt D a.2 a.1 (by rw[w];simp),if_neg (by simp)]
   |false=>rw[zws D a.2 a.1 A w,if_pos (by simp)]
 |false=>
  cases H:isT D (adv p).pos 4 zG with
  |true=>
   simp only[fE,↓reduceIte];rw[zct H,zbu,zaT,zJ,zX,zX];refine zam fun a _=>zam fun b _=>?_;rw[zX];rfl
  |false=>
   cases L:isT D (adv p).pos 1 sDefault with
   |true=>
    simp only[fE,↓reduceIte];rw[zct L,zJ,zf8]
   |false=>
    cases I:isT D (adv p).pos 1 zN with
    |true=>
     simp only[fE,↓reduceIte];rw[znq I,zX];rfl
    |false=>
     cases K:isT D (adv p).pos 1 zab with
     |true=>
      simp only[fE,↓reduceIte];rw[znr K,zX];rfl
     |false=>simp only[fE,↓reduceIte]
theorem ze0 {y:BA0} (h:isT D n 1 t=true) (q:(t.toList==y.toList)=false):isT D n 1 y=false:=by
 have e:=ziC h;rw[isT,e,q];simp
theorem znu:zaL C q=zK C q:=by
 rw[zaL,zK];cases A:isT C q.pos 1 zN with
 |true=>
  rw[ze0 A (y:=zat) (by simp),ze0 A (y:=zaq) (by simp)];simp only[fE,↓reduceIte,Bool.and_false];rw[znq A,zns]
 |false=>
  cases h:isT C q.pos 1 zab with
  |true=>
   rw[ze0 h (y:=zat) (by simp),ze0 h (y:=zaq) (by simp)];simp only[fE,↓reduceIte,Bool.and_false];rw[znr h,zns]
  |false=>
   cases H:isT C q.pos 1 za5 with
   |true=>
    rw[ze0 H (y:=zat) (by simp),ze0 H (y:=zaq) (by simp)];simp only[fE,↓reduceIte,Bool.and_false];rw[zct H,zJ,printI,zX,zX,zX];refine zam fun a _=>?_;rw[<-zwp,zX,zX]
   |false=>
    cases w:isT C q.pos 1 zaI with
    |true=>
     rw[ze0 w (y:=zat) (by simp),ze0 w (y:=zaq) (by simp)];simp only[fE,↓reduceIte,Bool.and_false];rw[zct w,zJ,zf8]
    |false=>
     cases L:C.scr with
     |true=>
      cases K:isT C q.pos 1 zch with
      |true=>
       simp only[fE,↓reduceIte,Bool.not_true,Bool.false_and,Bool.and_self];rw[zct K,zJ,zf8]
      |false=>
       simp only[fE,↓reduceIte,Bool.not_true,Bool.false_and,Bool.and_false];rw[letJ];refine zam fun a _=>?_;rw[zX,zX];refine zam fun b _=>?_;rw[<-zX,zf8]
     |false=>
      cases I:isT C q.pos 1 zat with
      |true=>
       simp only[fE,↓reduceIte,Bool.not_false,Bool.false_and,Bool.and_self];rw[zwr I]
      |false=>
       cases J:isT C q.pos 1 zaq with
       |true=>
        simp only[fE,↓reduceIte,Bool.not_false,Bool.false_and,Bool.and_self,Bool.and_false];rw[zwt J]
       |false=>
        simp only[fE,↓reduceIte,Bool.not_false,Bool.false_and,Bool.and_false];rw[letJ];refine zam fun a _=>?_;rw[zX,zX];refine zam fun b _=>?_;rw[<-zX,zf8]
set_option maxHeartbeats 3200000
variable {C:Cx} {g:Nat} {s:BA0} {q:PS} {w:PR}
theorem zdr (h:isT C g 1 s=true):zcX C g=s:=by
 rw[zcX,zhi h,ziC h];rfl
theorem zds (h:isT C g 1 s=false) (w:sNone≠s):(zcX C g==s)=false:=by
 rw[Bool.eq_false_iff];intro e;rw[MapKept.bytes_beq] at e;cases q:((ze C g).kind==1) with
 |false=>
  rw[zcX,q] at e;exact w e
 |true=>
  rw[zcX,q,if_pos rfl] at e;rw[isT,q,e] at h;simp at h
theorem zbO {A base H z c:Nat} {S J:Sv} {W w':World} {I:Array MapEntry} (h:IM C g A base H S q W) (w:W.heap[z]? =some (.map I c)) (s:IS H S W J w'):w'.heap[z]? =some (.map I c):=by
 refine (s.block z (aLt w) (fun k=>?_) (fun e=>?_)).trans w
 ·rcases k with k|k|k|k|k|k
  ·obtain⟨_,_,c,e⟩:=h.mem.own.rq.typed k;rw[w] at e;cases e
  ·obtain⟨_,_,c,e⟩:=h.mem.own.im.typed k;rw[w] at e;cases e
  ·obtain⟨_,_,c,e⟩:=h.mem.own.ep.typed k;rw[w] at e;cases e
  ·obtain⟨_,_,c,e⟩:=h.mem.own.st.typed k;rw[w] at e;cases e
  ·obtain⟨_,_,c,e⟩:=h.mem.own.ex.typed k;rw[w] at e;cases e
  ·obtain⟨_,_,c,e⟩:=h.mem.own.la.typed k;rw[w] at e;cases e
 ·have:=h.cells;rw[<-e,w] at this;cases this
theorem zcP (h:q.pos<C.ts.length) (W:zaL C q=w):za6 C q=bd w (za6 C):=by rw[zgW,if_pos h,<-znu,W]
theorem znx (h: ¬q.pos<C.ts.length):za6 C q= .ok q:=by rw[zgW,if_neg h]
theorem zcQ {a:PS} (W:zaL C q=w) (h:w= .ok a):q.pos<a.pos:=zgV (by rw[<-znu,W,h])
def zjz (base gp:Nat) (y:PR) (w:World) (e:Ending) (w':World):Prop:=
 match y with
 | .ok q=>e= .returned (.tuple #[])/\∃S,OwnMod w' base S q/\(∃v0 v1 v2 v3 v9,w'.heap[gp]? =some (.cells #[v0,v1,v2,v3,.slice S.rq.a q.rq.length S.rq.cap,.slice S.im.a q.im.length S.im.cap,.slice S.ep.a (q.ep++q.la).length S.ep.cap,.slice S.st.a q.st.length S.st.cap,.slice S.ex.a q.ex.length S.ex.cap,v9] 222 (0,0)))/\Below base w w'
 | .error p=>e=Pan p/\Below base w w'
theorem zwu (C:Cx) (gt L base H:Nat) (S:Sv) (q:PS) (w:World) (h:IM C gt L base H S q w) (hs:C.scr=true):
  Calls prog 191 #[.pointer (some ⟨H,0,none⟩)] w (zjz base H (za6 C q) w):=by
 obtain⟨i0,hi,aC,aI,aG⟩:=info_parts Tryz.infoExp;go_enter func191,ntmps191;go_wp2_with fail;refine (zvZ C gt L base H S q _ h hs).mono ?_;rintro e w1 ⟨rfl,hg,hb⟩;have aJ:=h.later hb;have aB:IS H S w S w1:=IS.below hb;have aK:=zc hg;clear hg hb;go_wp2;go_loopg [] (C.ts.length+1) (fun k wr=>∃(O:Sv) (A:PS),za6 C q=za6 C A/\C.ts.length-A.pos<k/\IM C gt L base H O A wr/\IS H S w O wr/\wr.heap[w.heap.size]? =some (.map (esS H) 5))
 case atStart=>exact⟨S,q,rfl,by omega,aJ,aB,aK.o⟩
 case round=>
  obtain⟨O,A,hy,hk,m',s',g'⟩:=hrel;have af:=zc hy;have ap:=m';have ay:=s';have av:Hid (wr.heap[w.heap.size]? =some (.map (esS H) 5)):=g';obtain⟨c0,c1,_,_,_,_,_,_,_,_,_⟩:=zan m'.cells;have C0:=zc c0;have C1:=zc c1;have aM:=m'.mem.inv.pos;have aL:=m'.mem.few;clear hy m' s' g' c0 c1;have k0:=cR0 C0.o;have k1:=cR0 C1.o;by_cases hp:A.pos<C.ts.length
  ·have aE:((A.pos:Int)<(C.ts.length:Int)):=by omega
   go_wp2_with fail;refine wp_region_quiet_below (by kernel_rfl) (by kernel_rfl) ?_
   repeat (go_big_quiet_step (fail))
   refine wpQuiet_nil ?_;intro w2 ar;obtain⟨⟨dq,aF⟩,ad⟩:=ar;have ah:Bw wr w2:=by show Below _ _ _;rw[ad];exact below_regrown _ _ _
   clear ad k0 k1 C0 C1;have K:Hid (IM C gt L base H O A w2):=ap.later ah;have ao:=ay.trans (IS.below ah);have aq:Hid (w2.heap[w.heap.size]? =some (.map (esS H) 5)):=zbO ap av.o (IS.below ah);go_wp2_with fail;refine (zkZ C gt L base H O A _ K.o).mono ?_;rintro e w3 ⟨rfl,hb⟩;have ae:Hid (IM C gt L base H O A w3):=K.o.later hb;have ag:=ao.trans (IS.below hb);have U:Hid (w3.heap[w.heap.size]? =some (.map (esS H) 5)):=zbO K.o aq.o (IS.below hb);clear hb;have ak:w.heap.size≠H:=by have:=h.lt;omega
   obtain⟨c0,c1,c2,c3,c4,c5,c6,c7,c8,c9,cf⟩:=zan ae.o.cells;cases t0:isT C A.pos 1 zN with
   |true=>
    have I:zaL C A=letJ C 1 (adv A):=by rw[zaL,t0];rfl
    have HZ:=zc (af.o.trans (zcP hp I));have Z:=zc I;clear I;rw[zdr t0];have al:=zdq U.o (zwa H);go_wp2_with fail;have N:=ae.o.adv hp;have M:IS H S w O (w3.setCell ⟨H,1,none⟩ (.int .i64 ((A.pos:Int)+1))):=ag.set _ _;have ac:Hid ((w3.setCell ⟨H,1,none⟩ (.int .i64 ((A.pos:Int)+1))).heap[w.heap.size]? =some (.map (esS H) 5)):=(zC ak).trans U.o;refine (ziE C gt L base H O (adv A) _ N).mono ?_;cases J:letJ C 1 (adv A) with
    |error p=>
     rintro e w5 ⟨rfl,hb⟩;have HB:=(h.back M).trans hb;have HX:Hid (za6 C q= .error p):=bdE HZ.o J;unfold Pan;go_wp2;refine⟨rfl,?_⟩;rw[HX.o];exact⟨rfl,HB⟩
    |ok a5=>
     rintro e w5 ⟨rfl,S5,X,s⟩;have V:Hid (w5.heap[w.heap.size]? =some (.map (esS H) 5)):=zbO N ac.o s;have aa:=M.trans s;clear s;have Y:=zc (bdO HZ.o J);have ab:=zc (zcQ Z.o J);go_wp2;go_roundg (gk-1)
     case rel=>exact⟨S5,a5,Y.o,by have:=ab.o;omega,X,aa,V.o⟩
     case measure=>omega
   |false=>
    cases t1:isT C A.pos 1 zab with
    |true=>
     have I:zaL C A=fnI C (adv A):=by rw[zaL,t0,t1];simp only[fE,↓reduceIte]
     have HZ:=zc (af.o.trans (zcP hp I));have Z:=zc I;clear I;rw[zdr t1];have al:=zdq U.o (zwb H);go_wp2_with fail;have N:=ae.o.adv hp;have M:IS H S w O (w3.setCell ⟨H,1,none⟩ (.int .i64 ((A.pos:Int)+1))):=ag.set _ _;have ac:Hid ((w3.setCell ⟨H,1,none⟩ (.int .i64 ((A.pos:Int)+1))).heap[w.heap.size]? =some (.map (esS H) 5)):=(zC ak).trans U.o;refine (ziF C gt L base H O (adv A) _ N).mono ?_;cases J:fnI C (adv A) with
     |error p=>
      rintro e w5 ⟨rfl,hb⟩;have HB:=(h.back M).trans hb;have HX:Hid (za6 C q= .error p):=bdE HZ.o J;unfold Pan;go_wp2;refine⟨rfl,?_⟩;rw[HX.o];exact⟨rfl,HB⟩
     |ok a5=>
      rintro e w5 ⟨rfl,S5,X,s⟩;have V:Hid (w5.heap[w.heap.size]? =some (.map (esS H) 5)):=zbO N ac.o s;have aa:=M.trans s;clear s;have Y:=zc (bdO HZ.o J);have ab:=zc (zcQ Z.o J);go_wp2;go_roundg (gk-1)
      case rel=>exact⟨S5,a5,Y.o,by have:=ab.o;omega,X,aa,V.o⟩
      case measure=>omega
    |false=>
     cases t2:isT C A.pos 1 za5 with
     |true=>
      have I:zaL C A=printI C (adv A):=by rw[zaL,t0,t1,t2];simp only[fE,↓reduceIte]
      have HZ:=zc (af.o.trans (zcP hp I));have Z:=zc I;clear I;rw[zdr t2];have al:=zdq U.o (zwc H);go_wp2_with fail;have N:=ae.o.adv hp;have M:IS H S w O (w3.setCell ⟨H,1,none⟩ (.int .i64 ((A.pos:Int)+1))):=ag.set _ _;have ac:Hid ((w3.setCell ⟨H,1,none⟩ (.int .i64 ((A.pos:Int)+1))).heap[w.heap.size]? =some (.map (esS H) 5)):=(zC ak).trans U.o;refine (zkX C gt L base H O (adv A) _ N).mono ?_;cases J:printI C (adv A) with
      |error p=>
       rintro e w5 ⟨rfl,hb⟩;have HB:=(h.back M).trans hb;have HX:Hid (za6 C q= .error p):=bdE HZ.o J;unfold Pan;go_wp2;refine⟨rfl,?_⟩;rw[HX.o];exact⟨rfl,HB⟩
      |ok a5=>
       rintro e w5 ⟨rfl,S5,X,s⟩;have V:Hid (w5.heap[w.heap.size]? =some (.map (esS H) 5)):=zbO N ac.o s;have aa:=M.trans s;clear s;have Y:=zc (bdO HZ.o J);have ab:=zc (zcQ Z.o J);go_wp2;go_roundg (gk-1)
       case rel=>exact⟨S5,a5,Y.o,by have:=ab.o;omega,X,aa,V.o⟩
       case measure=>omega
     |false=>
      cases t3:isT C A.pos 1 zaI with
      |true=>
       have I:zaL C A=stmtI C 5 sNone cSemi (adv A):=by rw[zaL,t0,t1,t2,t3];simp only[fE,↓reduceIte]
       have HZ:=zc (af.o.trans (zcP hp I));have Z:=zc I;clear I;rw[zdr t3];have al:=zdq U.o (zwd H);go_wp2_with fail;have N:=ae.o.adv hp;have M:IS H S w O (w3.setCell ⟨H,1,none⟩ (.int .i64 ((A.pos:Int)+1))):=ag.set _ _;have ac:Hid ((w3.setCell ⟨H,1,none⟩ (.int .i64 ((A.pos:Int)+1))).heap[w.heap.size]? =some (.map (esS H) 5)):=(zC ak).trans U.o;refine (zkY C gt L base H O (adv A) _ N).mono ?_;cases J:stmtI C 5 sNone cSemi (adv A) with
       |error p=>
        rintro e w5 ⟨rfl,hb⟩;have HB:=(h.back M).trans hb;have HX:Hid (za6 C q= .error p):=bdE HZ.o J;unfold Pan;go_wp2;refine⟨rfl,?_⟩;rw[HX.o];exact⟨rfl,HB⟩
       |ok a5=>
        rintro e w5 ⟨rfl,S5,X,s⟩;have V:Hid (w5.heap[w.heap.size]? =some (.map (esS H) 5)):=zbO N ac.o s;have aa:=M.trans s;clear s;have Y:=zc (bdO HZ.o J);have ab:=zc (zcQ Z.o J);go_wp2;go_roundg (gk-1)
        case rel=>exact⟨S5,a5,Y.o,by have:=ab.o;omega,X,aa,V.o⟩
        case measure=>omega
      |false=>
       cases t4:isT C A.pos 1 zch with
       |true=>
        have I:zaL C A=stmtI C 6 sNone cSemi (adv A):=by rw[zaL,t0,t1,t2,t3,t4,hs];simp only[fE,↓reduceIte,Bool.and_self]
        have HZ:=zc (af.o.trans (zcP hp I));have Z:=zc I;clear I;rw[zdr t4];have al:=zdq U.o (zwe H);go_wp2_with fail;have N:=ae.o.adv hp;have M:IS H S w O (w3.setCell ⟨H,1,none⟩ (.int .i64 ((A.pos:Int)+1))):=ag.set _ _;have ac:Hid ((w3.setCell ⟨H,1,none⟩ (.int .i64 ((A.pos:Int)+1))).heap[w.heap.size]? =some (.map (esS H) 5)):=(zC ak).trans U.o;refine (zqP C gt L base H O (adv A) _ N).mono ?_;cases J:stmtI C 6 sNone cSemi (adv A) with
        |error p=>
         rintro e w5 ⟨rfl,hb⟩;have HB:=(h.back M).trans hb;have HX:Hid (za6 C q= .error p):=bdE HZ.o J;unfold Pan;go_wp2;refine⟨rfl,?_⟩;rw[HX.o];exact⟨rfl,HB⟩
        |ok a5=>
         rintro e w5 ⟨rfl,S5,X,s⟩;have V:Hid (w5.heap[w.heap.size]? =some (.map (esS H) 5)):=zbO N ac.o s;have aa:=M.trans s;clear s;have Y:=zc (bdO HZ.o J);have ab:=zc (zcQ Z.o J);go_wp2;go_roundg (gk-1)
         case rel=>exact⟨S5,a5,Y.o,by have:=ab.o;omega,X,aa,V.o⟩
         case measure=>omega
       |false=>
        have I:zaL C A=letJ C 3 A:=by rw[zaL,t0,t1,t2,t3,t4,hs];simp only[fE,↓reduceIte,Bool.and_false,Bool.not_true,Bool.false_and]
        have HZ:=zc (af.o.trans (zcP hp I));have Z:=zc I;clear I;obtain⟨vz,al⟩:=znp U.o (zwf H (zcX C A.pos) (zds t0 (by decide)) (zds t1 (by decide)) (zds t2 (by decide)) (zds t3 (by decide)) (zds t4 (by decide)));go_wp2_with fail;refine (zkW C gt L base H O A _ ae.o).mono ?_;cases J:letJ C 3 A with
        |error p=>
         rintro e w5 ⟨rfl,hb⟩;have HB:=(h.back ag).trans hb;have HX:Hid (za6 C q= .error p):=bdE HZ.o J;unfold Pan;go_wp2;refine⟨rfl,?_⟩;rw[HX.o];exact⟨rfl,HB⟩
        |ok a5=>
         rintro e w5 ⟨rfl,S5,X,s⟩;have V:Hid (w5.heap[w.heap.size]? =some (.map (esS H) 5)):=zbO ae.o U.o s;have aa:=ag.trans s;clear s;have Y:=zc (bdO HZ.o J);have ab:=zc (zcQ Z.o J);go_wp2;go_roundg (gk-1)
         case rel=>exact⟨S5,a5,Y.o,by have:=ab.o;omega,X,aa,V.o⟩
         case measure=>omega
  ·have aE: ¬((A.pos:Int)<(C.ts.length:Int)):=by omega
   go_wp2_with fail;refine wp_region_quiet_below (by kernel_rfl) (by kernel_rfl) ?_
   repeat (go_big_quiet_step (fail))
   refine wpQuiet_nil ?_;intro w2 ar;obtain⟨⟨dq,aF⟩,ad⟩:=ar;have ah:Bw wr w2:=by show Below _ _ _;rw[ad];exact below_regrown _ _ _
   clear ad k0 k1 C0 C1;have K:Hid (IM C gt L base H O A w2):=ap.later ah;have ao:=ay.trans (IS.below ah);have aq:Hid (w2.heap[w.heap.size]? =some (.map (esS H) 5)):=zbO ap av.o (IS.below ah);have HX:=zc (af.o.trans (znx hp));obtain⟨c0,c1,c2,c3,c4,c5,c6,c7,c8,c9,cf⟩:=zan K.o.cells;have an:=K.o.mem.own.ep;have aN:=K.o.mem.inv.ep;have am:=K.o.free;have ai:=zc am;clear am;have aw:=K.o.lt;rcases K.o.mem.own.la.nil_or with ⟨ha,hc,hn⟩|⟨gl,ha⟩
   ·have HN:=zc (List.eq_nil_of_length_eq_zero hn);rw[ha,hc,hn] at c9;clear ha hc hn;go_wp2_with fail;go_region_law (first|(refine znw rfl (.tmp 41) (.tmp 45) 55 rfl 103 i0 underlying55 hi base 4 A.ep.length O.ep _ (by rfl) (by exact an) (by rfl) ?_))
    all_goals
     go_wp2;go_end0;rw[HX.o];refine⟨rfl,O,K.o.mem.wholeI0 HN.o ai.o (fun k hk=>zC hk),⟨.slice (some ⟨gt,0,none⟩) C.ts.length L,.int .i64 A.pos,.int .i64 C.fin,.bool C.scr,.slice O.la.a A.la.length O.la.cap,(zaj K.o.cells).trans (by simp[HN.o])⟩,?_⟩;exact (h.back (ao.set _ _)).drew
   ·have ax:OwnR w2 base 103 4 ⟨some ⟨gl,0,none⟩,O.la.cap⟩ A.la.length (A.la.flatMap epL):=by have:=K.o.mem.own.la;unfold OwnR at this ⊢;rw[ha] at this;exact this
    rw[ha] at c9;have aA:=K.o.mem.base;have aH:Hid (some H≠O.ep.blk):=fun e=>ai.o (.inr (.inr (.inl e.symm)));go_wp2_with fail;go_region_law (first|(refine znv rfl (.tmp 41) (.tmp 45) 55 rfl base 103 i0 _ 4 56 underlying55 hi aC aI aG rfl (by decide) (by decide) O.ep A.ep.length _ (by rfl) (by exact an) gl A.la.length O.la.cap base _ (by rfl) (by exact ax) (zi3 _) (by omega) (by exact aA) ?_;intro r' wz hr au az;have g2:=(au.block H (by exact aw) aH.o).trans (by exact K.o.cells);obtain⟨d0,d1,d2,d3,d4,d5,d6,d7,d8,d9,df⟩:=zan g2))
    all_goals
     have HR:=zc hr;have aj:=zc au;have aD:=zc az;have aq:=zc g2;clear hr au az g2 c0 c1 c2 c3 c4 c5 c6 c7 c8 c9 cf an ax;go_wp2;go_end0;rw[HX.o];refine⟨rfl,{O with ep:=r'},K.o.drew.mem.wholeI aj.o HR.o aD.o aw ai.o (fun k hk=>zC hk),⟨.slice (some ⟨gt,0,none⟩) C.ts.length L,.int .i64 A.pos,.int .i64 C.fin,.bool C.scr,.slice O.la.a A.la.length O.la.cap,(zaj aq.o).trans (by simp)⟩,?_⟩;exact ((h.back ao).trans ⟨aj.o.os,aj.o.tape,aj.o.output,aj.o.size,fun k hk=>aj.o.block k (show k<w2.heap.size by omega) (fun e=>by have:=(K.o.mem.own.ep.typed e.symm).1;omega)⟩).setCell K.o.ge _
theorem zwv (C:Cx) (gt N base H:Nat) (S:Sv) (q:PS) (w:World) (h:IM C gt N base H S q w) (hC:zb2 C) (hs:C.scr=false):
  Calls prog 191 #[.pointer (some ⟨H,0,none⟩)] w (zjz base H (za6 C q) w):=by
 obtain⟨i0,hi,aC,aI,aG⟩:=info_parts Tryz.infoExp;go_enter func191,ntmps191;go_wp2_with fail;refine (zwg C gt N base H S q _ h hs).mono ?_;rintro e w1 ⟨rfl,hg,hb⟩;have aJ:=h.later hb;have aB:IS H S w S w1:=IS.below hb;have aK:=zc hg;clear hg hb;go_wp2;go_loopg [] (C.ts.length+1) (fun k wr=>∃(O:Sv) (A:PS),za6 C q=za6 C A/\C.ts.length-A.pos<k/\IM C gt N base H O A wr/\IS H S w O wr/\wr.heap[w.heap.size]? =some (.map (esM H) 6))
 case atStart=>exact⟨S,q,rfl,by omega,aJ,aB,aK.o⟩
 case round=>
  obtain⟨O,A,hy,hk,m',s',g'⟩:=hrel;have ae:=zc hy;have ap:=m';have ay:=s';have av:Hid (wr.heap[w.heap.size]? =some (.map (esM H) 6)):=g';obtain⟨c0,c1,_,_,_,_,_,_,_,_,_⟩:=zan m'.cells;have C0:=zc c0;have C1:=zc c1;have aM:=m'.mem.inv.pos;have aL:=m'.mem.few;clear hy m' s' g' c0 c1;have k0:=cR0 C0.o;have k1:=cR0 C1.o;by_cases hp:A.pos<C.ts.length
  ·have aE:((A.pos:Int)<(C.ts.length:Int)):=by omega
   go_wp2_with fail;refine wp_region_quiet_below (by kernel_rfl) (by kernel_rfl) ?_
   repeat (go_big_quiet_step (fail))
   refine wpQuiet_nil ?_;intro w2 ar;obtain⟨⟨dq,aF⟩,ag⟩:=ar;have ah:Bw wr w2:=by show Below _ _ _;rw[ag];exact below_regrown _ _ _
   clear ag k0 k1 C0 C1;have K:Hid (IM C gt N base H O A w2):=ap.later ah;have ao:=ay.trans (IS.below ah);have aq:Hid (w2.heap[w.heap.size]? =some (.map (esM H) 6)):=zbO ap av.o (IS.below ah);go_wp2_with fail;refine (zkZ C gt N base H O A _ K.o).mono ?_;rintro e w3 ⟨rfl,hb⟩;have ad:Hid (IM C gt N base H O A w3):=K.o.later hb;have af:=ao.trans (IS.below hb);have U:Hid (w3.heap[w.heap.size]? =some (.map (esM H) 6)):=zbO K.o aq.o (IS.below hb);clear hb;have aj:w.heap.size≠H:=by have:=h.lt;omega
   obtain⟨c0,c1,c2,c3,c4,c5,c6,c7,c8,c9,cf⟩:=zan ad.o.cells;cases t0:isT C A.pos 1 zN with
   |true=>
    have I:zaL C A=letJ C 1 (adv A):=by rw[zaL,t0];rfl
    have HZ:=zc (ae.o.trans (zcP hp I));have Z:=zc I;clear I;rw[zdr t0];have ak:=zdq U.o (zwh H);go_wp2_with fail;have M:=ad.o.adv hp;have L:IS H S w O (w3.setCell ⟨H,1,none⟩ (.int .i64 ((A.pos:Int)+1))):=af.set _ _;have ac:Hid ((w3.setCell ⟨H,1,none⟩ (.int .i64 ((A.pos:Int)+1))).heap[w.heap.size]? =some (.map (esM H) 6)):=(zC aj).trans U.o;refine (ziE C gt N base H O (adv A) _ M).mono ?_;cases J:letJ C 1 (adv A) with
    |error p=>
     rintro e w5 ⟨rfl,hb⟩;have HB:=(h.back L).trans hb;have HX:Hid (za6 C q= .error p):=bdE HZ.o J;unfold Pan;go_wp2;refine⟨rfl,?_⟩;rw[HX.o];exact⟨rfl,HB⟩
    |ok a5=>
     rintro e w5 ⟨rfl,S5,X,s⟩;have V:Hid (w5.heap[w.heap.size]? =some (.map (esM H) 6)):=zbO M ac.o s;have aa:=L.trans s;clear s;have Y:=zc (bdO HZ.o J);have ab:=zc (zcQ Z.o J);go_wp2;go_roundg (gk-1)
     case rel=>exact⟨S5,a5,Y.o,by have:=ab.o;omega,X,aa,V.o⟩
     case measure=>omega
   |false=>
    cases t1:isT C A.pos 1 zab with
    |true=>
     have I:zaL C A=fnI C (adv A):=by rw[zaL,t0,t1];simp only[fE,↓reduceIte]
     have HZ:=zc (ae.o.trans (zcP hp I));have Z:=zc I;clear I;rw[zdr t1];have ak:=zdq U.o (zwi H);go_wp2_with fail;have M:=ad.o.adv hp;have L:IS H S w O (w3.setCell ⟨H,1,none⟩ (.int .i64 ((A.pos:Int)+1))):=af.set _ _;have ac:Hid ((w3.setCell ⟨H,1,none⟩ (.int .i64 ((A.pos:Int)+1))).heap[w.heap.size]? =some (.map (esM H) 6)):=(zC aj).trans U.o;refine (ziF C gt N base H O (adv A) _ M).mono ?_;cases J:fnI C (adv A) with
     |error p=>
      rintro e w5 ⟨rfl,hb⟩;have HB:=(h.back L).trans hb;have HX:Hid (za6 C q= .error p):=bdE HZ.o J;unfold Pan;go_wp2;refine⟨rfl,?_⟩;rw[HX.o];exact⟨rfl,HB⟩
     |ok a5=>
      rintro e w5 ⟨rfl,S5,X,s⟩;have V:Hid (w5.heap[w.heap.size]? =some (.map (esM H) 6)):=zbO M ac.o s;have aa:=L.trans s;clear s;have Y:=zc (bdO HZ.o J);have ab:=zc (zcQ Z.o J);go_wp2;go_roundg (gk-1)
      case rel=>exact⟨S5,a5,Y.o,by have:=ab.o;omega,X,aa,V.o⟩
      case measure=>omega
    |false=>
     cases t2:isT C A.pos 1 za5 with
     |true=>
      have I:zaL C A=printI C (adv A):=by rw[zaL,t0,t1,t2];simp only[fE,↓reduceIte]
      have HZ:=zc (ae.o.trans (zcP hp I));have Z:=zc I;clear I;rw[zdr t2];have ak:=zdq U.o (zwj H);go_wp2_with fail;have M:=ad.o.adv hp;have L:IS H S w O (w3.setCell ⟨H,1,none⟩ (.int .i64 ((A.pos:Int)+1))):=af.set _ _;have ac:Hid ((w3.setCell ⟨H,1,none⟩ (.int .i64 ((A.pos:Int)+1))).heap[w.heap.size]? =some (.map (esM H) 6)):=(zC aj).trans U.o;refine (zkX C gt N base H O (adv A) _ M).mono ?_;cases J:printI C (adv A) with
      |error p=>
       rintro e w5 ⟨rfl,hb⟩;have HB:=(h.back L).trans hb;have HX:Hid (za6 C q= .error p):=bdE HZ.o J;unfold Pan;go_wp2;refine⟨rfl,?_⟩;rw[HX.o];exact⟨rfl,HB⟩
      |ok a5=>
       rintro e w5 ⟨rfl,S5,X,s⟩;have V:Hid (w5.heap[w.heap.size]? =some (.map (esM H) 6)):=zbO M ac.o s;have aa:=L.trans s;clear s;have Y:=zc (bdO HZ.o J);have ab:=zc (zcQ Z.o J);go_wp2;go_roundg (gk-1)
       case rel=>exact⟨S5,a5,Y.o,by have:=ab.o;omega,X,aa,V.o⟩
       case measure=>omega
     |false=>
      cases t3:isT C A.pos 1 zaI with
      |true=>
       have I:zaL C A=stmtI C 5 sNone cSemi (adv A):=by rw[zaL,t0,t1,t2,t3];simp only[fE,↓reduceIte]
       have HZ:=zc (ae.o.trans (zcP hp I));have Z:=zc I;clear I;rw[zdr t3];have ak:=zdq U.o (zwk H);go_wp2_with fail;have M:=ad.o.adv hp;have L:IS H S w O (w3.setCell ⟨H,1,none⟩ (.int .i64 ((A.pos:Int)+1))):=af.set _ _;have ac:Hid ((w3.setCell ⟨H,1,none⟩ (.int .i64 ((A.pos:Int)+1))).heap[w.heap.size]? =some (.map (esM H) 6)):=(zC aj).trans U.o;refine (zkY C gt N base H O (adv A) _ M).mono ?_;cases J:stmtI C 5 sNone cSemi (adv A) with
       |error p=>
        rintro e w5 ⟨rfl,hb⟩;have HB:=(h.back L).trans hb;have HX:Hid (za6 C q= .error p):=bdE HZ.o J;unfold Pan;go_wp2;refine⟨rfl,?_⟩;rw[HX.o];exact⟨rfl,HB⟩
       |ok a5=>
        rintro e w5 ⟨rfl,S5,X,s⟩;have V:Hid (w5.heap[w.heap.size]? =some (.map (esM H) 6)):=zbO M ac.o s;have aa:=L.trans s;clear s;have Y:=zc (bdO HZ.o J);have ab:=zc (zcQ Z.o J);go_wp2;go_roundg (gk-1)
        case rel=>exact⟨S5,a5,Y.o,by have:=ab.o;omega,X,aa,V.o⟩
        case measure=>omega
      |false=>
       cases t4:isT C A.pos 1 zat with
       |true=>
        have I:zaL C A=zba C (adv A):=by rw[zaL,t0,t1,t2,t3,t4,hs];simp only[fE,↓reduceIte,Bool.false_and,Bool.not_false,Bool.and_self]
        have HZ:=zc (ae.o.trans (zcP hp I));have Z:=zc I;clear I;rw[zdr t4];have ak:=zdq U.o (zwl H);go_wp2_with fail;have M:=ad.o.adv hp;have L:IS H S w O (w3.setCell ⟨H,1,none⟩ (.int .i64 ((A.pos:Int)+1))):=af.set _ _;have ac:Hid ((w3.setCell ⟨H,1,none⟩ (.int .i64 ((A.pos:Int)+1))).heap[w.heap.size]? =some (.map (esM H) 6)):=(zC aj).trans U.o;refine (zvB C gt N base H O (adv A) _ M hC).mono ?_;cases J:zba C (adv A) with
        |error p=>
         rintro e w5 ⟨rfl,hb⟩;have HB:=(h.back L).trans hb;have HX:Hid (za6 C q= .error p):=bdE HZ.o J;unfold Pan;go_wp2;refine⟨rfl,?_⟩;rw[HX.o];exact⟨rfl,HB⟩
        |ok a5=>
         rintro e w5 ⟨rfl,S5,X,s⟩;have V:Hid (w5.heap[w.heap.size]? =some (.map (esM H) 6)):=zbO M ac.o s;have aa:=L.trans s;clear s;have Y:=zc (bdO HZ.o J);have ab:=zc (zcQ Z.o J);go_wp2;go_roundg (gk-1)
         case rel=>exact⟨S5,a5,Y.o,by have:=ab.o;omega,X,aa,V.o⟩
         case measure=>omega
       |false=>
        cases t5:isT C A.pos 1 zaq with
        |true=>
         have I:zaL C A=za4 C (adv A):=by rw[zaL,t0,t1,t2,t3,t4,t5,hs];simp only[fE,↓reduceIte,Bool.false_and,Bool.not_false,Bool.and_self,Bool.and_false]
         have HZ:=zc (ae.o.trans (zcP hp I));have Z:=zc I;clear I;rw[zdr t5];have ak:=zdq U.o (zwm H);go_wp2_with fail;have M:=ad.o.adv hp;have L:IS H S w O (w3.setCell ⟨H,1,none⟩ (.int .i64 ((A.pos:Int)+1))):=af.set _ _;have ac:Hid ((w3.setCell ⟨H,1,none⟩ (.int .i64 ((A.pos:Int)+1))).heap[w.heap.size]? =some (.map (esM H) 6)):=(zC aj).trans U.o;refine (zvY C gt N base H O (adv A) _ M hC).mono ?_;cases J:za4 C (adv A) with
         |error p=>
          rintro e w5 ⟨rfl,hb⟩;have HB:=(h.back L).trans hb;have HX:Hid (za6 C q= .error p):=bdE HZ.o J;unfold Pan;go_wp2;refine⟨rfl,?_⟩;rw[HX.o];exact⟨rfl,HB⟩
         |ok a5=>
          rintro e w5 ⟨rfl,S5,X,s⟩;have V:Hid (w5.heap[w.heap.size]? =some (.map (esM H) 6)):=zbO M ac.o s;have aa:=L.trans s;clear s;have Y:=zc (bdO HZ.o J);have ab:=zc (zcQ Z.o J);go_wp2;go_roundg (gk-1)
          case rel=>exact⟨S5,a5,Y.o,by have:=ab.o;omega,X,aa,V.o⟩
          case measure=>omega
        |false=>
         have I:zaL C A=letJ C 3 A:=by rw[zaL,t0,t1,t2,t3,t4,t5,hs];simp only[fE,↓reduceIte,Bool.false_and,Bool.not_false,Bool.and_false]
         have HZ:=zc (ae.o.trans (zcP hp I));have Z:=zc I;clear I;obtain⟨vz,ak⟩:=znp U.o (zwn H (zcX C A.pos) (zds t0 (by decide)) (zds t1 (by decide)) (zds t2 (by decide)) (zds t3 (by decide)) (zds t4 (by decide)) (zds t5 (by decide)));go_wp2_with fail;refine (zkW C gt N base H O A _ ad.o).mono ?_;cases J:letJ C 3 A with
         |error p=>
          rintro e w5 ⟨rfl,hb⟩;have HB:=(h.back af).trans hb;have HX:Hid (za6 C q= .error p):=bdE HZ.o J;unfold Pan;go_wp2;refine⟨rfl,?_⟩;rw[HX.o];exact⟨rfl,HB⟩
         |ok a5=>
          rintro e w5 ⟨rfl,S5,X,s⟩;have V:Hid (w5.heap[w.heap.size]? =some (.map (esM H) 6)):=zbO ad.o U.o s;have aa:=af.trans s;clear s;have Y:=zc (bdO HZ.o J);have ab:=zc (zcQ Z.o J);go_wp2;go_roundg (gk-1)
          case rel=>exact⟨S5,a5,Y.o,by have:=ab.o;omega,X,aa,V.o⟩
          case measure=>omega
  ·have aE: ¬((A.pos:Int)<(C.ts.length:Int)):=by omega
   go_wp2_with fail;refine wp_region_quiet_below (by kernel_rfl) (by kernel_rfl) ?_
   repeat (go_big_quiet_step (fail))
   refine wpQuiet_nil ?_;intro w2 ar;obtain⟨⟨dq,aF⟩,ag⟩:=ar;have ah:Bw wr w2:=by show Below _ _ _;rw[ag];exact below_regrown _ _ _
   clear ag k0 k1 C0 C1;have K:Hid (IM C gt N base H O A w2):=ap.later ah;have ao:=ay.trans (IS.below ah);have aq:Hid (w2.heap[w.heap.size]? =some (.map (esM H) 6)):=zbO ap av.o (IS.below ah);have HX:=zc (ae.o.trans (znx hp));obtain⟨c0,c1,c2,c3,c4,c5,c6,c7,c8,c9,cf⟩:=zan K.o.cells;have an:=K.o.mem.own.ep;have aN:=K.o.mem.inv.ep;have am:=K.o.free;have ai:=zc am;clear am;have aw:=K.o.lt;rcases K.o.mem.own.la.nil_or with ⟨ha,hc,hn⟩|⟨gl,ha⟩
   ·have HN:=zc (List.eq_nil_of_length_eq_zero hn);rw[ha,hc,hn] at c9;clear ha hc hn;go_wp2_with fail;go_region_law (first|(refine znw rfl (.tmp 41) (.tmp 45) 55 rfl 103 i0 underlying55 hi base 4 A.ep.length O.ep _ (by rfl) (by exact an) (by rfl) ?_))
    all_goals
     go_wp2;go_end0;rw[HX.o];refine⟨rfl,O,K.o.mem.wholeI0 HN.o ai.o (fun k hk=>zC hk),⟨.slice (some ⟨gt,0,none⟩) C.ts.length N,.int .i64 A.pos,.int .i64 C.fin,.bool C.scr,.slice O.la.a A.la.length O.la.cap,(zaj K.o.cells).trans (by simp[HN.o])⟩,?_⟩;exact (h.back (ao.set _ _)).drew
   ·have ax:OwnR w2 base 103 4 ⟨some ⟨gl,0,none⟩,O.la.cap⟩ A.la.length (A.la.flatMap epL):=by have:=K.o.mem.own.la;unfold OwnR at this ⊢;rw[ha] at this;exact this
    rw[ha] at c9;have aA:=K.o.mem.base;have aH:Hid (some H≠O.ep.blk):=fun e=>ai.o (.inr (.inr (.inl e.symm)));go_wp2_with fail;go_region_law (first|(refine znv rfl (.tmp 41) (.tmp 45) 55 rfl base 103 i0 _ 4 56 underlying55 hi aC aI aG rfl (by decide) (by decide) O.ep A.ep.length _ (by rfl) (by exact an) gl A.la.length O.la.cap base _ (by rfl) (by exact ax) (zi3 _) (by omega) (by exact aA) ?_;intro r' wz hr au az;have g2:=(au.block H (by exact aw) aH.o).trans (by exact K.o.cells);obtain⟨d0,d1,d2,d3,d4,d5,d6,d7,d8,d9,df⟩:=zan g2))
    all_goals
     have HR:=zc hr;have al:=zc au;have aD:=zc az;have aq:=zc g2;clear hr au az g2 c0 c1 c2 c3 c4 c5 c6 c7 c8 c9 cf an ax;go_wp2;go_end0;rw[HX.o];refine⟨rfl,{O with ep:=r'},K.o.drew.mem.wholeI al.o HR.o aD.o aw ai.o (fun k hk=>zC hk),⟨.slice (some ⟨gt,0,none⟩) C.ts.length N,.int .i64 A.pos,.int .i64 C.fin,.bool C.scr,.slice O.la.a A.la.length O.la.cap,(zaj aq.o).trans (by simp)⟩,?_⟩;exact ((h.back ao).trans ⟨al.o.os,al.o.tape,al.o.output,al.o.size,fun k hk=>al.o.block k (show k<w2.heap.size by omega) (fun e=>by have:=(K.o.mem.own.ep.typed e.symm).1;omega)⟩).setCell K.o.ge _
