/- Facts and walks. -/
import Derived.Maps.Own
import Derived.Test.YtgcbmogmniahjaaGreatK31
namespace Go.Proofs.YtgcbmogmniahjaaGreat
open Nat (le_refl)
open Go.Proofs.Tryz
set_option maxRecDepth 100000
set_option maxHeartbeats 3200000
open Go.RowKit Go.PlainAid Go.Sort Go.Maps Go.ChangeMaps
def eM (gp:Nat) (k:BA) (f b:Nat):MapEntry:=⟨.string k,.func (.func f) #[.pointer (some ⟨gp,0,none⟩)] #[],b⟩
def esS (gp:Nat):Array MapEntry:=#[eM gp zH 211 0,eM gp zW 212 1,eM gp za1 213 2,eM gp zaD 214 3,eM gp zbZ 215 4]
def esM (gp:Nat):Array MapEntry:=#[eM gp zH 211 0,eM gp zW 212 1,eM gp za1 213 2,eM gp zaD 214 3,eM gp zao 216 4,eM gp zan 217 5]
theorem zi8 (b:Bool) (k:BA) (W:World):(Instr.checkKey b 10000 9 (.string k)).run prog W= .ok () W:=by
 show (Instr.checkKey b (9999+1) 9 (.string k)).run prog W= .ok () W;rw[Instr.checkKey];simp[run_underlying underlying9]
variable (C:Cx) (z:Int) (g:Nat) (s:BA) (b c:Nat) (w:List Ep) (q:PS) (d:Nat) (S:Sv) (p:PS) (W:World) {t:BA} {V:World} {n k m:Nat} {x:Array MapEntry} {D:Cx} {h:PS} {A:Array Oper} {B:Oper} {E:Act} {T:Sv} {F:PR}
theorem zi9 {h:List MapEntry} {r:Option (Nat×Value)} (q:Instr.findNow .string (.string t) h 0=some r) (W:World):(Instr.findKey 9 (.string t) h).run prog W= .ok r W:=by
 simp[Instr.findKey,run_underlying underlying9,q]
theorem zdc {w0:World} {g:Nat} {k:BA} {v:Value} (w:V.heap[g]? =some (.map x m)) (A:Instr.findNow .string (.string k) x.toList 0=some none) (h:Below n w0 V) (hB:n<=g):
  ∃z,(Instr.mapUpdate 224 (.map (some g)) (.string k) v).run prog V= .ok () z/\z.heap[g]? =some (.map (x.push ⟨.string k,v,m⟩) (m+1))/\Below n w0 z:=by
 refine⟨setBlock V g (.map (x.push ⟨.string k,v,m⟩) (m+1)),?_,heap_setBlock_same w _,⟨h.os,h.tape,h.output,by simpa [setBlock] using h.size,fun i D=>(heap_setBlock_other w _ (by omega)).trans (h.block i D)⟩⟩;simp[Instr.mapUpdate,run_underlying underlying224,MapKept.run_getObj_map w,zi8,zi9 A,MapKept.run_setObj_map _ w,Result.andThen,setBlock]
theorem zdd {G:BA} {v:Value} (q:V.heap[n]? =some (.map x k)) (w:Instr.findNow .string (.string G) x.toList 0=some (some (m,v))):
  (Instr.lookup 224 (.map (some n)) (.string G) true).run prog V= .ok (.tuple #[v,.bool true]) V:=by
 simp[Instr.lookup,run_underlying underlying224,MapKept.run_getObj_map q,zi8,zi9 w,Result.andThen]
theorem zms {G:BA} (w:V.heap[n]? =some (.map x k)) (z:Instr.findNow .string (.string G) x.toList 0=some none):
  ∃v,(Instr.lookup 224 (.map (some n)) (.string G) true).run prog V= .ok (.tuple #[v,.bool false]) V:=by
 have h: ∃v,(zeroValue 1).run prog V= .ok v V:=⟨.nilFunc,by kernel_rfl⟩;obtain⟨v,h⟩:=h;exact⟨v,by simp[Instr.lookup,run_underlying underlying224,MapKept.run_getObj_map w,zi8,zi9 z,Result.andThen,h]⟩
theorem zur (h:IM C g b c d S p W) (hs:C.scr=true):
  Calls prog 194 #[.pointer (some ⟨d,0,none⟩)] W fun e I=>e= .returned (.map (some W.heap.size))/\I.heap[W.heap.size]? =some (.map (esS d) 5)/\Bw W I:=by
 have HH:=zc h;have X:=@run_makeMap prog;have Y: ∀(O:Fn) (first b:Array Value) (W:World),(Instr.makeFunc O first b).run prog W= .ok (.func O first b) W:=fun _ _ _ _=>rfl;obtain⟨W1,r1,N,E⟩:=zdc (k:=zH) (v:=.func (.func 211) #[.pointer (some ⟨d,0,none⟩)] #[]) (heap_alloc_new W (.map #[] 0)) rfl ((Below.refl W.heap.size W).alloc (le_refl _) _) (le_refl _);obtain⟨W2,r2,L,U⟩:=zdc (k:=zW) (v:=.func (.func 212) #[.pointer (some ⟨d,0,none⟩)] #[]) N rfl E (le_refl _);obtain⟨W3,r3,J,K⟩:=zdc (k:=za1) (v:=.func (.func 213) #[.pointer (some ⟨d,0,none⟩)] #[]) L rfl U (le_refl _);obtain⟨W4,r4,M,D⟩:=zdc (k:=zaD) (v:=.func (.func 214) #[.pointer (some ⟨d,0,none⟩)] #[]) J rfl K (le_refl _);obtain⟨W5,r5,V,H⟩:=zdc (k:=zbZ) (v:=.func (.func 215) #[.pointer (some ⟨d,0,none⟩)] #[]) M rfl D (le_refl _);have G:=zc V;have B:=zc H;obtain⟨_,_,_,Z,_,_,_,_,_,_,cf⟩:=zai (HH.o.later D).cells;rw[hs] at Z;clear h N E L U J K M D V H;go_enter func194,ntmps194;go_wp2;go_ret;exact⟨rfl,G.o,B.o⟩
theorem zus:Instr.findNow .string (.string zH) (esS g).toList 0=some (some (0,.func (.func 211) #[.pointer (some ⟨g,0,none⟩)] #[])):=by rfl
theorem zut:Instr.findNow .string (.string zW) (esS g).toList 0=some (some (1,.func (.func 212) #[.pointer (some ⟨g,0,none⟩)] #[])):=by rfl
theorem zuu:Instr.findNow .string (.string za1) (esS g).toList 0=some (some (2,.func (.func 213) #[.pointer (some ⟨g,0,none⟩)] #[])):=by rfl
theorem zuv:Instr.findNow .string (.string zaD) (esS g).toList 0=some (some (3,.func (.func 214) #[.pointer (some ⟨g,0,none⟩)] #[])):=by rfl
theorem zuw:Instr.findNow .string (.string zbZ) (esS g).toList 0=some (some (4,.func (.func 215) #[.pointer (some ⟨g,0,none⟩)] #[])):=by rfl
theorem zux (A:(s==zH)=false) (z:(s==zW)=false) (q:(s==za1)=false) (D:(s==zaD)=false) (w:(s==zbZ)=false):Instr.findNow .string (.string s) (esS g).toList 0=some none:=by
 simp[esS,eM,Instr.findNow,Instr.sameNow,A,z,q,D,w]
theorem zuy (h:IM C g b c d S p W) (hs:C.scr=false):
  Calls prog 194 #[.pointer (some ⟨d,0,none⟩)] W fun e J=>e= .returned (.map (some W.heap.size))/\J.heap[W.heap.size]? =some (.map (esM d) 6)/\Bw W J:=by
 have HH:=zc h;have Z:=@run_makeMap prog;have aa: ∀(V:Fn) (first b:Array Value) (W:World),(Instr.makeFunc V first b).run prog W= .ok (.func V first b) W:=fun _ _ _ _=>rfl;obtain⟨W1,r1,U,H⟩:=zdc (k:=zH) (v:=.func (.func 211) #[.pointer (some ⟨d,0,none⟩)] #[]) (heap_alloc_new W (.map #[] 0)) rfl ((Below.refl W.heap.size W).alloc (le_refl _) _) (le_refl _);obtain⟨W2,r2,N,X⟩:=zdc (k:=zW) (v:=.func (.func 212) #[.pointer (some ⟨d,0,none⟩)] #[]) U rfl H (le_refl _);obtain⟨W3,r3,L,M⟩:=zdc (k:=za1) (v:=.func (.func 213) #[.pointer (some ⟨d,0,none⟩)] #[]) N rfl X (le_refl _);obtain⟨W4,r4,O,D⟩:=zdc (k:=zaD) (v:=.func (.func 214) #[.pointer (some ⟨d,0,none⟩)] #[]) L rfl M (le_refl _);obtain⟨W5,r5,Y,I⟩:=zdc (k:=zao) (v:=.func (.func 216) #[.pointer (some ⟨d,0,none⟩)] #[]) O rfl D (le_refl _);obtain⟨W6,r6,E,K⟩:=zdc (k:=zan) (v:=.func (.func 217) #[.pointer (some ⟨d,0,none⟩)] #[]) Y rfl I (le_refl _);have G:=zc E;have B:=zc K;obtain⟨_,_,_,c3,_,_,_,_,_,_,cf⟩:=zai (HH.o.later D).cells;rw[hs] at c3;clear h U H N X L M O D Y I E K;go_enter func194,ntmps194;go_wp2;go_ret;exact⟨rfl,G.o,B.o⟩
theorem zuz:Instr.findNow .string (.string zH) (esM g).toList 0=some (some (0,.func (.func 211) #[.pointer (some ⟨g,0,none⟩)] #[])):=by rfl
theorem zu0:Instr.findNow .string (.string zW) (esM g).toList 0=some (some (1,.func (.func 212) #[.pointer (some ⟨g,0,none⟩)] #[])):=by rfl
theorem zu1:Instr.findNow .string (.string za1) (esM g).toList 0=some (some (2,.func (.func 213) #[.pointer (some ⟨g,0,none⟩)] #[])):=by rfl
theorem zu2:Instr.findNow .string (.string zaD) (esM g).toList 0=some (some (3,.func (.func 214) #[.pointer (some ⟨g,0,none⟩)] #[])):=by rfl
theorem zu3:Instr.findNow .string (.string zao) (esM g).toList 0=some (some (4,.func (.func 216) #[.pointer (some ⟨g,0,none⟩)] #[])):=by rfl
theorem zu4:Instr.findNow .string (.string zan) (esM g).toList 0=some (some (5,.func (.func 217) #[.pointer (some ⟨g,0,none⟩)] #[])):=by rfl
theorem zu5 (D:(s==zH)=false) (z:(s==zW)=false) (q:(s==za1)=false) (E:(s==zaD)=false) (w:(s==zao)=false) (A:(s==zan)=false):Instr.findNow .string (.string s) (esM g).toList 0=some none:=by
 simp[esM,eM,Instr.findNow,Instr.sameNow,D,z,q,E,w,A]
def zaG (C:Cx) (q:PS):PR:=
 if isT C q.pos 1 zH then letJ C 1 (adv q)
 else if isT C q.pos 1 zW then fnI C (adv q)
 else if isT C q.pos 1 za1 then printI C (adv q)
 else if isT C q.pos 1 zaD then stmtI C 5 sNone cSemi (adv q)
 else if C.scr&&isT C q.pos 1 zbZ then stmtI C 6 sNone cSemi (adv q)
 else if !C.scr&&isT C q.pos 1 zao then zaS C (adv q)
 else if !C.scr&&isT C q.pos 1 zan then zaz C (adv q)
 else letJ C 3 q
theorem zu6:stmtI C z s cSemi q=bd (bd (bd (pE C .sum 0 q) (zd C 4 cSemi)) (zaa C z s)) .ok:=by
 rw[zeW,zQ,stmtI];refine zah fun a _=>?_;rw[show zaJ C cSemi cSemi.size 0 a=zd C 4 cSemi a from zjU C 59 a]
theorem zfg:bd (bd (pE C .sum 0 q) (zd C 4 cSemi)) (zaa C z s)=stmtI C z s cSemi q:=by rw[zu6,zeW]
theorem zu7:bd (bd (bd (pE C .sum 0 q) (zd C 4 zaA)) (zd C 4 cSemi)) (zaa C z s)=stmtI C z s cShutSemi q:=by
 rw[zQ,zQ,stmtI];refine zah fun a _=>?_;rw[show zaJ C cShutSemi cShutSemi.size 0 a=bd (zd C 4 zaA a) (zd C 4 cSemi) from zjV C 41 59 a,zQ]
theorem zu8:bd (bd (bd (pE C .sum 0 q) (zd C 4 cSemi)) (zd C 4 zb5)) (zaa C z s)=stmtI C z s cSemiRight q:=by
 rw[zQ,zQ,stmtI];refine zah fun a _=>?_;rw[show zaJ C cSemiRight cSemiRight.size 0 a=bd (zd C 4 cSemi a) (zd C 4 zb5) from zjV C 59 125 a,zQ]
theorem zmt (G:isT D h.pos 1 zH=true):zcT D h=bd (letJ D 1 (adv h)) fun a=>.ok (a,(ze D (h.pos+1)).text):=by
 rw[zcT,withN,zck G,zB,letJ,zQ];refine zah fun a w=>?_;rw[zQ,zB,zQ,zQ,zQ];refine zah fun b _=>?_;rw[<-zQ,<-zQ,zfg,(zb6 w).1];rfl
theorem zmu (G:isT D h.pos 1 zW=true):fnP D h=bd (fnI D (adv h)) fun a=>.ok (a,(ze D (h.pos+1)).text):=by
 rw[fnP,withN,zck G,zB,fnI,zQ];refine zah fun a w=>?_;rw[show zaJ D cCall cCall.size 0 a.1=bd (zd D 4 zp a.1) fun a=>bd (zd D 4 zaA a) (zd D 4 zO) from zoG D 40 41 123 a.1,zQ,zQ,zB];rw[(zb6 w).1];simp only[zQ,<-zu8];rfl
theorem zmv (x:PR) (n:BA):zaV (bd x fun a=>.ok (a,n))=x:=by rw[zaV,zQ];exact zeW x
theorem ziA:impFromI C w q=bd (zbl C (zaN C (.ok q))) fun b=>zab (fun e=>zap C (zcj b.2 e)) w (.ok b.1):=by
 rw[impFromI,zbl,zaN,zB,zQ,zQ];refine zah fun a _=>zah fun b _=>?_;rw[zQ];rfl
theorem zu9 (H:isT D h.pos 1 zao=true):zbe D h=zaS D (adv h):=by
 rw[zbe,zck H,zB,zaS];cases E:isT D (adv h).pos 4 zO with
 |true=>
  have w:((ze D (adv h).pos).kind==3)=false:=by
   have:=zg3 E;rw[beq_iff_eq] at this;rw[this];rfl
  rw[w];simp only[Bool.false_eq_true,↓reduceIte];rw[zdm,zck E,zB];refine zah fun a _=>?_;rw[ziA]
 |false=>
  cases G:isT D (adv h).pos 4 zz with
  |true=>
   have w:((ze D (adv h).pos).kind==3)=false:=by
    have:=zg3 G;rw[beq_iff_eq] at this;rw[this];rfl
   rw[w];simp only[Bool.false_eq_true,↓reduceIte];rw[zck G,zB,zQ];refine zah fun a _=>zah fun b _=>?_;rw[ziA];rfl
  |false=>
   cases A:zJ D (adv h).pos false with
   |true=>
    have w:((ze D (adv h).pos).kind==3)=false:=by
     have z:=A;simp only[zJ,Bool.and_eq_true,beq_iff_eq] at z;rw[z.1];rfl
    rw[w];simp only[Bool.false_eq_true,↓reduceIte];refine zah fun a _=>?_;rw[ziA];rfl
   |false=>
    cases w:((ze D (adv h).pos).kind==3) with
    |true=>simp only[Bool.false_eq_true,↓reduceIte]
    |false=>
     simp only[Bool.false_eq_true,↓reduceIte];rw[zM,w,zm,A];rfl
theorem zuA (h:isT C q.pos 1 zX=false) (G:zaI w=false):zaF C w q=bd (zd C 4 cSemi q) fun q=>zab (fun e=>zq C (zF e)) w (.ok q):=by rw[zaF,h,G];rfl
theorem zmw (h:(isT C q.pos 1 zX||zaI w)=true):zaF C w q=bd (zbl C (zaN C (.ok q))) fun b=>zab (fun e=>zq C (zax b.2 e)) w (.ok b.1):=by
 rw[zaF,h,if_pos rfl,zbl,zaN,zB,zQ,zQ];refine zah fun a _=>zah fun b _=>?_;rw[zQ];rfl
theorem zuB (J:isT D h.pos 1 zan=true):zaq D h=zaz D (adv h):=by
 rw[zaq,zck J,zB,zaz];cases E:isT D (adv h).pos 4 zO with
 |true=>
  simp only[↓reduceIte];rw[zdm,zck E,zB];refine zah fun a _=>?_;cases z:isT D a.1.pos 1 zX with
  |true=>rw[zmw D a.2 a.1 (by rw[z];rfl),if_neg (by simp)]
  |false=>
   cases w:zaI a.2 with
   |true=>rw[zmw D a.2 a.1 (by rw[w];simp),if_neg (by simp)]
   |false=>rw[zuA D a.2 a.1 z w,if_pos (by simp)]
 |false=>
  cases A:isT D (adv h).pos 4 zz with
  |true=>
   simp only[Bool.false_eq_true,↓reduceIte];rw[zck A,zbl,zaN,zB,zQ,zQ];refine zah fun a _=>zah fun b _=>?_;rw[zQ];rfl
  |false=>
   cases I:isT D (adv h).pos 1 sDefault with
   |true=>
    simp only[Bool.false_eq_true,↓reduceIte];rw[zck I,zB,zfg]
   |false=>
    cases G:isT D (adv h).pos 1 zH with
    |true=>
     simp only[Bool.false_eq_true,↓reduceIte];rw[zmt G,zQ];rfl
    |false=>
     cases H:isT D (adv h).pos 1 zW with
     |true=>
      simp only[Bool.false_eq_true,↓reduceIte];rw[zmu H,zQ];rfl
     |false=>simp only[Bool.false_eq_true,↓reduceIte]
theorem zee {y:BA} (h:isT D n 1 t=true) (q:(t.toList==y.toList)=false):isT D n 1 y=false:=by
 have e:=zhL h;rw[isT,e,q];simp
theorem zmx:zaG C q=zC C q:=by
 rw[zaG,zC];cases z:isT C q.pos 1 zH with
 |true=>
  rw[zee z (y:=zao) (by simp),zee z (y:=zan) (by simp)];simp only[Bool.false_eq_true,↓reduceIte,Bool.and_false];rw[zmt z,zmv]
 |false=>
  cases h:isT C q.pos 1 zW with
  |true=>
   rw[zee h (y:=zao) (by simp),zee h (y:=zan) (by simp)];simp only[Bool.false_eq_true,↓reduceIte,Bool.and_false];rw[zmu h,zmv]
  |false=>
   cases A:isT C q.pos 1 za1 with
   |true=>
    rw[zee A (y:=zao) (by simp),zee A (y:=zan) (by simp)];simp only[Bool.false_eq_true,↓reduceIte,Bool.and_false];rw[zck A,zB,printI,zQ,zQ,zQ];refine zah fun a _=>?_;rw[<-zu7,zQ,zQ]
   |false=>
    cases w:isT C q.pos 1 zaD with
    |true=>
     rw[zee w (y:=zao) (by simp),zee w (y:=zan) (by simp)];simp only[Bool.false_eq_true,↓reduceIte,Bool.and_false];rw[zck w,zB,zfg]
    |false=>
     cases I:C.scr with
     |true=>
      cases H:isT C q.pos 1 zbZ with
      |true=>
       simp only[Bool.false_eq_true,↓reduceIte,Bool.not_true,Bool.false_and,Bool.and_self];rw[zck H,zB,zfg]
      |false=>
       simp only[Bool.false_eq_true,↓reduceIte,Bool.not_true,Bool.false_and,Bool.and_false];rw[letJ];refine zah fun a _=>?_;rw[zQ,zQ];refine zah fun b _=>?_;rw[<-zQ,zfg]
     |false=>
      cases D:isT C q.pos 1 zao with
      |true=>
       simp only[Bool.false_eq_true,↓reduceIte,Bool.not_false,Bool.false_and,Bool.and_self];rw[zu9 D]
      |false=>
       cases E:isT C q.pos 1 zan with
       |true=>
        simp only[Bool.false_eq_true,↓reduceIte,Bool.not_false,Bool.false_and,Bool.and_self,Bool.and_false];rw[zuB E]
       |false=>
        simp only[Bool.false_eq_true,↓reduceIte,Bool.not_false,Bool.false_and,Bool.and_false];rw[letJ];refine zah fun a _=>?_;rw[zQ,zQ];refine zah fun b _=>?_;rw[<-zQ,zfg]
theorem zmy {P:Program} {K:Act->World->Prop} {Q:Exit->Act->World->Prop} {R:Prop} (Y:B.guard=none) (s x:Operand) (t:TypeId) (ho:B.op= .call {callee:=.builtin .append,args:=#[s,x],argTypes:=#[t,t]}) (base:Nat) (e:TypeId) (i:TypeInfo) (z:Value) (size q:Nat) (ht:P.underlying t=some (.slice e)) (hi:P.info? e=some i) (hz:i.zero=some z) (D:i.size=size) (ab:i.bytes=q) (ac:z.cells.size=size) (aa:0<size) (N:q<=100) (r:Rw) (n:Nat) (xs:List Value) (hs:E.eval s= .slice r.a n r.cap) (L:OwnR V base e size r n xs) (U m c I:Nat) (w:List Value) (hx:E.eval x= .slice (some ⟨U,0,none⟩) m c) (hg:OwnR V I e size ⟨some ⟨U,0,none⟩,c⟩ m w) (h1: ∀u∈w,u.oneCell'=true) (hn:n+m<=4000000) (H:base<=V.heap.size) (h: ∀M J,OwnR J base e size M (n+m) (xs++w)->V.grownBy J r.blk->(M.blk=r.blk∨M.blk=some V.heap.size)->K (E.put B.dst (.slice M.a (n+m:Nat) M.cap)) J):
  if Region.wanted B (yielded A E.tmps)=true then Oper.wp P B E V K Q else R:=by
 have hw:Region.wanted B (yielded A E.tmps)=true:=by simp[Region.wanted,Y]
 rw[if_pos hw]
 obtain⟨v',J,hr,X,h3,_,h5⟩:=run_append_own_at (P:=P) V base t B.type e i z size q ht hi hz D ab ac aa _ n xs L ⟨U,0,none⟩ m c w hg.1 (by
  intro j u hj;have e1:(⟨U,0,none⟩:Addr).add j=⟨U,j,none⟩:=by simp[Addr.add];exact fun h=>h.symm
  have Z:j<w.length:=(List.getElem?_eq_some_iff.1 hj).1;rw[e1,World.ownsRow.cellAt hg j (by rw[<-hg.1];exact Z)]
  exact hj) h1 (by unfold maxLen;omega) (by have:(n+m)*q<=4000000*100:=Nat.mul_le_mul hn N;omega) H
 unfold Oper.wp execOp;simp only[ho,resolve,invoke,builtin,Sem.run_bind,Sem.run_pure,Result.andThen_ok,List.map_toArray,List.map_cons,List.map_nil,hs,hx,hr];rcases X.2 with ⟨hv,f⟩|⟨g',G,ae,rfl,ad⟩
 ·subst hv;have:=h ⟨none,0⟩ J (by rw[f] at X ⊢;exact X) (by rw[<-zb9 r n];exact h3) (by rw[<-zb9 r n];exact h5);rw[f] at this;exact this
 ·refine h ⟨some ⟨g',0,none⟩,G⟩ J X ?_ ?_
  ·rw[<-zb9 r n];exact h3
  ·rw[<-zb9 r n,<-zb9 ⟨some ⟨g',0,none⟩,G⟩ (n+m)];exact h5
theorem zmz {P:Program} {K:Act->World->Prop} {Q:Exit->Act->World->Prop} {R:Prop} (z:B.guard=none) (s x:Operand) (t:TypeId) (L:B.op= .call {callee:=.builtin .append,args:=#[s,x],argTypes:=#[t,t]}) (e:TypeId) (i:TypeInfo) (D:P.underlying t=some (.slice e)) (H:P.info? e=some i) (base size n:Nat) (r:Rw) (xs:List Value) (O:E.eval s= .slice r.a n r.cap) (q:OwnR V base e size r n xs) (U:E.eval x= .slice none 0 0) (h:K (E.put B.dst (.slice r.a n r.cap)) V):if Region.wanted B (yielded A E.tmps)=true then Oper.wp P B E V K Q else R:=by
 have J:Region.wanted B (yielded A E.tmps)=true:=by simp[Region.wanted,z]
 rw[if_pos J];have M:(Builtin.append_ #[t,t] B.type #[.slice r.a n r.cap,.slice none 0 0]).run P V= .ok (.slice r.a n r.cap) V:=by
  rcases q.2 with ⟨G,_⟩|⟨g,N,I,G,_,_,X,_⟩
  ·rw[G];simp[Builtin.append_,run_underlying D,sizeOf,typeInfo,H,Builtin.lenOf,Builtin.firstCells]
  ·rw[G];simp[Builtin.append_,run_underlying D,sizeOf,typeInfo,H,Builtin.lenOf,Builtin.firstCells,loadCells,X,storeCells]
 unfold Oper.wp execOp;simp only[L,resolve,invoke,builtin,Sem.run_bind,Sem.run_pure,Result.andThen_ok,List.map_toArray,List.map_cons,List.map_nil,O,U,M];exact h
theorem Mem.wholeI {b:Nat} {I M:World} {E:Rw} (A:Mem D n k m T h V) (U:V.grownBy I T.ep.blk) (X:OwnR I m 97 4 E (h.ep.length+h.la.length) (h.ep.flatMap epL++h.la.flatMap epL)) (J:E.blk=T.ep.blk∨E.blk=some V.heap.size) (hb:b<V.heap.size) (w: ¬T.has b) (O: ∀Q,Q≠b->M.heap[Q]? =I.heap[Q]?):OwnMod M m {T with ep:=E} h:=by
 have G:(h.ep++h.la).length=h.ep.length+h.la.length:=by simp
 have H: ∀(r:Rw) (e:TypeId) (z P:Nat) (N:List Value),OwnR V m e z r P N->e≠97->(∀Q,r.blk=some Q->T.has Q)->OwnR M m e z r P N:=fun r e z P N R he Y=>
  R.keep fun Q g=>(O Q (fun L=>w (by rw[<-L];exact Y Q g))).trans (U.block Q (R.typed g).2.1 fun f=>(R.ne A.own.ep he g) f.symm)
 refine⟨H _ _ _ _ _ A.own.rq (by decide) fun Q g=>.inl g,H _ _ _ _ _ A.own.im (by decide) fun Q g=>.inr (.inl g),?_,H _ _ _ _ _ A.own.st (by decide) fun Q g=>.inr (.inr (.inr (.inl g))),H _ _ _ _ _ A.own.ex (by decide) fun Q g=>.inr (.inr (.inr (.inr (.inl g)))),A.inv.rq,A.inv.im,A.inv.ep,A.inv.st,A.inv.ex⟩;rw[G,List.flatMap_append];refine X.keep fun Q g=>O Q ?_;rcases J with e|e
 ·intro L;exact w (by rw[<-L];exact .inr (.inr (.inl (by rw[<-e];exact g))))
 ·have:V.heap.size=Q:=Option.some.inj (e.symm.trans g);omega
theorem Mem.wholeI0 {b:Nat} {I:World} (z:Mem D n k m T h V) (J:h.la=[]) (A: ¬T.has b) (N: ∀P,P≠b->I.heap[P]? =V.heap[P]?):OwnMod I m T h:=by
 have G: ∀(r:Rw) (e:TypeId) (w O:Nat) (H:List Value),OwnR V m e w r O H->(∀P,r.blk=some P->T.has P)->OwnR I m e w r O H:=fun r e w O H Q L=>
  Q.keep fun P g=>N P (fun K=>A (by rw[<-K];exact L P g))
 refine⟨G _ _ _ _ _ z.own.rq fun P g=>.inl g,G _ _ _ _ _ z.own.im fun P g=>.inr (.inl g),?_,G _ _ _ _ _ z.own.st fun P g=>.inr (.inr (.inr (.inl g))),G _ _ _ _ _ z.own.ex fun P g=>.inr (.inr (.inr (.inr (.inl g)))),z.inv.rq,z.inv.im,z.inv.ep,z.inv.st,z.inv.ex⟩;rw[J,List.append_nil];exact G _ _ _ _ _ z.own.ep fun P g=>.inr (.inr (.inl g))
theorem zde (h:isT D n 1 t=true):zcJ D n=t:=by
 rw[zcJ,zg3 h,zhL h];rfl
theorem zdf (h:isT D n 1 t=false) (w:sNone≠t):(zcJ D n==t)=false:=by
 rw[Bool.eq_false_iff];intro e;rw[MapKept.bytes_beq] at e;cases q:((ze D n).kind==1) with
 |false=>
  rw[zcJ,q] at e;exact w e
 |true=>
  rw[zcJ,q,if_pos rfl] at e;rw[isT,q,e] at h;simp at h
theorem zbE {A g c:Nat} {H:Sv} {G:World} (K:IM D n k m A T h V) (w:V.heap[g]? =some (.map x c)) (s:IS A T V H G):G.heap[g]? =some (.map x c):=by
 refine (s.block g (aLt w) (fun J=>?_) (fun e=>?_)).trans w
 ·rcases J with J|J|J|J|J|J
  ·obtain⟨_,_,c,e⟩:=K.mem.own.rq.typed J;rw[w] at e;cases e
  ·obtain⟨_,_,c,e⟩:=K.mem.own.im.typed J;rw[w] at e;cases e
  ·obtain⟨_,_,c,e⟩:=K.mem.own.ep.typed J;rw[w] at e;cases e
  ·obtain⟨_,_,c,e⟩:=K.mem.own.st.typed J;rw[w] at e;cases e
  ·obtain⟨_,_,c,e⟩:=K.mem.own.ex.typed J;rw[w] at e;cases e
  ·obtain⟨_,_,c,e⟩:=K.mem.own.la.typed J;rw[w] at e;cases e
 ·have:=K.cells;rw[<-e,w] at this;cases this
theorem zcC (G:h.pos<D.ts.length) (w:zaG D h=F):za2 D h=bd F (za2 D):=by rw[zgr,if_pos G,<-zmx,w]
theorem zm0 (G: ¬h.pos<D.ts.length):za2 D h= .ok h:=by rw[zgr,if_neg G]
theorem zcD {a:PS} (w:zaG D h=F) (G:F= .ok a):h.pos<a.pos:=zgq (by rw[<-zmx,w,G])
def ziB (base gp:Nat) (y:PR) (w:World) (e:Ending) (w':World):Prop:=
 match y with
 | .ok q=>e= .returned (.tuple #[])/\∃S,OwnMod w' base S q/\(∃v0 v1 v2 v3 v9,w'.heap[gp]? =some (.cells #[v0,v1,v2,v3,.slice S.rq.a q.rq.length S.rq.cap,.slice S.im.a q.im.length S.im.cap,.slice S.ep.a (q.ep++q.la).length S.ep.cap,.slice S.st.a q.st.length S.st.cap,.slice S.ex.a q.ex.length S.ex.cap,v9] 211 (0,0)))/\Below base w w'
 | .error p=>e=Pan p/\Below base w w'
theorem zuC (h:IM C g b c d S p W) (hs:C.scr=true):
  Calls prog 169 #[.pointer (some ⟨d,0,none⟩)] W (ziB c d (za2 C p) W):=by
 obtain⟨i0,hi,aA,aG,aE⟩:=info_parts Tryz.infoExp;go_enter func169,ntmps169;go_wp2_with fail;refine (zur C g b c d S p _ h hs).mono ?_;rintro e w1 ⟨rfl,hg,Z⟩;have aH:=h.later Z;have az:IS d S W S w1:=IS.below Z;have aI:=zc hg;clear hg Z;go_wp2;go_loopg [] (C.ts.length+1) (fun k wr=>∃(L:Sv) (z:PS),za2 C p=za2 C z/\C.ts.length-z.pos<k/\IM C g b c d L z wr/\IS d S W L wr/\wr.heap[W.heap.size]? =some (.map (esS d) 5))
 case atStart=>exact⟨S,p,rfl,by omega,aH,az,aI.o⟩
 case round=>
  obtain⟨L,z,hy,hk,m',s',g'⟩:=hrel;have ad:=zc hy;have an:=m';have aw:=s';have ar:Hid (wr.heap[W.heap.size]? =some (.map (esS d) 5)):=g';obtain⟨c0,c1,_,_,_,_,_,_,_,_,_⟩:=zai m'.cells;have C0:=zc c0;have C1:=zc c1;have aK:=m'.mem.inv.pos;have aJ:=m'.mem.few;clear hy m' s' g' c0 c1;have k0:=cell_regrown C0.o;have k1:=cell_regrown C1.o;by_cases hp:z.pos<C.ts.length
  ·have aC:((z.pos:Int)<(C.ts.length:Int)):=by omega
   go_wp2_with fail;refine wp_region_quiet_below (by kernel_rfl) (by kernel_rfl) ?_
   repeat (go_big_quiet_step (fail))
   refine wpQuiet_nil ?_;intro w2 ap;obtain⟨⟨dq,aD⟩,ab⟩:=ap;have af:Bw wr w2:=by show Below _ _ _;rw[ab];exact below_regrown _ _ _
   clear ab k0 k1 C0 C1;have H:Hid (IM C g b c d L z w2):=an.later af;have am:=aw.trans (IS.below af);have ao:Hid (w2.heap[W.heap.size]? =some (.map (esS d) 5)):=zbE an ar.o (IS.below af);go_wp2_with fail;refine (zkd C g b c d L z _ H.o).mono ?_;rintro e w3 ⟨rfl,Z⟩;have ac:Hid (IM C g b c d L z w3):=H.o.later Z;have ae:=am.trans (IS.below Z);have M:Hid (w3.heap[W.heap.size]? =some (.map (esS d) 5)):=zbE H.o ao.o (IS.below Z);clear Z;have ai:W.heap.size≠d:=by have:=h.lt;omega
   obtain⟨c0,c1,c2,c3,c4,c5,c6,c7,c8,c9,cf⟩:=zai ac.o.cells;cases t0:isT C z.pos 1 zH with
   |true=>
    have D:zaG C z=letJ C 1 (adv z):=by rw[zaG,t0];rfl
    have HZ:=zc (ad.o.trans (zcC hp D));have V:=zc D;clear D;rw[zde t0];have aj:=zdd M.o (zus d);go_wp2_with fail;have K:=ac.o.adv hp;have J:IS d S W L (w3.setCell ⟨d,1,none⟩ (.int .i64 ((z.pos:Int)+1))):=ae.set _ _;have aa:Hid ((w3.setCell ⟨d,1,none⟩ (.int .i64 ((z.pos:Int)+1))).heap[W.heap.size]? =some (.map (esS d) 5)):=(zx ai).trans M.o;refine (zhN C g b c d L (adv z) _ K).mono ?_;cases E:letJ C 1 (adv z) with
    |error G=>
     rintro e w5 ⟨rfl,Z⟩;have HB:=(h.back J).trans Z;have HX:Hid (za2 C p= .error G):=bdE HZ.o E;unfold Pan;go_wp2;refine⟨rfl,?_⟩;rw[HX.o];exact⟨rfl,HB⟩
    |ok a5=>
     rintro e w5 ⟨rfl,S5,O,s⟩;have N:Hid (w5.heap[W.heap.size]? =some (.map (esS d) 5)):=zbE K aa.o s;have X:=J.trans s;clear s;have U:=zc (bdO HZ.o E);have Y:=zc (zcD V.o E);go_wp2;go_roundg (gk-1)
     case rel=>exact⟨S5,a5,U.o,by have:=Y.o;omega,O,X,N.o⟩
     case measure=>omega
   |false=>
    cases t1:isT C z.pos 1 zW with
    |true=>
     have D:zaG C z=fnI C (adv z):=by rw[zaG,t0,t1];simp only[Bool.false_eq_true,↓reduceIte]
     have HZ:=zc (ad.o.trans (zcC hp D));have V:=zc D;clear D;rw[zde t1];have aj:=zdd M.o (zut d);go_wp2_with fail;have K:=ac.o.adv hp;have J:IS d S W L (w3.setCell ⟨d,1,none⟩ (.int .i64 ((z.pos:Int)+1))):=ae.set _ _;have aa:Hid ((w3.setCell ⟨d,1,none⟩ (.int .i64 ((z.pos:Int)+1))).heap[W.heap.size]? =some (.map (esS d) 5)):=(zx ai).trans M.o;refine (zhO C g b c d L (adv z) _ K).mono ?_;cases E:fnI C (adv z) with
     |error G=>
      rintro e w5 ⟨rfl,Z⟩;have HB:=(h.back J).trans Z;have HX:Hid (za2 C p= .error G):=bdE HZ.o E;unfold Pan;go_wp2;refine⟨rfl,?_⟩;rw[HX.o];exact⟨rfl,HB⟩
     |ok a5=>
      rintro e w5 ⟨rfl,S5,O,s⟩;have N:Hid (w5.heap[W.heap.size]? =some (.map (esS d) 5)):=zbE K aa.o s;have X:=J.trans s;clear s;have U:=zc (bdO HZ.o E);have Y:=zc (zcD V.o E);go_wp2;go_roundg (gk-1)
      case rel=>exact⟨S5,a5,U.o,by have:=Y.o;omega,O,X,N.o⟩
      case measure=>omega
    |false=>
     cases t2:isT C z.pos 1 za1 with
     |true=>
      have D:zaG C z=printI C (adv z):=by rw[zaG,t0,t1,t2];simp only[Bool.false_eq_true,↓reduceIte]
      have HZ:=zc (ad.o.trans (zcC hp D));have V:=zc D;clear D;rw[zde t2];have aj:=zdd M.o (zuu d);go_wp2_with fail;have K:=ac.o.adv hp;have J:IS d S W L (w3.setCell ⟨d,1,none⟩ (.int .i64 ((z.pos:Int)+1))):=ae.set _ _;have aa:Hid ((w3.setCell ⟨d,1,none⟩ (.int .i64 ((z.pos:Int)+1))).heap[W.heap.size]? =some (.map (esS d) 5)):=(zx ai).trans M.o;refine (zkb C g b c d L (adv z) _ K).mono ?_;cases E:printI C (adv z) with
      |error G=>
       rintro e w5 ⟨rfl,Z⟩;have HB:=(h.back J).trans Z;have HX:Hid (za2 C p= .error G):=bdE HZ.o E;unfold Pan;go_wp2;refine⟨rfl,?_⟩;rw[HX.o];exact⟨rfl,HB⟩
      |ok a5=>
       rintro e w5 ⟨rfl,S5,O,s⟩;have N:Hid (w5.heap[W.heap.size]? =some (.map (esS d) 5)):=zbE K aa.o s;have X:=J.trans s;clear s;have U:=zc (bdO HZ.o E);have Y:=zc (zcD V.o E);go_wp2;go_roundg (gk-1)
       case rel=>exact⟨S5,a5,U.o,by have:=Y.o;omega,O,X,N.o⟩
       case measure=>omega
     |false=>
      cases t3:isT C z.pos 1 zaD with
      |true=>
       have D:zaG C z=stmtI C 5 sNone cSemi (adv z):=by rw[zaG,t0,t1,t2,t3];simp only[Bool.false_eq_true,↓reduceIte]
       have HZ:=zc (ad.o.trans (zcC hp D));have V:=zc D;clear D;rw[zde t3];have aj:=zdd M.o (zuv d);go_wp2_with fail;have K:=ac.o.adv hp;have J:IS d S W L (w3.setCell ⟨d,1,none⟩ (.int .i64 ((z.pos:Int)+1))):=ae.set _ _;have aa:Hid ((w3.setCell ⟨d,1,none⟩ (.int .i64 ((z.pos:Int)+1))).heap[W.heap.size]? =some (.map (esS d) 5)):=(zx ai).trans M.o;refine (zkc C g b c d L (adv z) _ K).mono ?_;cases E:stmtI C 5 sNone cSemi (adv z) with
       |error G=>
        rintro e w5 ⟨rfl,Z⟩;have HB:=(h.back J).trans Z;have HX:Hid (za2 C p= .error G):=bdE HZ.o E;unfold Pan;go_wp2;refine⟨rfl,?_⟩;rw[HX.o];exact⟨rfl,HB⟩
       |ok a5=>
        rintro e w5 ⟨rfl,S5,O,s⟩;have N:Hid (w5.heap[W.heap.size]? =some (.map (esS d) 5)):=zbE K aa.o s;have X:=J.trans s;clear s;have U:=zc (bdO HZ.o E);have Y:=zc (zcD V.o E);go_wp2;go_roundg (gk-1)
        case rel=>exact⟨S5,a5,U.o,by have:=Y.o;omega,O,X,N.o⟩
        case measure=>omega
      |false=>
       cases t4:isT C z.pos 1 zbZ with
       |true=>
        have D:zaG C z=stmtI C 6 sNone cSemi (adv z):=by rw[zaG,t0,t1,t2,t3,t4,hs];simp only[Bool.false_eq_true,↓reduceIte,Bool.and_self]
        have HZ:=zc (ad.o.trans (zcC hp D));have V:=zc D;clear D;rw[zde t4];have aj:=zdd M.o (zuw d);go_wp2_with fail;have K:=ac.o.adv hp;have J:IS d S W L (w3.setCell ⟨d,1,none⟩ (.int .i64 ((z.pos:Int)+1))):=ae.set _ _;have aa:Hid ((w3.setCell ⟨d,1,none⟩ (.int .i64 ((z.pos:Int)+1))).heap[W.heap.size]? =some (.map (esS d) 5)):=(zx ai).trans M.o;refine (zpd C g b c d L (adv z) _ K).mono ?_;cases E:stmtI C 6 sNone cSemi (adv z) with
        |error G=>
         rintro e w5 ⟨rfl,Z⟩;have HB:=(h.back J).trans Z;have HX:Hid (za2 C p= .error G):=bdE HZ.o E;unfold Pan;go_wp2;refine⟨rfl,?_⟩;rw[HX.o];exact⟨rfl,HB⟩
        |ok a5=>
         rintro e w5 ⟨rfl,S5,O,s⟩;have N:Hid (w5.heap[W.heap.size]? =some (.map (esS d) 5)):=zbE K aa.o s;have X:=J.trans s;clear s;have U:=zc (bdO HZ.o E);have Y:=zc (zcD V.o E);go_wp2;go_roundg (gk-1)
         case rel=>exact⟨S5,a5,U.o,by have:=Y.o;omega,O,X,N.o⟩
         case measure=>omega
       |false=>
        have D:zaG C z=letJ C 3 z:=by rw[zaG,t0,t1,t2,t3,t4,hs];simp only[Bool.false_eq_true,↓reduceIte,Bool.and_false,Bool.not_true,Bool.false_and]
        have HZ:=zc (ad.o.trans (zcC hp D));have V:=zc D;clear D;obtain⟨vz,aj⟩:=zms M.o (zux d (zcJ C z.pos) (zdf t0 (by decide)) (zdf t1 (by decide)) (zdf t2 (by decide)) (zdf t3 (by decide)) (zdf t4 (by decide)));go_wp2_with fail;refine (zka C g b c d L z _ ac.o).mono ?_;cases E:letJ C 3 z with
        |error G=>
         rintro e w5 ⟨rfl,Z⟩;have HB:=(h.back ae).trans Z;have HX:Hid (za2 C p= .error G):=bdE HZ.o E;unfold Pan;go_wp2;refine⟨rfl,?_⟩;rw[HX.o];exact⟨rfl,HB⟩
        |ok a5=>
         rintro e w5 ⟨rfl,S5,O,s⟩;have N:Hid (w5.heap[W.heap.size]? =some (.map (esS d) 5)):=zbE ac.o M.o s;have X:=ae.trans s;clear s;have U:=zc (bdO HZ.o E);have Y:=zc (zcD V.o E);go_wp2;go_roundg (gk-1)
         case rel=>exact⟨S5,a5,U.o,by have:=Y.o;omega,O,X,N.o⟩
         case measure=>omega
  ·have aC: ¬((z.pos:Int)<(C.ts.length:Int)):=by omega
   go_wp2_with fail;refine wp_region_quiet_below (by kernel_rfl) (by kernel_rfl) ?_
   repeat (go_big_quiet_step (fail))
   refine wpQuiet_nil ?_;intro w2 ap;obtain⟨⟨dq,aD⟩,ab⟩:=ap;have af:Bw wr w2:=by show Below _ _ _;rw[ab];exact below_regrown _ _ _
   clear ab k0 k1 C0 C1;have H:Hid (IM C g b c d L z w2):=an.later af;have am:=aw.trans (IS.below af);have ao:Hid (w2.heap[W.heap.size]? =some (.map (esS d) 5)):=zbE an ar.o (IS.below af);have HX:=zc (ad.o.trans (zm0 hp));obtain⟨c0,c1,c2,c3,c4,c5,c6,c7,c8,c9,cf⟩:=zai H.o.cells;have al:=H.o.mem.own.ep;have aL:=H.o.mem.inv.ep;have ak:=H.o.free;have ag:=zc ak;clear ak;have au:=H.o.lt;rcases H.o.mem.own.la.nil_or with ⟨ha,hc,hn⟩|⟨gl,ha⟩
   ·have HN:=zc (List.eq_nil_of_length_eq_zero hn);rw[ha,hc,hn] at c9;clear ha hc hn;go_wp2_with fail;go_region_law (first|(refine zmz rfl (.tmp 41) (.tmp 45) 50 rfl 97 i0 underlying50 hi c 4 z.ep.length L.ep _ (by rfl) (by exact al) (by rfl) ?_))
    all_goals
     go_wp2;go_end0;rw[HX.o];refine⟨rfl,L,H.o.mem.wholeI0 HN.o ag.o (fun k hk=>zx hk),⟨.slice (some ⟨g,0,none⟩) C.ts.length b,.int .i64 z.pos,.int .i64 C.fin,.bool C.scr,.slice L.la.a z.la.length L.la.cap,(zae H.o.cells).trans (by simp[HN.o])⟩,?_⟩;exact (h.back (am.set _ _)).drew
   ·have av:OwnR w2 c 97 4 ⟨some ⟨gl,0,none⟩,L.la.cap⟩ z.la.length (z.la.flatMap epL):=by have:=H.o.mem.own.la;unfold OwnR at this ⊢;rw[ha] at this;exact this
    rw[ha] at c9;have ay:=H.o.mem.base;have aF:Hid (some d≠L.ep.blk):=fun e=>ag.o (.inr (.inr (.inl e.symm)));go_wp2_with fail;go_region_law (first|(refine zmy rfl (.tmp 41) (.tmp 45) 50 rfl c 97 i0 _ 4 56 underlying50 hi aA aG aE rfl (by decide) (by decide) L.ep z.ep.length _ (by rfl) (by exact al) gl z.la.length L.la.cap c _ (by rfl) (by exact av) (zhC _) (by omega) (by exact ay) ?_;intro r' wz hr aq ax;have g2:=(aq.block d (by exact au) aF.o).trans (by exact H.o.cells);obtain⟨d0,d1,d2,d3,d4,d5,d6,d7,d8,d9,df⟩:=zai g2))
    all_goals
     have HR:=zc hr;have ah:=zc aq;have aB:=zc ax;have ao:=zc g2;clear hr aq ax g2 c0 c1 c2 c3 c4 c5 c6 c7 c8 c9 cf al av;go_wp2;go_end0;rw[HX.o];refine⟨rfl,{L with ep:=r'},H.o.drew.mem.wholeI ah.o HR.o aB.o au ag.o (fun k hk=>zx hk),⟨.slice (some ⟨g,0,none⟩) C.ts.length b,.int .i64 z.pos,.int .i64 C.fin,.bool C.scr,.slice L.la.a z.la.length L.la.cap,(zae ao.o).trans (by simp)⟩,?_⟩;exact ((h.back am).trans ⟨ah.o.os,ah.o.tape,ah.o.output,ah.o.size,fun k hk=>ah.o.block k (show k<w2.heap.size by omega) (fun e=>by have:=(H.o.mem.own.ep.typed e.symm).1;omega)⟩).setCell H.o.ge _
theorem zuD (h:IM C g b c d S p W) (hC:zbu C) (hs:C.scr=false):
  Calls prog 169 #[.pointer (some ⟨d,0,none⟩)] W (ziB c d (za2 C p) W):=by
 obtain⟨i0,hi,az,aF,aD⟩:=info_parts Tryz.infoExp;go_enter func169,ntmps169;go_wp2_with fail;refine (zuy C g b c d S p _ h hs).mono ?_;rintro e w1 ⟨rfl,hg,hb⟩;have aG:=h.later hb;have ay:IS d S W S w1:=IS.below hb;have aH:=zc hg;clear hg hb;go_wp2;go_loopg [] (C.ts.length+1) (fun k wr=>∃(L:Sv) (z:PS),za2 C p=za2 C z/\C.ts.length-z.pos<k/\IM C g b c d L z wr/\IS d S W L wr/\wr.heap[W.heap.size]? =some (.map (esM d) 6))
 case atStart=>exact⟨S,p,rfl,by omega,aG,ay,aH.o⟩
 case round=>
  obtain⟨L,z,hy,hk,m',s',g'⟩:=hrel;have ab:=zc hy;have am:=m';have av:=s';have aq:Hid (wr.heap[W.heap.size]? =some (.map (esM d) 6)):=g';obtain⟨c0,c1,_,_,_,_,_,_,_,_,_⟩:=zai m'.cells;have C0:=zc c0;have C1:=zc c1;have aJ:=m'.mem.inv.pos;have aI:=m'.mem.few;clear hy m' s' g' c0 c1;have k0:=cell_regrown C0.o;have k1:=cell_regrown C1.o;by_cases hp:z.pos<C.ts.length
  ·have aB:((z.pos:Int)<(C.ts.length:Int)):=by omega
   go_wp2_with fail;refine wp_region_quiet_below (by kernel_rfl) (by kernel_rfl) ?_
   repeat (go_big_quiet_step (fail))
   refine wpQuiet_nil ?_;intro w2 ao;obtain⟨⟨dq,aC⟩,ad⟩:=ao;have ae:Bw wr w2:=by show Below _ _ _;rw[ad];exact below_regrown _ _ _
   clear ad k0 k1 C0 C1;have H:Hid (IM C g b c d L z w2):=am.later ae;have al:=av.trans (IS.below ae);have an:Hid (w2.heap[W.heap.size]? =some (.map (esM d) 6)):=zbE am aq.o (IS.below ae);go_wp2_with fail;refine (zkd C g b c d L z _ H.o).mono ?_;rintro e w3 ⟨rfl,hb⟩;have aa:Hid (IM C g b c d L z w3):=H.o.later hb;have ac:=al.trans (IS.below hb);have M:Hid (w3.heap[W.heap.size]? =some (.map (esM d) 6)):=zbE H.o an.o (IS.below hb);clear hb;have ag:W.heap.size≠d:=by have:=h.lt;omega
   obtain⟨c0,c1,c2,c3,c4,c5,c6,c7,c8,c9,cf⟩:=zai aa.o.cells;cases t0:isT C z.pos 1 zH with
   |true=>
    have D:zaG C z=letJ C 1 (adv z):=by rw[zaG,t0];rfl
    have HZ:=zc (ab.o.trans (zcC hp D));have V:=zc D;clear D;rw[zde t0];have ah:=zdd M.o (zuz d);go_wp2_with fail;have J:=aa.o.adv hp;have I:IS d S W L (w3.setCell ⟨d,1,none⟩ (.int .i64 ((z.pos:Int)+1))):=ac.set _ _;have Z:Hid ((w3.setCell ⟨d,1,none⟩ (.int .i64 ((z.pos:Int)+1))).heap[W.heap.size]? =some (.map (esM d) 6)):=(zx ag).trans M.o;refine (zhN C g b c d L (adv z) _ J).mono ?_;cases E:letJ C 1 (adv z) with
    |error G=>
     rintro e w5 ⟨rfl,hb⟩;have HB:=(h.back I).trans hb;have HX:Hid (za2 C p= .error G):=bdE HZ.o E;unfold Pan;go_wp2;refine⟨rfl,?_⟩;rw[HX.o];exact⟨rfl,HB⟩
    |ok a5=>
     rintro e w5 ⟨rfl,S5,O,s⟩;have N:Hid (w5.heap[W.heap.size]? =some (.map (esM d) 6)):=zbE J Z.o s;have X:=I.trans s;clear s;have U:=zc (bdO HZ.o E);have Y:=zc (zcD V.o E);go_wp2;go_roundg (gk-1)
     case rel=>exact⟨S5,a5,U.o,by have:=Y.o;omega,O,X,N.o⟩
     case measure=>omega
   |false=>
    cases t1:isT C z.pos 1 zW with
    |true=>
     have D:zaG C z=fnI C (adv z):=by rw[zaG,t0,t1];simp only[Bool.false_eq_true,↓reduceIte]
     have HZ:=zc (ab.o.trans (zcC hp D));have V:=zc D;clear D;rw[zde t1];have ah:=zdd M.o (zu0 d);go_wp2_with fail;have J:=aa.o.adv hp;have I:IS d S W L (w3.setCell ⟨d,1,none⟩ (.int .i64 ((z.pos:Int)+1))):=ac.set _ _;have Z:Hid ((w3.setCell ⟨d,1,none⟩ (.int .i64 ((z.pos:Int)+1))).heap[W.heap.size]? =some (.map (esM d) 6)):=(zx ag).trans M.o;refine (zhO C g b c d L (adv z) _ J).mono ?_;cases E:fnI C (adv z) with
     |error G=>
      rintro e w5 ⟨rfl,hb⟩;have HB:=(h.back I).trans hb;have HX:Hid (za2 C p= .error G):=bdE HZ.o E;unfold Pan;go_wp2;refine⟨rfl,?_⟩;rw[HX.o];exact⟨rfl,HB⟩
     |ok a5=>
      rintro e w5 ⟨rfl,S5,O,s⟩;have N:Hid (w5.heap[W.heap.size]? =some (.map (esM d) 6)):=zbE J Z.o s;have X:=I.trans s;clear s;have U:=zc (bdO HZ.o E);have Y:=zc (zcD V.o E);go_wp2;go_roundg (gk-1)
      case rel=>exact⟨S5,a5,U.o,by have:=Y.o;omega,O,X,N.o⟩
      case measure=>omega
    |false=>
     cases t2:isT C z.pos 1 za1 with
     |true=>
      have D:zaG C z=printI C (adv z):=by rw[zaG,t0,t1,t2];simp only[Bool.false_eq_true,↓reduceIte]
      have HZ:=zc (ab.o.trans (zcC hp D));have V:=zc D;clear D;rw[zde t2];have ah:=zdd M.o (zu1 d);go_wp2_with fail;have J:=aa.o.adv hp;have I:IS d S W L (w3.setCell ⟨d,1,none⟩ (.int .i64 ((z.pos:Int)+1))):=ac.set _ _;have Z:Hid ((w3.setCell ⟨d,1,none⟩ (.int .i64 ((z.pos:Int)+1))).heap[W.heap.size]? =some (.map (esM d) 6)):=(zx ag).trans M.o;refine (zkb C g b c d L (adv z) _ J).mono ?_;cases E:printI C (adv z) with
      |error G=>
       rintro e w5 ⟨rfl,hb⟩;have HB:=(h.back I).trans hb;have HX:Hid (za2 C p= .error G):=bdE HZ.o E;unfold Pan;go_wp2;refine⟨rfl,?_⟩;rw[HX.o];exact⟨rfl,HB⟩
      |ok a5=>
       rintro e w5 ⟨rfl,S5,O,s⟩;have N:Hid (w5.heap[W.heap.size]? =some (.map (esM d) 6)):=zbE J Z.o s;have X:=I.trans s;clear s;have U:=zc (bdO HZ.o E);have Y:=zc (zcD V.o E);go_wp2;go_roundg (gk-1)
       case rel=>exact⟨S5,a5,U.o,by have:=Y.o;omega,O,X,N.o⟩
       case measure=>omega
     |false=>
      cases t3:isT C z.pos 1 zaD with
      |true=>
       have D:zaG C z=stmtI C 5 sNone cSemi (adv z):=by rw[zaG,t0,t1,t2,t3];simp only[Bool.false_eq_true,↓reduceIte]
       have HZ:=zc (ab.o.trans (zcC hp D));have V:=zc D;clear D;rw[zde t3];have ah:=zdd M.o (zu2 d);go_wp2_with fail;have J:=aa.o.adv hp;have I:IS d S W L (w3.setCell ⟨d,1,none⟩ (.int .i64 ((z.pos:Int)+1))):=ac.set _ _;have Z:Hid ((w3.setCell ⟨d,1,none⟩ (.int .i64 ((z.pos:Int)+1))).heap[W.heap.size]? =some (.map (esM d) 6)):=(zx ag).trans M.o;refine (zkc C g b c d L (adv z) _ J).mono ?_;cases E:stmtI C 5 sNone cSemi (adv z) with
       |error G=>
        rintro e w5 ⟨rfl,hb⟩;have HB:=(h.back I).trans hb;have HX:Hid (za2 C p= .error G):=bdE HZ.o E;unfold Pan;go_wp2;refine⟨rfl,?_⟩;rw[HX.o];exact⟨rfl,HB⟩
       |ok a5=>
        rintro e w5 ⟨rfl,S5,O,s⟩;have N:Hid (w5.heap[W.heap.size]? =some (.map (esM d) 6)):=zbE J Z.o s;have X:=I.trans s;clear s;have U:=zc (bdO HZ.o E);have Y:=zc (zcD V.o E);go_wp2;go_roundg (gk-1)
        case rel=>exact⟨S5,a5,U.o,by have:=Y.o;omega,O,X,N.o⟩
        case measure=>omega
      |false=>
       cases t4:isT C z.pos 1 zao with
       |true=>
        have D:zaG C z=zaS C (adv z):=by rw[zaG,t0,t1,t2,t3,t4,hs];simp only[Bool.false_eq_true,↓reduceIte,Bool.false_and,Bool.not_false,Bool.and_self]
        have HZ:=zc (ab.o.trans (zcC hp D));have V:=zc D;clear D;rw[zde t4];have ah:=zdd M.o (zu3 d);go_wp2_with fail;have J:=aa.o.adv hp;have I:IS d S W L (w3.setCell ⟨d,1,none⟩ (.int .i64 ((z.pos:Int)+1))):=ac.set _ _;have Z:Hid ((w3.setCell ⟨d,1,none⟩ (.int .i64 ((z.pos:Int)+1))).heap[W.heap.size]? =some (.map (esM d) 6)):=(zx ag).trans M.o;refine (ztT C g b c d L (adv z) _ J hC).mono ?_;cases E:zaS C (adv z) with
        |error G=>
         rintro e w5 ⟨rfl,hb⟩;have HB:=(h.back I).trans hb;have HX:Hid (za2 C p= .error G):=bdE HZ.o E;unfold Pan;go_wp2;refine⟨rfl,?_⟩;rw[HX.o];exact⟨rfl,HB⟩
        |ok a5=>
         rintro e w5 ⟨rfl,S5,O,s⟩;have N:Hid (w5.heap[W.heap.size]? =some (.map (esM d) 6)):=zbE J Z.o s;have X:=I.trans s;clear s;have U:=zc (bdO HZ.o E);have Y:=zc (zcD V.o E);go_wp2;go_roundg (gk-1)
         case rel=>exact⟨S5,a5,U.o,by have:=Y.o;omega,O,X,N.o⟩
         case measure=>omega
       |false=>
        cases t5:isT C z.pos 1 zan with
        |true=>
         have D:zaG C z=zaz C (adv z):=by rw[zaG,t0,t1,t2,t3,t4,t5,hs];simp only[Bool.false_eq_true,↓reduceIte,Bool.false_and,Bool.not_false,Bool.and_self,Bool.and_false]
         have HZ:=zc (ab.o.trans (zcC hp D));have V:=zc D;clear D;rw[zde t5];have ah:=zdd M.o (zu4 d);go_wp2_with fail;have J:=aa.o.adv hp;have I:IS d S W L (w3.setCell ⟨d,1,none⟩ (.int .i64 ((z.pos:Int)+1))):=ac.set _ _;have Z:Hid ((w3.setCell ⟨d,1,none⟩ (.int .i64 ((z.pos:Int)+1))).heap[W.heap.size]? =some (.map (esM d) 6)):=(zx ag).trans M.o;refine (zuq C g b c d L (adv z) _ J hC).mono ?_;cases E:zaz C (adv z) with
         |error G=>
          rintro e w5 ⟨rfl,hb⟩;have HB:=(h.back I).trans hb;have HX:Hid (za2 C p= .error G):=bdE HZ.o E;unfold Pan;go_wp2;refine⟨rfl,?_⟩;rw[HX.o];exact⟨rfl,HB⟩
         |ok a5=>
          rintro e w5 ⟨rfl,S5,O,s⟩;have N:Hid (w5.heap[W.heap.size]? =some (.map (esM d) 6)):=zbE J Z.o s;have X:=I.trans s;clear s;have U:=zc (bdO HZ.o E);have Y:=zc (zcD V.o E);go_wp2;go_roundg (gk-1)
          case rel=>exact⟨S5,a5,U.o,by have:=Y.o;omega,O,X,N.o⟩
          case measure=>omega
        |false=>
         have D:zaG C z=letJ C 3 z:=by rw[zaG,t0,t1,t2,t3,t4,t5,hs];simp only[Bool.false_eq_true,↓reduceIte,Bool.false_and,Bool.not_false,Bool.and_false]
         have HZ:=zc (ab.o.trans (zcC hp D));have V:=zc D;clear D;obtain⟨vz,ah⟩:=zms M.o (zu5 d (zcJ C z.pos) (zdf t0 (by decide)) (zdf t1 (by decide)) (zdf t2 (by decide)) (zdf t3 (by decide)) (zdf t4 (by decide)) (zdf t5 (by decide)));go_wp2_with fail;refine (zka C g b c d L z _ aa.o).mono ?_;cases E:letJ C 3 z with
         |error G=>
          rintro e w5 ⟨rfl,hb⟩;have HB:=(h.back ac).trans hb;have HX:Hid (za2 C p= .error G):=bdE HZ.o E;unfold Pan;go_wp2;refine⟨rfl,?_⟩;rw[HX.o];exact⟨rfl,HB⟩
         |ok a5=>
          rintro e w5 ⟨rfl,S5,O,s⟩;have N:Hid (w5.heap[W.heap.size]? =some (.map (esM d) 6)):=zbE aa.o M.o s;have X:=ac.trans s;clear s;have U:=zc (bdO HZ.o E);have Y:=zc (zcD V.o E);go_wp2;go_roundg (gk-1)
          case rel=>exact⟨S5,a5,U.o,by have:=Y.o;omega,O,X,N.o⟩
          case measure=>omega
  ·have aB: ¬((z.pos:Int)<(C.ts.length:Int)):=by omega
   go_wp2_with fail;refine wp_region_quiet_below (by kernel_rfl) (by kernel_rfl) ?_
   repeat (go_big_quiet_step (fail))
   refine wpQuiet_nil ?_;intro w2 ao;obtain⟨⟨dq,aC⟩,ad⟩:=ao;have ae:Bw wr w2:=by show Below _ _ _;rw[ad];exact below_regrown _ _ _
   clear ad k0 k1 C0 C1;have H:Hid (IM C g b c d L z w2):=am.later ae;have al:=av.trans (IS.below ae);have an:Hid (w2.heap[W.heap.size]? =some (.map (esM d) 6)):=zbE am aq.o (IS.below ae);have HX:=zc (ab.o.trans (zm0 hp));obtain⟨c0,c1,c2,c3,c4,c5,c6,c7,c8,c9,cf⟩:=zai H.o.cells;have ak:=H.o.mem.own.ep;have aK:=H.o.mem.inv.ep;have aj:=H.o.free;have af:=zc aj;clear aj;have ar:=H.o.lt;rcases H.o.mem.own.la.nil_or with ⟨ha,hc,hn⟩|⟨gl,ha⟩
   ·have HN:=zc (List.eq_nil_of_length_eq_zero hn);rw[ha,hc,hn] at c9;clear ha hc hn;go_wp2_with fail;go_region_law (first|(refine zmz rfl (.tmp 41) (.tmp 45) 50 rfl 97 i0 underlying50 hi c 4 z.ep.length L.ep _ (by rfl) (by exact ak) (by rfl) ?_))
    all_goals
     go_wp2;go_end0;rw[HX.o];refine⟨rfl,L,H.o.mem.wholeI0 HN.o af.o (fun k hk=>zx hk),⟨.slice (some ⟨g,0,none⟩) C.ts.length b,.int .i64 z.pos,.int .i64 C.fin,.bool C.scr,.slice L.la.a z.la.length L.la.cap,(zae H.o.cells).trans (by simp[HN.o])⟩,?_⟩;exact (h.back (al.set _ _)).drew
   ·have au:OwnR w2 c 97 4 ⟨some ⟨gl,0,none⟩,L.la.cap⟩ z.la.length (z.la.flatMap epL):=by have:=H.o.mem.own.la;unfold OwnR at this ⊢;rw[ha] at this;exact this
    rw[ha] at c9;have ax:=H.o.mem.base;have aE:Hid (some d≠L.ep.blk):=fun e=>af.o (.inr (.inr (.inl e.symm)));go_wp2_with fail;go_region_law (first|(refine zmy rfl (.tmp 41) (.tmp 45) 50 rfl c 97 i0 _ 4 56 underlying50 hi az aF aD rfl (by decide) (by decide) L.ep z.ep.length _ (by rfl) (by exact ak) gl z.la.length L.la.cap c _ (by rfl) (by exact au) (zhC _) (by omega) (by exact ax) ?_;intro r' wz hr ap aw;have g2:=(ap.block d (by exact ar) aE.o).trans (by exact H.o.cells);obtain⟨d0,d1,d2,d3,d4,d5,d6,d7,d8,d9,df⟩:=zai g2))
    all_goals
     have HR:=zc hr;have ai:=zc ap;have aA:=zc aw;have an:=zc g2;clear hr ap aw g2 c0 c1 c2 c3 c4 c5 c6 c7 c8 c9 cf ak au;go_wp2;go_end0;rw[HX.o];refine⟨rfl,{L with ep:=r'},H.o.drew.mem.wholeI ai.o HR.o aA.o ar af.o (fun k hk=>zx hk),⟨.slice (some ⟨g,0,none⟩) C.ts.length b,.int .i64 z.pos,.int .i64 C.fin,.bool C.scr,.slice L.la.a z.la.length L.la.cap,(zae an.o).trans (by simp)⟩,?_⟩;exact ((h.back al).trans ⟨ai.o.os,ai.o.tape,ai.o.output,ai.o.size,fun k hk=>ai.o.block k (show k<w2.heap.size by omega) (fun e=>by have:=(H.o.mem.own.ep.typed e.symm).1;omega)⟩).setCell H.o.ge _
end Go.Proofs.YtgcbmogmniahjaaGreat
