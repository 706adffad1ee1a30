/-
  A row of pairs of names beside a program under way. No program is spoken of but for the numbers of its types.
  What spec's l4Tail answers: the walk.
  What spec's l4List answers: the walk.
  What spec's l4Part answers,if l4Sum answers so behind it: the walks.
  What spec's l4Part answers where no number and no bracket stands,in a script: the walks.
  What spec's l4Part answers where no number and no bracket stands: the walks.
  What spec's l4Part,l4Product and l4Sum answer: the walks of the two loops,and the three together.
  What spec's l4Let and l4Fn answer: the walks.
-/
import Derived.Deep.DeepCutAuto
import Derived.Test.YticdggnnpjachaaGreatCcModOkImplToSpecBox
namespace Go.Proofs.YticdggnnpjachaaGreat
set_option maxRecDepth 100000
set_option maxHeartbeats 6400000
open Go.RowKit Go.PlainAid
structure Row (S:Sv) (w:World) (base B:Nat) (r:Rw) (l:List Ep):Prop where
 own:OwnR w base 102 4 r l.length (l.flatMap epL)
 free: ∀k,r.blk=some k→¬S.has k
 new: ∀k,r.blk=some k→B≤k
 addr: ∃g,r.a=some ⟨g,0,none⟩
theorem Row.ne {z b:Nat} {S:Sv} {w:World} {j B:Nat} {r:Rw} {l:List Ep} {n:Array Value} (h:Row S w j B r l) (q:Bx z S w b n): ∀k,r.blk=some k→k≠b:=by
 rintro k o rfl
 obtain⟨_,_,c,g⟩:=h.own.typed o
 rw[q.heap] at g
 simp only[Option.some.injEq,Obj.cells.injEq] at g
 exact absurd g.2.1 (by decide)
theorem Row.stp {S q:Sv} {w o:World} {j B:Nat} {r:Rw} {l:List Ep} (h:Row S w j B r l) (s:Stp S w q o):Row q o j B r l:=
 ⟨h.own.keep fun k n=>s.block k (h.own.typed n).2.1 (h.free k n),fun k n g=>(s.sub k g).elim (h.free k n) fun z=>by have:=(h.own.typed n).2.1;omega,h.new,h.addr⟩
theorem Row.below {S:Sv} {w n:World} {j B:Nat} {r:Rw} {l:List Ep} (h:Row S w j B r l) (s:Below w.heap.size w n):Row S n j B r l:=h.stp (Stp.below s)
theorem Row.alloc {S:Sv} {w:World} {j B:Nat} {r:Rw} {l:List Ep} (h:Row S w j B r l) (o:Obj):Row S (w.alloc o) j B r l:=h.below ((Below.refl _ _).alloc (Nat.le_refl _) _)
theorem Row.drew {S:Sv} {w:World} {j B:Nat} {r:Rw} {l:List Ep} (h:Row S w j B r l):Row S w.drew j B r l:=⟨h.own,h.free,h.new,h.addr⟩
theorem Row.set {z b:Nat} {S:Sv} {w:World} {j B:Nat} {r:Rw} {l:List Ep} {n:Array Value} (h:Row S w j B r l) (q:Bx z S w b n) (i:Nat) (u:Value):Row S (w.setCell ⟨b,i,none⟩ u) j B r l:=
 ⟨h.own.keep fun k o=>zp (h.ne q k o),h.free,h.new,h.addr⟩
theorem Row.put {O b:Nat} {S:Sv} {w:World} {j B:Nat} {r:Rw} {l:List Ep} {z:Array Value} (h:Row S w j B r l) (M:Bx O S w b z) (J U N I A H q L D K n o:Value):Row S (set12 w b J U N I A H q L D K n o) j B r l:=
 ⟨h.own.keep fun k E=>ze6 (h.ne M k E) _ _ _ _ _ _ _ _ _ _ _ _,h.free,h.new,h.addr⟩
theorem Row.nil {C:Cx} {z n j B:Nat} {S:Sv} {q:PS} {w:World} (h:Mem C z n j S q w) (A:B≤w.heap.size):Row S (w.alloc (.cells #[] 102 (0,0))) j B ⟨some ⟨w.heap.size,0,none⟩,0⟩ []:=by
 refine⟨World.ownsRow_lit w #[] 0 h.base (by unfold maxLen;omega) rfl,fun k o g=>?_,fun k o=>?_,⟨_,rfl⟩⟩
 ·simp only[Rw.blk,Value.ownBlock,Option.some.injEq] at o
  have:=(h.own.has g).2
  omega
 ·simp only[Rw.blk,Value.ownBlock,Option.some.injEq] at o
  omega
theorem Row.grow {C:Cx} {J D j B:Nat} {S:Sv} {q:PS} {W z:World} {r E:Rw} {l:List Ep} {x:Ep} (h:Row S W j B r l) (w:Mem C J D j S q W) (O:B≤W.heap.size) (K:W.grownBy z r.blk) (L:OwnR z j 102 4 E (l.length+1) (l.flatMap epL++epL x)) (A:E.blk=r.blk∨E.blk=some W.heap.size):
  Row S z j B E (l++[x])∧Mem C J D j S q z:=by
 refine⟨⟨?_,fun k o g=>?_,fun k o=>?_,L.addr.resolve_left (by omega)⟩,?_⟩
 ·have e:(l++[x]).length=l.length+1:=by simp
  rw[e]
  simpa using L
 ·rcases A with e|e
  ·exact h.free k (by rw[←e];exact o) g
  ·have M:W.heap.size=k:=Option.some.inj (e.symm.trans o)
   have:=(w.own.has g).2
   omega
 ·rcases A with e|e
  ·exact h.new k (by rw[←e];exact o)
  ·have M:W.heap.size=k:=Option.some.inj (e.symm.trans o)
   omega
 ·have n: ∀k,k<W.heap.size→r.blk≠some k→z.heap[k]? =W.heap[k]?:=fun k o H=>K.block k o fun e=>H e.symm
  refine⟨w.own.keep fun k o=>n k (w.own.has o).2 fun e=>h.free k e o,w.inv,zbs w.tok (n J (zak w.tok).1 fun e=>?_),w.few,Nat.le_trans w.base K.size⟩
  obtain⟨_,_,c,g⟩:=h.own.typed e
  obtain⟨N,I⟩:=zeN w.tok
  rw[g] at I
  simp only[Option.some.injEq,Obj.cells.injEq] at I
  exact absurd I.2.1 (by decide)
theorem Row.bx {w b:Nat} {S:Sv} {W o:World} {j B:Nat} {r:Rw} {l:List Ep} {q:Array Value} (h:Row S W j B r l) (n:Bx w S W b q) (z:W.grownBy o r.blk):Bx w S o b q:=
 ⟨(z.block b n.lt fun e=>h.ne n b e.symm rfl).trans n.heap,n.free,n.ne⟩
theorem Row.sb {S S0:Sv} {w W q:World} {o:Nat} {B:Nat} {r:Rw} {l:List Ep} (h:Row S W o B r l) (j:SB B S0 w S W) (n:W.grownBy q r.blk):SB B S0 w S q:=
 ⟨n.os.trans j.os,n.tape.trans j.tape,n.output.trans j.output,Nat.le_trans j.size n.size,j.low,fun k A z=>(n.block k (by have:=j.size;have:=j.low;omega) fun e=>by have:=h.new k e.symm;omega).trans (j.block k A z),j.sub⟩
theorem Mem.list3 {C:Cx} {E D j:Nat} {S o:Sv} {q:PS} {w n:World} {A z:Array Value} (h:Mem C E D j S q w) (s:Stp S (((w.alloc (.cells A 53 (0,0))).alloc (.cells z 53 (0,0))).alloc (.cells #[] 102 (0,0))) o n):
  Bx E o n w.heap.size A∧Bx E o n (w.heap.size+1) z∧Row o n j w.heap.size ⟨some ⟨w.heap.size+1+1,0,none⟩,0⟩ []∧SB w.heap.size S w o n:=by
 refine⟨(((Bx.new h _).alloc _).alloc _).stp s,?_,?_,(SB.start (zc2 w _ _ _)).step s⟩
 ·have:=((Bx.new (h.alloc (.cells A 53 (0,0))) z).alloc (.cells #[] 102 (0,0))).stp s
  rw[zj] at this
  exact this
 ·have:=(Row.nil (B:=w.heap.size) ((h.alloc (.cells A 53 (0,0))).alloc (.cells z 53 (0,0))) (zaM w _ _).size).stp s
  rw[zcp] at this
  exact this
def Is3 (y:PRL) (q:PS) (z:Int) (l:List Ep):Prop:=
 match y with
 | .ok a=>q=a.1∧z= -1∧l=a.2
 | .error e=>z=(e:Int)
def zoP (C:Cx) (gt cap base:Nat) (y:PRL) (d:Nat) (S:Sv) (w:World) (e:Ending) (w':World):Prop:=
 ∃S' q' z' r l,e= .returned (.tuple #[pv C gt cap S' q' z' d,.slice r.a l.length r.cap,.bool (za5 l)])∧Is3 y q' z' l∧Mem C gt cap base S' q' w'∧Stp S w S' w'∧Row S' w' base w.heap.size r l∧l.length≤4001
theorem ziW (l:List Ep) (x:Ep):za5 (l++[x])=(za5 l||(x.loc.toList==[100,101,102,97,117,108,116])):=by simp[za5]
theorem zoQ {n:Func} {p u v:Tmp} {o:TypeId} (h:n.results= #[.cell p o,.tmp u,.tmp v]) (tmps:Array Value) (P:Program) (w:World):
  (results n tmps).run P w=((asAddr (tmps.getD p undef)).run P w).andThen fun a q=>((loadVar o a).run P q).andThen fun x j=>.ok (.tuple #[x,tmps.getD u undef,tmps.getD v undef]) j:=by
 simp only[results,h]
 simp[Sem.run_bind,Result.andThen]
theorem ziX {P:Program} {o:Func} {p u v:Tmp} {n:TypeId} (h:o.results= #[.cell p n,.tmp u,.tmp v]) (tmps:Array Value) (w:World) (g:Nat) (t:TypeId) (j:Array Value) (q:Nat×Nat) (d:TypeDesc)
  (H:tmps.getD p undef= .pointer (some ⟨g,0,none⟩)) (z:w.heap[g]? =some (.cells j t q))
  (D:P.underlying n=some d) (A:(match d with| .struct _| .array _ _=>true|_=>false)=true) (E:(P.info? n).map (·.size)=some j.size):
  (results o tmps).run P w= .ok (.tuple #[.agg j,tmps.getD u undef,tmps.getD v undef]) w:=by
 rw[zoQ h,H]
 simp[asAddr,Result.andThen,run_loadVar_row w g t n j q d z D A E]
theorem zaZ {C:Cx} {x:PR} {k:Int} {s:ByteArray} {q:PS} {z:Int} (h:Is (bd x (zd C k s)) q z):z<0→1≤q.pos:=by
 intro n
 obtain⟨e,_⟩:=za7 h n
 obtain⟨a,_,j⟩:=zi e
 obtain⟨rfl,_⟩:=zb0 j
 simp[adv]
theorem zgy (C:Cx) (M o n:Nat) (S:Sv) (q:PS) (d:Nat) (N:ByteArray) (w:World) (hm:Mem C M o n S q w) (hp:1≤q.pos):
  Calls Tryz.prog 191 #[pv C M o S q (-1) d,.string N] w (Out C M o n (zbq C N q) d S w):=by
 have HM:=zc hm
 have z:=hm.tok
 have O:=hm.few
 clear hm
 cases hi:isT C q.pos 4 zm with
 |true=>
  have HV:Hid (zbq C N q=bd (bd (bd (.ok q) (zd C 4 zm)) (zd C 4 zay)) (zM C ⟨3,0,N,sNone,0,0⟩)):=if_pos hi
  unfold pv
  go_enter Tryz.func191,Tryz.ntmps191
  go_wp2_with fail
  refine (zg C M o n S q (-1) d 4 zm _ (zo (zo z _) _) O (by decide)).mono ?_
  rintro e w1 ⟨rfl,A⟩
  rw[hi]
  obtain⟨X0,X1,m1,t1⟩:=HM.out.two A
  have j:=zc X0
  have h:=zc X1
  have H:=zc m1
  have I:=zc t1
  clear X0 X1 m1 t1 A
  clear z
  obtain⟨a0,a1,a2,Y,X,a5,a6,a7,a8,a9,D,E,af⟩:=j.out.box
  go_wp2_with fail
  refine (zab C M o n (.ok q) S q (-1) d zm _ (zU q) H.out).mono ?_
  rintro e w2 ⟨S2,q2,z2,rfl,V,m2,K⟩
  replace j:=zc (j.out.stp K)
  replace h:=zc (h.out.stp K)
  have L:=zc (I.out.step K)
  clear I
  have J:=zc m2
  have U:=zc V
  clear V m2 K H
  clear a0 a1 a2 Y X a5 a6 a7 a8 a9 D E af
  go_wp2_with fail
  refine (zab C M o n _ S2 q2 z2 d zay _ U.out J.out).mono ?_
  rintro e w3 ⟨S3,q3,z3,rfl,i3,m3,s3⟩
  replace j:=zc (j.out.stp s3)
  replace h:=zc (h.out.stp s3)
  have aa:=zc (L.out.step s3)
  clear L
  have Z:=zc m3
  have ab:=zc i3
  clear i3 m3 s3 J
  obtain⟨a0,a1,a2,Y,X,a5,a6,a7,a8,a9,D,E,af⟩:=j.out.box
  unfold pv
  go_wp2_with fail
  refine (zc3 C M o n _ S3 q3 z3 d ⟨3,0,N,sNone,0,0⟩ _ ab.out (Z.out.put j.out ..) (zaZ ab.out)).mono ?_
  rintro e w4 ⟨S4,q4,z4,rfl,i4,m4,s4⟩
  replace j:=zc ((j.out.put ..).stp s4)
  replace h:=zc ((h.out.other (by omega) ..).stp s4)
  have ah:Hid (SB w.heap.size S w S4 w4):=(aa.out.put (by omega) ..).step s4
  clear aa
  have ag:=zc m4
  have ad:=zc i4
  clear i4 m4 s4 Z
  clear a0 a1 a2 Y X a5 a6 a7 a8 a9 D E af
  obtain⟨b0,b1,b2,b3,b4,b5,b6,b7,b8,b9,ae,ac,bf⟩:=h.out.box
  unfold pv
  go_wp2
  refine bodyPost_ret (results_cell_row rfl _ _ (w.heap.size+1) 53 _ (0,0) _ rfl ((h.out.put ..)).heap Tryz.underlying53 rfl (by kernel_rfl)) rfl ?_
  rw[HV.out]
  exact zW rfl ad.out (ag.out.put h.out ..) (ah.out.put (by omega) ..)
 |false=>
  have HV:Hid (zbq C N q=bd (.ok q) (zM C ⟨2,0,N,sNone,0,0⟩)):=by show zbq C N q=_;rw[zbq,hi];rfl
  unfold pv
  go_enter Tryz.func191,Tryz.ntmps191
  go_wp2_with fail
  refine (zg C M o n S q (-1) d 4 zm _ (zo (zo z _) _) O (by decide)).mono ?_
  rintro e w1 ⟨rfl,A⟩
  rw[hi]
  obtain⟨X0,X1,m1,t1⟩:=HM.out.two A
  have j:=zc X0
  have h:=zc X1
  have H:=zc m1
  have I:=zc t1
  clear X0 X1 m1 t1 A
  clear z
  obtain⟨a0,a1,a2,Y,X,a5,a6,a7,a8,a9,D,E,af⟩:=j.out.box
  go_wp2_with fail
  refine (zc3 C M o n (.ok q) S q (-1) d ⟨2,0,N,sNone,0,0⟩ _ (zU q) H.out (fun _=>hp)).mono ?_
  rintro e w2 ⟨S2,q2,z2,rfl,V,m2,K⟩
  replace j:=zc (j.out.stp K)
  replace h:=zc (h.out.stp K)
  have L:=zc (I.out.step K)
  clear I
  have J:=zc m2
  have U:=zc V
  clear V m2 K H
  clear a0 a1 a2 Y X a5 a6 a7 a8 a9 D E af
  obtain⟨b0,b1,b2,b3,b4,b5,b6,b7,b8,b9,ae,ac,bf⟩:=h.out.box
  unfold pv
  go_wp2
  refine bodyPost_ret (results_cell_row rfl _ _ (w.heap.size+1) 53 _ (0,0) _ rfl ((h.out.put ..)).heap Tryz.underlying53 rfl (by kernel_rfl)) rfl ?_
  rw[HV.out]
  exact zW rfl U.out (J.out.put h.out ..) (L.out.put (by omega) ..)
theorem zoR {C:Cx} {h:Bool} {l:List Ep} {Y:PRN} {o D:ByteArray} {J E z:PS} {K w I:Int} (L:Is2 Y J K o) (n:Is2 (bd Y (asP C h)) E w D) (q:(decide (w<0)&&isT C E.pos 4 zbp)=false) (j:Is (bd (zaG (bd Y (asP C h))) (zd C 4 zbd)) z I):
  Is3 (bd Y fun a=>bd (asP C h a) fun b=>if isT C b.1.pos 4 zbp then zav C h (adv b.1) (l++[⟨0,b.2,a.2,sNone⟩]) else bd (zd C 4 zbd b.1) fun q'=>.ok (q',l++[⟨0,b.2,a.2,sNone⟩])) z I (l++[⟨0,D,o,sNone⟩]):=by
 cases Y with
 |error e=>exact j
 |ok a=>
  obtain⟨_,_,rfl⟩:=L
  rw[zx] at n j ⊢
  cases A:asP C h a with
  |error e=>rw[A] at j;exact j
  |ok b=>
   rw[A] at n j
   obtain⟨rfl,rfl,rfl⟩:=n
   rw[Bool.and_eq_false_iff] at q
   rw[zx,q.resolve_left (by decide)]
   have e:bd (zaG (.ok b)) (zd C 4 zbd)=zd C 4 zbd b.1:=rfl
   rw[e] at j
   show Is3 (bd (zd C 4 zbd b.1) _) _ _ _
   cases H:zd C 4 zbd b.1 with
   |error e=>rw[H] at j;exact j
   |ok c=>rw[H] at j;exact⟨j.1,j.2,rfl⟩
theorem zoS {C:Cx} {h:Bool} {l:List Ep} {n J w:PS} {E H:ByteArray} {K o:Int} (A:Is2 (bd (.ok n) (zh C true)) J K E) (j:Is2 (bd (bd (.ok n) (zh C true)) (asP C h)) w o H) (L:o<0) (I:isT C w.pos 4 zbp=true):
  (bd (.ok n) fun q=>zav C h q l)=(bd (.ok (adv w)) fun q=>zav C h q (l++[⟨0,H,E,sNone⟩]))∧n.pos+1≤w.pos:=by
 rw[zx] at A j ⊢
 rw[zx,zeO]
 cases D:zh C true n with
 |error e=>rw[D] at j;have:o=(e:Int):=j;omega
 |ok a=>
  rw[D] at A j
  obtain⟨_,_,rfl⟩:=A
  rw[zx] at j ⊢
  obtain⟨rfl,_⟩:=zbe D
  cases z:asP C h (adv n,(ze C n.pos).text) with
  |error e=>rw[z] at j;have:o=(e:Int):=j;omega
  |ok b=>
   rw[z] at j
   obtain⟨rfl,rfl,rfl⟩:=j
   have:=zej z
   rw[zx,I]
   exact⟨rfl,this⟩
theorem zoT {C:Cx} {h:Bool} {x:PR} {q j:PS} {z n:Int} {l:List Ep} (w:Is x q z) (A: ¬z<0) (o:Is (bd x (zd C 4 zbd)) j n):Is3 (bd x fun q=>zav C h q l) j n l:=by
 obtain⟨e,rfl,_⟩:=zcN w A
 exact o
theorem zoU {C:Cx} {h:Bool} {Y:PRN} {j o:PS} {n q:Int} {D w:ByteArray} (A:Is2 Y j n D) (z:(decide (n<0)&&isT C j.pos 1 sAs)=true) (E:Is2 (bd (.ok (adv j)) (zh C h)) o q w):Is2 (bd Y (asP C h)) o q w:=by
 rw[Bool.and_eq_true,decide_eq_true_eq] at z
 cases Y with
 |error e=>have:n=(e:Int):=A;omega
 |ok a=>
  obtain⟨rfl,_,_⟩:=A
  rw[zx,asP,if_pos z.2]
  exact E
theorem zoV {C:Cx} {q:Bool} {Y:PRN} {j:PS} {n:Int} {o:ByteArray} (z:Is2 Y j n o) (w:(decide (n<0)&&isT C j.pos 1 sAs)=false) (A:((o.toList==[100,101,102,97,117,108,116])&& !exp)=true):Is2 (bd Y (asP C q)) j (zbi C j.pos n) o:=by
 cases Y with
 |error e=>
  have h:n=(e:Int):=z
  show zbi C j.pos n=(e:Int)
  rw[zbi,if_neg (by omega)]
  exact h
 |ok a=>
  obtain⟨rfl,rfl,rfl⟩:=z
  rw[Bool.and_eq_false_iff] at w
  rw[zx,asP,w.resolve_left (by decide),A]
  rfl
theorem ziY {C:Cx} {j:Bool} {Y:PRN} {n:PS} {o:Int} {h:ByteArray} (w:Is2 Y n o h) (q:(decide (o<0)&&isT C n.pos 1 sAs)=false) (z:((h.toList==[100,101,102,97,117,108,116])&& !exp)=false):Is2 (bd Y (asP C j)) n o h:=by
 cases Y with
 |error e=>exact w
 |ok a=>
  obtain⟨rfl,rfl,rfl⟩:=w
  rw[Bool.and_eq_false_iff] at q
  rw[zx,asP,q.resolve_left (by decide),z]
  exact⟨rfl,rfl,rfl⟩
theorem ziZ (C:Cx) (J I n:Nat) (S:Sv) (q:PS) (d:Nat) (ah:Bool) (w:World) (hm:Mem C J I n S q w):
  Calls Tryz.prog 130 #[pv C J I S q (-1) d,.bool ah] w (zoP C J I n (zcz C ah q) d S w):=by
 obtain⟨i0,hi,aK,aM,aG⟩:=info_parts Tryz.infoExp
 have HM:=zc hm
 have aj:=hm.few
 clear hm
 unfold pv
 go_enter Tryz.func130,Tryz.ntmps130
 go_wp2_with fail
 refine (zab C J I n (.ok q) S q (-1) d zF _ (zU q) (((HM.out.alloc _).alloc _).alloc _)).mono ?_
 rintro e w1 ⟨S1,q1,z1,rfl,i1,m1,s1⟩
 obtain⟨X0,X1,R0,t1⟩:=HM.out.list3 s1
 have h:=zc X0
 have j:=zc X1
 have z:=zc R0
 have aZ:=zc t1
 have aW:=zc m1
 have aN:=zc i1
 clear i1 m1 s1 X0 X1 R0 t1
 obtain⟨Y,a1,Z,V,U,a5,X,a7,a8,a9,A,D,af⟩:=h.out.box
 unfold pv
 go_wp2
 go_loopg [7,8] (C.ts.length+1) (fun k o an wr=>∃(x':PR) (S':Sv) (q':PS) (z':Int) (r:Rw) (l:List Ep),Is x' q' z'∧bd x' (fun q=>zav C ah q l)=zcz C ah q∧(z'<0→C.ts.length-q'.pos<k)∧(l.length≤q'.pos∨l=[])∧o= .slice r.a l.length r.cap∧an= .bool (za5 l)∧Mem C J I n S' q' wr∧SB w.heap.size S w S' wr∧Bx J S' wr w.heap.size #[.slice (some ⟨J,0,none⟩) C.ts.length I,.int .i64 q'.pos,.int .i64 C.fin,.bool C.scr,.slice S'.rq.a q'.rq.length S'.rq.cap,.slice S'.im.a q'.im.length S'.im.cap,.slice S'.ep.a q'.ep.length S'.ep.cap,.slice S'.st.a q'.st.length S'.st.cap,.slice S'.ex.a q'.ex.length S'.ex.cap,.slice S'.la.a q'.la.length S'.la.cap,.int .i64 z',.int .i64 d]∧Bx J S' wr (w.heap.size+1) #[.slice none 0 0,.int .i64 0,.int .i64 0,.bool false,.slice none 0 0,.slice none 0 0,.slice none 0 0,.slice none 0 0,.slice none 0 0,.slice none 0 0,.int .i64 0,.int .i64 0]∧Row S' wr n w.heap.size r l)
 case atStart=>exact⟨_,S1,q1,z1,_,[],aN.out,rfl,fun _=>by omega,.inr rfl,rfl,rfl,(aW.out.put h.out ..),(aZ.out.put (by omega) ..),(h.out.put ..),(j.out.other (by omega) ..),(z.out.put h.out ..)⟩
 case round=>
  obtain⟨x2,S2,q2,z2,r,l,i2,e2,l2,n2,rfl,rfl,m2,t2,X0,X1,R0⟩:=hrel
  have h:=zc X0
  have j:=zc X1
  have am:=zc m2
  have aq:=zc t2
  have ax:=zc i2
  have av:=zc e2
  have aI:=zc l2
  have z:=zc R0
  have bc:l.length≤4000:=n2.elim (fun g=>by have:=m2.inv.pos;omega) (fun g=>by rw[g];simp)
  have aQ:=zc n2
  clear X0 X1 i2 m2 t2 e2 l2 R0 n2
  by_cases hz:z2<0
  ·skip
   obtain⟨rfl,rfl⟩:=za7 ax.out hz
   have be:=aI.out hz
   obtain⟨Y,a1,Z,V,U,a5,X,a7,a8,a9,A,D,af⟩:=h.out.box
   go_wp2_with fail
   refine (zaU C J I n (.ok q2) S2 q2 (-1) d true _ (zU q2) am.out).mono ?_
   rintro e w3 ⟨O,q3,z3,n3,rfl,i3,m3,s3⟩
   replace h:=zc (h.out.stp s3)
   replace j:=zc (j.out.stp s3)
   have ap:=zc (aq.out.step s3)
   have H:Hid (Row O w3 n w.heap.size r l):=z.out.stp s3
   clear z
   have z:=zc H
   clear H
   clear aq
   have al:=zc m3
   have ab:=zc i3
   clear i3 m3 s3 am
   clear Y a1 Z V U a5 X a7 a8 a9 A D af
   have ba:w.heap.size+1<w3.heap.size:=j.out.lt
   unfold pv
   go_upto_region 6 with fail
   refine zJ (R:=fun W=>Bx J O W (w.heap.size) _∧Bx J O W (w.heap.size+1) _∧Bx J O W (w3.heap.size) _∧Row O W n w.heap.size r l∧Mem C J I n O q3 W∧SB w.heap.size S w O W) ⟨(h.out.alloc _),(j.out.alloc _),(Bx.new al.out _),(z.out.alloc _),(al.out.alloc _),(ap.out.alloc _)⟩ ?_
   clear h j ap al
   clear z
   rintro w4 ⟨X0,X1,X2,R0,m4,t4⟩
   have z:=zc R0
   clear R0
   have h:=zc X0
   have j:=zc X1
   have K:=zc X2
   have aB:=zc m4
   have aC:=zc t4
   clear m4 t4 X0 X1 X2
   obtain⟨Y,a1,Z,V,U,a5,X,a7,a8,a9,A,D,af⟩:=h.out.box
   obtain⟨c0,c1,c2,c3,c4,c5,c6,c7,c8,c9,aU,aF,cf⟩:=K.out.box
   go_upto_region 7 with fail
   refine zJ (R:=fun W=>Bx J O W (w.heap.size) _∧Bx J O W (w.heap.size+1) _∧Bx J O W (w3.heap.size) _∧Row O W n w.heap.size r l∧Mem C J I n O q3 W∧SB w.heap.size S w O W) ⟨(h.out.put ..),(j.out.other (by omega) ..),(K.out.other (by omega) ..),(z.out.put h.out ..),(aB.out.put h.out ..),(aC.out.put (by omega) ..)⟩ ?_
   clear Y a1 Z V U a5 X a7 a8 a9 A D af c0 c1 c2 c3 c4 c5 c6 c7 c8 c9 aU aF cf
   clear h j K aC aB
   clear z
   rintro w5 ⟨X0,X1,X2,R0,m5,t5⟩
   have z:=zc R0
   clear R0
   have h:=zc X0
   have j:=zc X1
   have K:=zc X2
   have ag:=zc m5
   have ak:=zc t5
   clear m5 t5 X0 X1 X2
   skip
   obtain⟨Y,a1,Z,V,U,a5,X,a7,a8,a9,A,D,af⟩:=h.out.box
   skip
   go_wp2_with fail
   refine (zg C J I n O q3 z3 d 1 sAs _ ag.out.tok aj (by decide)).mono ?_
   rintro e w6 ⟨rfl,ai⟩
   replace h:=zc (h.out.below ai)
   replace j:=zc (j.out.below ai)
   replace K:=zc (K.out.below ai)
   have N:=zc (ak.out.below ai)
   have L:=zc (ag.out.later ai)
   have H:Hid (Row O w6 n w.heap.size r l):=z.out.below ai
   clear z
   have z:=zc H
   clear H
   clear ai ak ag
   clear Y a1 Z V U a5 X a7 a8 a9 A D af
   go_upto_if 28 with fail
   go_cut [11] (fun aP wx=>∃(M:Sv) (q5:PS) (z5:Int) (n5:ByteArray),aP= .string n5∧Is2 (bd (bd (.ok q2) (zh C true)) (asP C ah)) q5 z5 n5∧Mem C J I n M q5 wx∧SB w.heap.size S w M wx∧Bx J M wx w.heap.size #[.slice (some ⟨J,0,none⟩) C.ts.length I,.int .i64 q5.pos,.int .i64 C.fin,.bool C.scr,.slice M.rq.a q5.rq.length M.rq.cap,.slice M.im.a q5.im.length M.im.cap,.slice M.ep.a q5.ep.length M.ep.cap,.slice M.st.a q5.st.length M.st.cap,.slice M.ex.a q5.ex.length M.ex.cap,.slice M.la.a q5.la.length M.la.cap,.int .i64 z5,.int .i64 d]∧Bx J M wx (w.heap.size+1) #[.slice none 0 0,.int .i64 0,.int .i64 0,.bool false,.slice none 0 0,.slice none 0 0,.slice none 0 0,.slice none 0 0,.slice none 0 0,.slice none 0 0,.int .i64 0,.int .i64 0]∧Row M wx n w.heap.size r l)
   case first=>
    cases hb:(decide (z3<0)&&isT C q3.pos 1 sAs) with
    |true=>
     have aR:q3.pos<C.ts.length:=by rw[Bool.and_eq_true] at hb;exact zaz hb.2 (by decide)
     obtain⟨Y,a1,Z,V,U,a5,X,a7,a8,a9,A,D,af⟩:=h.out.box
     have aH:z3= -1:=by rw[Bool.and_eq_true,decide_eq_true_eq] at hb;exact (za7 ab.out.fst hb.1).2
     subst aH
     go_wp2_with fail
     refine (zaU C J I n (.ok (adv q3)) O (adv q3) (-1) d ah _ (zU _) ((L.out.adv aR).set h.out 1 _)).mono ?_
     rintro e w7 ⟨S7,q7,z7,n7,rfl,i7,m7,s7⟩
     have ae:Hid (Bx J S7 w7 _ _):=(h.out.at1 _).stp s7
     have ad:Hid (Bx J S7 w7 _ _):=(j.out.set_other (by omega) 1 _).stp s7
     have ar:Hid (Bx J S7 w7 _ _):=(K.out.set_other (by omega) 1 _).stp s7
     have ac:Hid (SB w.heap.size S w S7 w7):=(N.out.set (by omega) 1 _).step s7
     replace z:=zc ((z.out.set h.out 1 _).stp s7)
     clear h j K N
     have h:=zc ae
     have j:=zc ad
     have K:=zc ar
     clear ae ad ar
     have aa:=zc m7
     have aX:=zc i7
     clear i7 m7 s7 L
     clear Y a1 Z V U a5 X a7 a8 a9 A D af
     have bb:w.heap.size+1<w7.heap.size:=j.out.lt
     have aE:w3.heap.size<w7.heap.size:=K.out.lt
     unfold pv
     go_upto_region 11 with fail
     refine zJ (R:=fun W=>Bx J S7 W (w.heap.size) _∧Bx J S7 W (w.heap.size+1) _∧Bx J S7 W (w3.heap.size) _∧Bx J S7 W (w7.heap.size) _∧Row S7 W n w.heap.size r l∧Mem C J I n S7 q7 W∧SB w.heap.size S w S7 W) ⟨(h.out.alloc _),(j.out.alloc _),(K.out.alloc _),(Bx.new aa.out _),(z.out.alloc _),(aa.out.alloc _),(ac.out.alloc _)⟩ ?_
     clear h j K ac aa
     clear z
     rintro w8 ⟨X0,X1,X2,X3,R0,m8,t8⟩
     have z:=zc R0
     clear R0
     have h:=zc X0
     have j:=zc X1
     have K:=zc X2
     have aV:=zc X3
     have aw:=zc m8
     have ay:=zc t8
     clear m8 t8 X0 X1 X2 X3
     obtain⟨Y,a1,Z,V,U,a5,X,a7,a8,a9,A,D,af⟩:=h.out.box
     obtain⟨d0,d1,d2,d3,d4,d5,d6,d7,d8,d9,bg,bh,df⟩:=aV.out.box
     go_wp2
     go_meet
     case rel=>exact⟨S7,q7,z7,n7,rfl,zoU ab.out hb aX.out,(aw.out.put h.out ..),(ay.out.put (by omega) ..),(h.out.put ..),(j.out.other (by omega) ..),(z.out.put h.out ..)⟩
    |false=>
     cases e3:(n3.toList==[100,101,102,97,117,108,116]) with
     |true=>
      cases ah with
      |false=>
       obtain⟨Y,a1,Z,V,U,a5,X,a7,a8,a9,A,D,af⟩:=h.out.box
       go_wp2_with fail
       refine (zcL C J I n O q3 z3 d _ L.out.tok aj).mono ?_
       rintro e w7 ⟨rfl,E⟩
       replace h:=zc (h.out.below E)
       replace j:=zc (j.out.below E)
       replace K:=zc (K.out.below E)
       have ac:=zc (N.out.below E)
       have aa:=zc (L.out.later E)
       have H:Hid (Row O w7 n w.heap.size r l):=z.out.below E
       clear z
       have z:=zc H
       clear H
       clear E N L
       clear Y a1 Z V U a5 X a7 a8 a9 A D af
       obtain⟨Y,a1,Z,V,U,a5,X,a7,a8,a9,A,D,af⟩:=h.out.box
       unfold pv
       go_wp2
       go_meet
       case rel=>exact⟨O,q3,(zbi C q3.pos z3),n3,rfl,zoV ab.out hb (by rw[e3];rfl),(aa.out.put h.out ..),(ac.out.put (by omega) ..),(h.out.put ..),(j.out.other (by omega) ..),(z.out.put h.out ..)⟩
      |true=>
       obtain⟨Y,a1,Z,V,U,a5,X,a7,a8,a9,A,D,af⟩:=h.out.box
       go_wp2
       go_meet
       case rel=>exact⟨O,q3,z3,n3,rfl,ziY ab.out hb (by rw[e3];rfl),L.out,N.out,h.out,j.out,z.out⟩
     |false=>
      obtain⟨Y,a1,Z,V,U,a5,X,a7,a8,a9,A,D,af⟩:=h.out.box
      go_wp2
      go_meet
      case rel=>exact⟨O,q3,z3,n3,rfl,ziY ab.out hb (by rw[e3];rfl),L.out,N.out,h.out,j.out,z.out⟩
   case rest=>
    obtain⟨M,q5,z5,n5,rfl,i5,m5,t5,X0,X1,R0⟩:=hcut
    clear h j K z L N
    have h:=zc X0
    have j:=zc X1
    have ag:=zc m5
    have ak:=zc t5
    have ao:=zc i5
    have z:=zc R0
    clear X0 X1 i5 m5 t5 R0
    go_upto_region 15 with fail
    go_cut [8] (fun s8 wx=>s8= .bool (za5 l||(n3.toList==[100,101,102,97,117,108,116]))∧wx=wc)
    case first=>
     cases ha:za5 l with
     |true=>
      go_wp2
      go_meet
      case rel=>exact⟨by rw[ha];rfl,rfl⟩
     |false=>
      cases e3:(n3.toList==[100,101,102,97,117,108,116]) with
      |true=>
       go_wp2
       go_meet
       case rel=>exact⟨by rw[ha,e3];rfl,rfl⟩
      |false=>
       go_wp2
       go_meet
       case rel=>exact⟨by rw[ha,e3];rfl,rfl⟩
    case rest=>
     obtain⟨rfl,rfl⟩:=hcut
     have au:=fun o=>z.out.own.alloc o
     have aY:=ag.out.base
     go_wp2_with (at_builtin;refine zcl _ rfl _ _ 24 rfl n 102 i0 _ 4 56 Tryz.underlying24 hi aK aM aG rfl (by decide) (by decide) r l.length _ (by rfl) (au _) wc.heap.size (epL ⟨0,n5,n3,sNone⟩) (by rfl) (by exact heap_alloc_new wc _) rfl (by intro u hu;simp[epL] at hu;rcases hu with rfl|rfl|rfl|rfl<;>rfl) (by omega) (by rw[zj];omega) ?_)
     intro r' w6 hr hg aA
     obtain⟨R6,m6⟩:=(z.out.alloc _).grow (x:=⟨0,n5,n3,sNone⟩) (ag.out.alloc _) (by rw[zj];have:=ak.out.size;omega) hg hr (by rw[zj];exact aA)
     have ae:Hid (Bx J M w6 _ _):=(z.out.alloc _).bx (h.out.alloc _) hg
     have ad:Hid (Bx J M w6 _ _):=(z.out.alloc _).bx (j.out.alloc _) hg
     have N:Hid (SB w.heap.size S w M w6):=(z.out.alloc _).sb (ak.out.alloc _) hg
     have L:=zc m6
     clear h j z hr hg aA au aY ag ak m6
     have h:=zc ae
     have j:=zc ad
     have z:=zc R6
     clear ae ad R6
     cases hc:(decide (z5<0)&&isT C q5.pos 4 zbp) with
     |true=>
      obtain⟨Y,a1,Z,V,U,a5,X,a7,a8,a9,A,D,af⟩:=h.out.box
      go_wp2_with fail
      refine (zg C J I n M q5 z5 d 4 zbp _ L.out.tok aj (by decide)).mono ?_
      rintro e w7 ⟨rfl,E⟩
      rw[hc]
      replace h:=zc (h.out.below E)
      replace j:=zc (j.out.below E)
      have ac:=zc (N.out.below E)
      have aa:=zc (L.out.later E)
      have H:Hid (Row M w7 n w.heap.size r' (l++[⟨0,n5,n3,sNone⟩])):=z.out.below E
      clear z
      have z:=zc H
      clear H
      clear E N L
      clear Y a1 Z V U a5 X a7 a8 a9 A D af
      rw[Bool.and_eq_true,decide_eq_true_eq] at hc
      obtain⟨az,aD⟩:=hc
      have aL:q5.pos<C.ts.length:=zaz aD (by decide)
      obtain⟨E5,P5⟩:=zoS (l:=l) ab.out ao.out az aD
      have HE:=zc E5
      obtain rfl:z5= -1:=(za7 ao.out.fst az).2
      have aS:Hid ((l++[(⟨0,n5,n3,sNone⟩:Ep)]).length≤q5.pos+1∨l++[(⟨0,n5,n3,sNone⟩:Ep)]=[]):=.inl (by simp only[List.length_append,List.length_singleton];exact aQ.out.elim (fun g=>by omega) (fun g=>by rw[g];simp))
      clear E5
      obtain⟨Y,a1,Z,V,U,a5,X,a7,a8,a9,A,D,af⟩:=h.out.box
      go_wp2
      go_roundg (gk-1)
      case rel=>exact⟨.ok (adv q5),M,adv q5,-1,r',l++[⟨0,n5,n3,sNone⟩],zU _,by rw[←av.out];exact HE.out.symm,fun _=>by rw[zw];omega,aS.out,by simp,by rw[ziW],((aa.out.adv aL).set h.out 1 _),(ac.out.set (by omega) 1 _),(h.out.at1 _),(j.out.set_other (by omega) 1 _),(z.out.set h.out 1 _)⟩
      case measure=>omega
     |false=>
      obtain⟨Y,a1,Z,V,U,a5,X,a7,a8,a9,A,D,af⟩:=h.out.box
      go_wp2_with fail
      refine (zg C J I n M q5 z5 d 4 zbp _ L.out.tok aj (by decide)).mono ?_
      rintro e w7 ⟨rfl,E⟩
      rw[hc]
      replace h:=zc (h.out.below E)
      replace j:=zc (j.out.below E)
      have ac:=zc (N.out.below E)
      have aa:=zc (L.out.later E)
      have H:Hid (Row M w7 n w.heap.size r' (l++[⟨0,n5,n3,sNone⟩])):=z.out.below E
      clear z
      have z:=zc H
      clear H
      clear E N L
      clear Y a1 Z V U a5 X a7 a8 a9 A D af
      obtain⟨Y,a1,Z,V,U,a5,X,a7,a8,a9,A,D,af⟩:=h.out.box
      go_wp2_with fail
      refine (zab C J I n _ M q5 z5 d zbd _ ao.out.fst aa.out).mono ?_
      rintro e w8 ⟨S8,q8,z8,rfl,i8,m8,s8⟩
      replace h:=zc (h.out.stp s8)
      replace j:=zc (j.out.stp s8)
      have ay:=zc (ac.out.step s8)
      have H:Hid (Row S8 w8 n w.heap.size r' (l++[⟨0,n5,n3,sNone⟩])):=z.out.stp s8
      clear z
      have z:=zc H
      clear H
      clear ac
      have aw:=zc m8
      have aT:=zc i8
      clear i8 m8 s8 aa
      clear Y a1 Z V U a5 X a7 a8 a9 A D af
      obtain⟨b0,b1,b2,b3,b4,b5,b6,b7,b8,b9,aO,aJ,bf⟩:=j.out.box
      unfold pv
      go_wp2
      refine bodyPost_ret (ziX rfl _ _ (w.heap.size+1) 53 _ (0,0) _ rfl ((j.out.put ..)).heap Tryz.underlying53 rfl (by kernel_rfl)) rfl ?_
      exact⟨S8,q8,z8,r',l++[⟨0,n5,n3,sNone⟩],by simp[pv,ziW],by rw[←av.out,zx,zeO];exact zoR ab.out ao.out hc aT.out,(aw.out.put j.out ..),((ay.out.put (by omega) ..)).done,(z.out.put j.out ..),by simp;omega⟩
  ·skip
   obtain⟨Y,a1,Z,V,U,a5,X,a7,a8,a9,A,D,af⟩:=h.out.box
   go_wp2_with fail
   refine (zab C J I n _ S2 q2 z2 d zbd _ ax.out am.out).mono ?_
   rintro e w3 ⟨O,q3,z3,rfl,i3,m3,s3⟩
   replace h:=zc (h.out.stp s3)
   replace j:=zc (j.out.stp s3)
   have ap:=zc (aq.out.step s3)
   have H:Hid (Row O w3 n w.heap.size r l):=z.out.stp s3
   clear z
   have z:=zc H
   clear H
   clear aq
   have al:=zc m3
   have ab:=zc i3
   clear i3 m3 s3 am
   clear Y a1 Z V U a5 X a7 a8 a9 A D af
   obtain⟨b0,b1,b2,b3,b4,b5,b6,b7,b8,b9,aO,aJ,bf⟩:=j.out.box
   unfold pv
   go_wp2
   refine bodyPost_ret (ziX rfl _ _ (w.heap.size+1) 53 _ (0,0) _ rfl ((j.out.put ..)).heap Tryz.underlying53 rfl (by kernel_rfl)) rfl ?_
   exact⟨O,q3,z3,r,l,rfl,by rw[←av.out];exact zoT ax.out (by omega) ab.out,(al.out.put j.out ..),((ap.out.put (by omega) ..)).done,(z.out.put j.out ..),by omega⟩
def SumOK (C:Cx) (gt cap base m:Nat):Prop:=∀(x:PR) (S:Sv) (q:PS) (z:Int) (d:Nat) (w:World),Is x q z→Mem C gt cap base S q w→(z<0→C.ts.length-q.pos<m)→d≤20→
 Calls Tryz.prog 75 #[pv C gt cap S q z d] w (Out C gt cap base (bd x (pE C .sum d)) d S w)
theorem zf0 {C:Cx} {o:Bool} {q n:PS} {w:Int} {j:ByteArray} (h:Is2 (bd (.ok q) (zh C o)) n w j) (z:zB C q.pos o=true):n=adv q∧w= -1∧j=(ze C q.pos).text:=by
 rw[zx,zh,if_pos z] at h
 exact h
theorem zf1 {C:Cx} {o:Bool} {q w:PS} {j:Int} {n:ByteArray} (h:Is2 (bd (.ok q) (zh C o)) w j n) (z:zB C q.pos o=false):j=(zq C q.pos:Int):=by
 rw[zx,zh,z] at h
 exact h
theorem zja {C:Cx} {n:ByteArray} {y:Except Nat (PS×ByteArray)} {q:PS} {z:Int} {f:ByteArray} (h:Is2 y q z f) (j:(decide (z<0)&&isT C q.pos 4 zm)=true):bd (bd (bd (zaG y) (zd C 4 zm)) (zd C 4 zay)) (zM C ⟨5,0,n,f,0,0⟩)=bd y fun a=>zbz C n a.2 a.1:=by
 rw[Bool.and_eq_true,decide_eq_true_eq] at j
 cases y with
 |ok a=>
  obtain⟨rfl,_,rfl⟩:=h
  show _=zbz C n a.2 a.1
  rw[zbz,if_pos j.2]
  rfl
 |error e=>rfl
theorem zjb {C:Cx} {n:ByteArray} {y:Except Nat (PS×ByteArray)} {q:PS} {z:Int} {f:ByteArray} (h:Is2 y q z f) (j:(decide (z<0)&&isT C q.pos 4 zm)=false):bd (zaG y) (zM C ⟨4,0,n,f,0,0⟩)=bd y fun a=>zbz C n a.2 a.1:=by
 cases y with
 |ok a=>
  obtain⟨rfl,rfl,rfl⟩:=h
  rw[Bool.and_eq_false_iff] at j
  show _=zbz C n a.2 a.1
  rw[zbz,j.resolve_left (by decide)]
  rfl
 |error e=>rfl
theorem zjc {C:Cx} {o:Bool} {x:PR} {q:PS} {z:Int} {n:ByteArray} (h:Is2 (bd x (zh C o)) q z n):z<0→1≤q.pos:=by
 intro A
 cases j:bd x (zh C o) with
 |error e=>rw[j] at h;have:z=(e:Int):=h;omega
 |ok a=>
  rw[j] at h
  obtain⟨rfl,_,_⟩:=h
  obtain⟨b,_,w⟩:=zi j
  obtain⟨rfl,_⟩:=zbe w
  simp[adv]
theorem zoW (C:Cx) (H j h:Nat) (S:Sv) (q:PS) (d:Nat) (w:World) (A:Mem C H j h S q w) (K:((ze C q.pos).kind==2)=true):
  Calls Tryz.prog 168 #[pv C H j S q (-1) d] w (Out C H j h (pE C .part d q) d S w):=by
 have HM:=zc A
 have o:=A.tok
 have V:C.ts.length≤4000:=A.few
 have N:=(zak A.tok).1
 clear A
 have U:q.pos<C.ts.length:=zeI K (by decide)
 have X:Hid (pE C .part d q=bd (.ok (adv q)) (zM C ⟨1,(ze C q.pos).num,sNone,sNone,0,0⟩)):=by show pE C .part d q=_;rw[zbv,if_pos K];rfl
 obtain⟨O,_,Z,_⟩:=o.cells U (d:=⟨0,sNone,0,C.fin⟩)
 change _=some (Value.int .i64 (ze C q.pos).kind) at O
 change _=some (Value.int .i64 (ze C q.pos).num) at Z
 have D:Hid (Mem C H j h S (adv q) w):=HM.out.adv U
 generalize (ze C q.pos).kind=kd at O K
 have HN:Hid (∀n,n=(ze C q.pos).num→pE C .part d q=bd (.ok (adv q)) (zM C ⟨1,n,sNone,sNone,0,0⟩)):=fun n e=>by rw[e];exact X.out
 generalize E:(ze C q.pos).num=nm at Z
 have L:Hid (nm=(ze C q.pos).num):=E.symm
 clear E X o
 unfold pv
 go_enter Tryz.func168,Tryz.ntmps168
 go_wp2_with fail
 refine (zc3 C H j h (.ok (adv q)) S (adv q) (-1) d ⟨1,nm,sNone,sNone,0,0⟩ _ (zU _) ((D.out.alloc _).alloc _) (fun _=>by simp[adv])).mono ?_
 rintro e w1 ⟨S1,q1,z1,rfl,Y,m1,s1⟩
 obtain⟨X0,X1,t1⟩:=D.out.two2 s1
 have z:=zc X1
 have I:=zc m1
 have M:=zc t1
 have J:=zc Y
 clear X0 X1 Y m1 t1 s1
 obtain⟨b0,b1,b2,b3,b4,b5,b6,b7,b8,b9,ab,aa,bf⟩:=z.out.box
 unfold pv
 go_wp2
 refine bodyPost_ret (results_cell_row rfl _ _ (w.heap.size+1) 53 _ (0,0) _ rfl ((z.out.put ..)).heap Tryz.underlying53 rfl (by kernel_rfl)) rfl ?_
 rw[HN.out nm L.out]
 exact zW rfl J.out (I.out.put z.out ..) (M.out.put (by omega) ..)
theorem zoX (C:Cx) (J n h:Nat) (S:Sv) (q:PS) (d:Nat) (w:World) (H:Mem C J n h S q w) (hk:((ze C q.pos).kind==2)=false) (L:isT C q.pos 4 zm=true) (hd:20≤d) (aa:d≤20):
  Calls Tryz.prog 168 #[pv C J n S q (-1) d] w (Out C J n h (pE C .part d q) d S w):=by
 have HM:=zc H
 have A:=H.tok
 have z:C.ts.length≤4000:=H.few
 have V:=(zak H.tok).1
 clear H
 have hp:q.pos<C.ts.length:=zaz L (by decide)
 have HV:Hid (pE C .part d q= .error (zq C q.pos)):=by show pE C .part d q=_;rw[zbv,hk,L];simp[hd]
 have qd:decide ((20:Int)≤(d:Int))=true:=decide_eq_true (by omega)
 obtain⟨X,_,_,_⟩:=A.cells hp (d:=⟨0,sNone,0,C.fin⟩)
 change _=some (Value.int .i64 (ze C q.pos).kind) at X
 generalize (ze C q.pos).kind=kd at X hk
 unfold pv
 go_enter Tryz.func168,Tryz.ntmps168
 go_wp2_with fail
 refine (zg C J n h S q (-1) d 4 zm _ (zo (zo A _) _) z (by decide)).mono ?_
 rintro e w1 ⟨rfl,I⟩
 rw[L]
 obtain⟨Z,Y,m1,t1⟩:=HM.out.two I
 have E:=zc Z
 have j:=zc Y
 have D:=zc m1
 have K:=zc t1
 clear Z Y m1 t1 I
 obtain⟨a0,a1,a2,a3,a4,a5,a6,a7,a8,a9,M,O,af⟩:=E.out.box
 go_wp2_with fail
 refine (zcL C J n h S q (-1) d _ D.out.tok z).mono ?_
 rintro e w2 ⟨rfl,o⟩
 replace E:=zc (E.out.below o)
 replace j:=zc (j.out.below o)
 have N:=zc (K.out.below o)
 have U:=zc (D.out.later o)
 clear o K D
 clear a0 a1 a2 a3 a4 a5 a6 a7 a8 a9 M O af
 obtain⟨b0,b1,b2,b3,b4,b5,b6,b7,b8,b9,ac,ab,bf⟩:=j.out.box
 unfold pv
 go_wp2
 refine bodyPost_ret (results_cell_row rfl _ _ (w.heap.size+1) 53 _ (0,0) _ rfl ((j.out.put ..)).heap Tryz.underlying53 rfl (by kernel_rfl)) rfl ?_
 rw[HV.out]
 exact zW rfl (show Is (.error (zq C q.pos)) q _ from rfl) (U.out.put j.out ..) (N.out.put (by omega) ..)
theorem zoY (C:Cx) (E o n:Nat) (S:Sv) (q:PS) (d:Nat) (w:World) (N:Mem C E o n S q w) (hk:((ze C q.pos).kind==2)=false) (ho:isT C q.pos 4 zm=true) (hd:d<20) (hS:SumOK C E o n (C.ts.length-q.pos)):
  Calls Tryz.prog 168 #[pv C E o S q (-1) d] w (Out C E o n (pE C .part d q) d S w):=by
 have HM:=zc N
 have H:=N.tok
 have L:C.ts.length≤4000:=N.few
 have ae:=(zak N.tok).1
 clear N
 have hp:q.pos<C.ts.length:=zaz ho (by decide)
 have HV:Hid (pE C .part d q=bd (bd (.ok (adv q)) (pE C .sum (d+1))) (zd C 4 zay)):=by show pE C .part d q=_;rw[zbv,hk,ho,if_neg (by decide),if_pos rfl,if_neg (by omega)];rfl
 have HS:=zc hS
 clear hS
 have qd:decide ((20:Int)≤(d:Int))=false:=decide_eq_false (by omega)
 obtain⟨c0,_,_,_⟩:=H.cells hp (d:=⟨0,sNone,0,C.fin⟩)
 change _=some (Value.int .i64 (ze C q.pos).kind) at c0
 generalize (ze C q.pos).kind=kd at c0 hk
 unfold pv
 go_enter Tryz.func168,Tryz.ntmps168
 go_wp2_with fail
 refine (zg C E o n S q (-1) d 4 zm _ (zo (zo H _) _) L (by decide)).mono ?_
 rintro e w1 ⟨rfl,I⟩
 rw[ho]
 obtain⟨V,M,m1,t1⟩:=HM.out.two I
 have h:=zc V
 have j:=zc M
 have X:=zc m1
 have Y:=zc t1
 clear V M m1 t1 I
 obtain⟨a0,a1,a2,a3,Z,a5,a6,a7,a8,a9,z,A,af⟩:=h.out.box
 go_wp2_with fail
 refine (HS.out (.ok (adv q)) S (adv q) (-1) (d+1) _ (zU _) (((X.out.adv hp).set h.out 1 _).set (h.out.at1 _) 11 _) (fun _=>by show C.ts.length-(q.pos+1)<_;omega) (by omega)).mono ?_
 rintro e w2 ⟨S2,q2,z2,rfl,i2,m2,s2⟩
 replace h:=zc (((h.out.at1 _).at11 _).stp s2)
 replace j:=zc (((j.out.set_other (by omega) 1 _).set_other (by omega) 11 _).stp s2)
 have U:Hid (SB w.heap.size S w S2 w2):=((Y.out.set (by omega) 1 _).set (by omega) 11 _).step s2
 clear Y
 have J:=zc m2
 have aa:=zc i2
 clear i2 m2 s2 X
 clear a0 a1 a2 a3 Z a5 a6 a7 a8 a9 z A af
 go_wp2_with fail
 refine (zab C E o n _ S2 q2 z2 (d+1) zay _ aa.out J.out).mono ?_
 rintro e w3 ⟨S3,q3,z3,rfl,i3,m3,s3⟩
 replace h:=zc (h.out.stp s3)
 replace j:=zc (j.out.stp s3)
 have O:=zc (U.out.step s3)
 clear U
 have K:=zc m3
 have ab:=zc i3
 clear i3 m3 s3 J
 obtain⟨a0,a1,a2,a3,Z,a5,a6,a7,a8,a9,z,A,af⟩:=h.out.box
 obtain⟨D,hD⟩: ∃D:Nat,D=d+1:=⟨_,rfl⟩
 rw[←hD]
 have aj:(D:Int)-1=d:=by omega
 have ah:D≤20:=by omega
 clear hD hd qd
 unfold pv
 go_upto_region 11 with fail
 refine zJ (R:=fun W=>Bx E S3 W (w.heap.size) _∧Bx E S3 W (w.heap.size+1) _∧Mem C E o n S3 q3 W∧SB w.heap.size S w S3 W) ⟨(h.out.put ..),(j.out.other (by omega) ..),(K.out.put h.out ..),(O.out.put (by omega) ..)⟩ ?_
 clear a0 a1 a2 a3 Z a5 a6 a7 a8 a9 z A af
 clear h j O K
 rintro w4 ⟨V,M,m4,t4⟩
 have h:=zc V
 have j:=zc M
 have ac:=zc m4
 have ad:=zc t4
 clear m4 t4 V M
 obtain⟨a0,a1,a2,a3,Z,a5,a6,a7,a8,a9,z,A,af⟩:=h.out.box
 obtain⟨b0,b1,b2,b3,b4,b5,b6,b7,b8,b9,ai,ag,bf⟩:=j.out.box
 go_wp2
 refine bodyPost_ret (results_cell_row rfl _ _ (w.heap.size+1) 53 _ (0,0) _ rfl (((j.out.set_other (by omega) 11 _).put ..)).heap Tryz.underlying53 rfl (by kernel_rfl)) rfl ?_
 rw[HV.out]
 exact zW rfl ab.out ((ac.out.set h.out 11 _).put (j.out.set_other (by omega) 11 _) ..) ((ad.out.set (by omega) 11 _).put (by omega) ..)
theorem zoZ (o:List Tk) (h:Nat) (E A n:Nat) (S:Sv) (q:PS) (d:Nat) (w:World) (U:Mem (Cx.mk o h true) E A n S q w) (hp: ¬q.pos<(Cx.mk o h true).ts.length):
  Calls Tryz.prog 168 #[pv (Cx.mk o h true) E A S q (-1) d] w (Out (Cx.mk o h true) E A n (pE (Cx.mk o h true) .part d q) d S w):=by
 have HM:=zc U
 have aa:=U.tok
 have H:(Cx.mk o h true).ts.length≤4000:=U.few
 have ai:=(zak U.tok).1
 clear U
 have hk:((ze (Cx.mk o h true) q.pos).kind==2)=false:=by rw[zdb (by omega)];rfl
 have ho:isT (Cx.mk o h true) q.pos 4 zm=false:=zeo hp (by decide)
 have hu:isT (Cx.mk o h true) q.pos 1 za4=false:=zeo hp (by decide)
 have hn:zB (Cx.mk o h true) q.pos false=false:=zfP hp
 have HV:Hid (pE (Cx.mk o h true) .part d q= .error (zq (Cx.mk o h true) q.pos)):=by show pE (Cx.mk o h true) .part d q=_;rw[zbv,hk,ho,hu,zh,hn];rfl
 have al: ¬q.pos<o.length:=hp
 unfold pv
 go_enter Tryz.func168,Tryz.ntmps168
 go_wp2_with fail
 refine (zg (Cx.mk o h true) E A n S q (-1) d 4 zm _ (zo (zo aa _) _) H (by decide)).mono ?_
 rintro e w1 ⟨rfl,M⟩
 rw[ho]
 obtain⟨Y,O,m1,t1⟩:=HM.out.two M
 have z:=zc Y
 have j:=zc O
 have L:=zc m1
 have ab:=zc t1
 clear Y O m1 t1 M
 obtain⟨a0,a1,a2,a3,a4,a5,a6,a7,a8,a9,I,K,af⟩:=z.out.box
 go_wp2_with fail
 refine (zg (Cx.mk o h true) E A n S q (-1) d 1 za4 _ L.out.tok H (by decide)).mono ?_
 rintro e w2 ⟨rfl,D⟩
 rw[hu]
 replace z:=zc (z.out.below D)
 replace j:=zc (j.out.below D)
 have X:=zc (ab.out.below D)
 have N:=zc (L.out.later D)
 clear D ab L
 clear a0 a1 a2 a3 a4 a5 a6 a7 a8 a9 I K af
 obtain⟨a0,a1,a2,a3,a4,a5,a6,a7,a8,a9,I,K,af⟩:=z.out.box
 go_wp2_with fail
 refine (zaU (Cx.mk o h true) E A n (.ok q) S q (-1) d false _ (zU q) N.out).mono ?_
 rintro e w3 ⟨Z,q3,z3,n3,rfl,i3,m3,s3⟩
 replace z:=zc (z.out.stp s3)
 replace j:=zc (j.out.stp s3)
 have V:=zc (X.out.step s3)
 clear X
 have J:=zc m3
 have ae:=zc i3
 clear i3 m3 s3 N
 clear a0 a1 a2 a3 a4 a5 a6 a7 a8 a9 I K af
 obtain rfl:=zf1 ae.out hn
 have dz:decide ((0:Int)≤(zq (Cx.mk o h true) q.pos:Int))=true:=decide_eq_true (by omega)
 have ah:w.heap.size+1<w3.heap.size:=j.out.lt
 unfold pv
 go_upto_region 17 with fail
 refine zJ (R:=fun W=>Bx E Z W (w.heap.size) _∧Bx E Z W (w.heap.size+1) _∧Bx E Z W (w3.heap.size) _∧Mem (Cx.mk o h true) E A n Z q3 W∧SB w.heap.size S w Z W) ⟨(z.out.alloc _),(j.out.alloc _),(Bx.new J.out _),(J.out.alloc _),(V.out.alloc _)⟩ ?_
 clear z j V J
 rintro w4 ⟨Y,O,X2,m4,t4⟩
 have z:=zc Y
 have j:=zc O
 have ac:=zc X2
 have ag:=zc m4
 have ad:=zc t4
 clear m4 t4 Y O X2
 obtain⟨b0,b1,b2,b3,b4,b5,b6,b7,b8,b9,am,ak,bf⟩:=j.out.box
 obtain⟨c0,c1,c2,c3,c4,c5,c6,c7,c8,c9,an,aj,cf⟩:=ac.out.box
 go_wp2
 refine bodyPost_ret (results_cell_row rfl _ _ (w.heap.size+1) 53 _ (0,0) _ rfl ((j.out.put ..)).heap Tryz.underlying53 rfl (by kernel_rfl)) rfl ?_
 rw[HV.out]
 exact zW rfl (show Is (.error (zq (Cx.mk o h true) q.pos)) q3 _ from rfl) (ag.out.put j.out ..) (ad.out.put (by omega) ..)
theorem zpa (n:List Tk) (h:Nat) (E A o:Nat) (S:Sv) (q:PS) (d:Nat) (w:World) (V:Mem (Cx.mk n h true) E A o S q w) (hk:((ze (Cx.mk n h true) q.pos).kind==2)=false) (ho:isT (Cx.mk n h true) q.pos 4 zm=false) (hp:q.pos<(Cx.mk n h true).ts.length) (hu:isT (Cx.mk n h true) q.pos 1 za4=false) (hn:zB (Cx.mk n h true) q.pos false=false):
  Calls Tryz.prog 168 #[pv (Cx.mk n h true) E A S q (-1) d] w (Out (Cx.mk n h true) E A o (pE (Cx.mk n h true) .part d q) d S w):=by
 have HM:=zc V
 have I:=V.tok
 have H:(Cx.mk n h true).ts.length≤4000:=V.few
 have ah:=(zak V.tok).1
 clear V
 have HV:Hid (pE (Cx.mk n h true) .part d q= .error (zq (Cx.mk n h true) q.pos)):=by show pE (Cx.mk n h true) .part d q=_;rw[zbv,hk,ho,hu,zh,hn];rfl
 have ak:q.pos<n.length:=hp
 obtain⟨c0,_,_,_⟩:=I.cells hp (d:=⟨0,sNone,0,(Cx.mk n h true).fin⟩)
 change _=some (Value.int .i64 (ze (Cx.mk n h true) q.pos).kind) at c0
 generalize (ze (Cx.mk n h true) q.pos).kind=kd at c0 hk
 unfold pv
 go_enter Tryz.func168,Tryz.ntmps168
 go_wp2_with fail
 refine (zg (Cx.mk n h true) E A o S q (-1) d 4 zm _ (zo (zo I _) _) H (by decide)).mono ?_
 rintro e w1 ⟨rfl,N⟩
 rw[ho]
 obtain⟨Z,U,m1,t1⟩:=HM.out.two N
 have z:=zc Z
 have j:=zc U
 have M:=zc m1
 have aa:=zc t1
 clear Z U m1 t1 N
 obtain⟨a0,a1,a2,a3,a4,a5,a6,a7,a8,a9,J,L,af⟩:=z.out.box
 go_wp2_with fail
 refine (zg (Cx.mk n h true) E A o S q (-1) d 1 za4 _ M.out.tok H (by decide)).mono ?_
 rintro e w2 ⟨rfl,D⟩
 rw[hu]
 replace z:=zc (z.out.below D)
 replace j:=zc (j.out.below D)
 have Y:=zc (aa.out.below D)
 have O:=zc (M.out.later D)
 clear D aa M
 clear a0 a1 a2 a3 a4 a5 a6 a7 a8 a9 J L af
 obtain⟨a0,a1,a2,a3,a4,a5,a6,a7,a8,a9,J,L,af⟩:=z.out.box
 go_wp2_with fail
 refine (zaU (Cx.mk n h true) E A o (.ok q) S q (-1) d false _ (zU q) O.out).mono ?_
 rintro e w3 ⟨S3,q3,z3,n3,rfl,i3,m3,s3⟩
 replace z:=zc (z.out.stp s3)
 replace j:=zc (j.out.stp s3)
 have X:=zc (Y.out.step s3)
 clear Y
 have K:=zc m3
 have ad:=zc i3
 clear i3 m3 s3 O
 clear a0 a1 a2 a3 a4 a5 a6 a7 a8 a9 J L af
 obtain rfl:=zf1 ad.out hn
 have dz:decide ((0:Int)≤(zq (Cx.mk n h true) q.pos:Int))=true:=decide_eq_true (by omega)
 have ag:w.heap.size+1<w3.heap.size:=j.out.lt
 unfold pv
 go_upto_region 17 with fail
 refine zJ (R:=fun W=>Bx E S3 W (w.heap.size) _∧Bx E S3 W (w.heap.size+1) _∧Bx E S3 W (w3.heap.size) _∧Mem (Cx.mk n h true) E A o S3 q3 W∧SB w.heap.size S w S3 W) ⟨(z.out.alloc _),(j.out.alloc _),(Bx.new K.out _),(K.out.alloc _),(X.out.alloc _)⟩ ?_
 clear z j X K
 rintro w4 ⟨Z,U,X2,m4,t4⟩
 have z:=zc Z
 have j:=zc U
 have ab:=zc X2
 have ae:=zc m4
 have ac:=zc t4
 clear m4 t4 Z U X2
 obtain⟨b0,b1,b2,b3,b4,b5,b6,b7,b8,b9,al,aj,bf⟩:=j.out.box
 obtain⟨c0,c1,c2,c3,c4,c5,c6,c7,c8,c9,am,ai,cf⟩:=ab.out.box
 go_wp2
 refine bodyPost_ret (results_cell_row rfl _ _ (w.heap.size+1) 53 _ (0,0) _ rfl ((j.out.put ..)).heap Tryz.underlying53 rfl (by kernel_rfl)) rfl ?_
 rw[HV.out]
 exact zW rfl (show Is (.error (zq (Cx.mk n h true) q.pos)) q3 _ from rfl) (ae.out.put j.out ..) (ac.out.put (by omega) ..)
theorem zjd (H:List Tk) (o:Nat) (E z j:Nat) (S:Sv) (q:PS) (d:Nat) (w:World) (V:Mem (Cx.mk H o true) E z j S q w) (A:Nat):
  Calls Tryz.prog 168 #[pv (Cx.mk H o true) E z S q (A:Int) d] w (Out (Cx.mk H o true) E z j (.error A) d S w):=by
 have HM:=zc V
 have aa:=V.tok
 have I:(Cx.mk H o true).ts.length≤4000:=V.few
 have ai:=(zak V.tok).1
 clear V
 have hz: ¬(A:Int)<0:=by omega
 have hs: ∀k s,(decide ((A:Int)<0)&&isT (Cx.mk H o true) q.pos k s)=false:=fun k s=>by rw[decide_eq_false hz];rfl
 unfold pv
 go_enter Tryz.func168,Tryz.ntmps168
 go_wp2_with fail
 refine (zg (Cx.mk H o true) E z j S q (A:Int) d 4 zm _ (zo (zo aa _) _) I (by decide)).mono ?_
 rintro e w1 ⟨rfl,N⟩
 rw[hs]
 obtain⟨Z,U,m1,t1⟩:=HM.out.two N
 have n:=zc Z
 have h:=zc U
 have M:=zc m1
 have ab:=zc t1
 clear Z U m1 t1 N
 obtain⟨a0,a1,a2,a3,a4,a5,a6,a7,a8,a9,J,L,af⟩:=n.out.box
 go_wp2_with fail
 refine (zg (Cx.mk H o true) E z j S q (A:Int) d 1 za4 _ M.out.tok I (by decide)).mono ?_
 rintro e w2 ⟨rfl,D⟩
 rw[hs]
 replace n:=zc (n.out.below D)
 replace h:=zc (h.out.below D)
 have Y:=zc (ab.out.below D)
 have O:=zc (M.out.later D)
 clear D ab M
 clear a0 a1 a2 a3 a4 a5 a6 a7 a8 a9 J L af
 obtain⟨a0,a1,a2,a3,a4,a5,a6,a7,a8,a9,J,L,af⟩:=n.out.box
 go_wp2_with fail
 refine (zaU (Cx.mk H o true) E z j (.error A) S q (A:Int) d false _ (show Is (.error A) q _ from rfl) O.out).mono ?_
 rintro e w3 ⟨S3,q3,z3,n3,rfl,i3,m3,s3⟩
 replace n:=zc (n.out.stp s3)
 replace h:=zc (h.out.stp s3)
 have X:=zc (Y.out.step s3)
 clear Y
 have K:=zc m3
 have ae:=zc i3
 clear i3 m3 s3 O
 clear a0 a1 a2 a3 a4 a5 a6 a7 a8 a9 J L af
 obtain rfl:z3=(A:Int):=ae.out
 have dz:decide ((0:Int)≤(A:Int))=true:=decide_eq_true (by omega)
 have ah:w.heap.size+1<w3.heap.size:=h.out.lt
 unfold pv
 go_upto_region 17 with fail
 refine zJ (R:=fun W=>Bx E S3 W (w.heap.size) _∧Bx E S3 W (w.heap.size+1) _∧Bx E S3 W (w3.heap.size) _∧Mem (Cx.mk H o true) E z j S3 q3 W∧SB w.heap.size S w S3 W) ⟨(n.out.alloc _),(h.out.alloc _),(Bx.new K.out _),(K.out.alloc _),(X.out.alloc _)⟩ ?_
 clear n h X K
 rintro w4 ⟨Z,U,X2,m4,t4⟩
 have n:=zc Z
 have h:=zc U
 have ac:=zc X2
 have ag:=zc m4
 have ad:=zc t4
 clear m4 t4 Z U X2
 obtain⟨b0,b1,b2,b3,b4,b5,b6,b7,b8,b9,al,ak,bf⟩:=h.out.box
 obtain⟨c0,c1,c2,c3,c4,c5,c6,c7,c8,c9,am,aj,cf⟩:=ac.out.box
 go_wp2
 refine bodyPost_ret (results_cell_row rfl _ _ (w.heap.size+1) 53 _ (0,0) _ rfl ((h.out.put ..)).heap Tryz.underlying53 rfl (by kernel_rfl)) rfl ?_
 exact zW rfl (show Is (.error A) q3 _ from rfl) (ag.out.put h.out ..) (ad.out.put (by omega) ..)
theorem zpb (j:List Tk) (h:Nat) (L A n:Nat) (S:Sv) (q:PS) (d:Nat) (w:World) (M:Mem (Cx.mk j h true) L A n S q w) (hk:((ze (Cx.mk j h true) q.pos).kind==2)=false) (ho:isT (Cx.mk j h true) q.pos 4 zm=false) (hp:q.pos<(Cx.mk j h true).ts.length) (hu:isT (Cx.mk j h true) q.pos 1 za4=true):
  Calls Tryz.prog 168 #[pv (Cx.mk j h true) L A S q (-1) d] w (Out (Cx.mk j h true) L A n (pE (Cx.mk j h true) .part d q) d S w):=by
 have HM:=zc M
 have H:=M.tok
 have E:(Cx.mk j h true).ts.length≤4000:=M.few
 have ad:=(zak M.tok).1
 clear M
 have HV:Hid (pE (Cx.mk j h true) .part d q=zbq (Cx.mk j h true) za4 (adv q)):=by show pE (Cx.mk j h true) .part d q=_;rw[zbv,hk,ho,hu];rfl
 have ah:q.pos<j.length:=hp
 obtain⟨c0,_,_,_⟩:=H.cells hp (d:=⟨0,sNone,0,(Cx.mk j h true).fin⟩)
 change _=some (Value.int .i64 (ze (Cx.mk j h true) q.pos).kind) at c0
 generalize (ze (Cx.mk j h true) q.pos).kind=kd at c0 hk
 unfold pv
 go_enter Tryz.func168,Tryz.ntmps168
 go_wp2_with fail
 refine (zg (Cx.mk j h true) L A n S q (-1) d 4 zm _ (zo (zo H _) _) E (by decide)).mono ?_
 rintro e w1 ⟨rfl,N⟩
 rw[ho]
 obtain⟨X0,X1,m1,t1⟩:=HM.out.two N
 have z:=zc X0
 have o:=zc X1
 have I:=zc m1
 have V:=zc t1
 clear X0 X1 m1 t1 N
 obtain⟨a0,a1,a2,a3,a4,a5,a6,Y,a8,Z,J,K,af⟩:=z.out.box
 go_wp2_with fail
 refine (zg (Cx.mk j h true) L A n S q (-1) d 1 za4 _ I.out.tok E (by decide)).mono ?_
 rintro e w2 ⟨rfl,D⟩
 rw[hu]
 replace z:=zc (z.out.below D)
 replace o:=zc (o.out.below D)
 have O:=zc (V.out.below D)
 have U:=zc (I.out.later D)
 clear D V I
 clear a0 a1 a2 a3 a4 a5 a6 Y a8 Z J K af
 obtain⟨a0,a1,a2,a3,a4,a5,a6,Y,a8,Z,J,K,af⟩:=z.out.box
 go_wp2_with fail
 refine (zgy (Cx.mk j h true) L A n S (adv q) d za4 _ ((U.out.adv hp).set z.out 1 _) (by simp[adv])).mono ?_
 rintro e w3 ⟨S3,q3,z3,rfl,i3,m3,X⟩
 replace z:=zc ((z.out.at1 _).stp X)
 replace o:=zc ((o.out.set_other (by omega) 1 _).stp X)
 have aa:Hid (SB w.heap.size S w S3 w3):=(O.out.set (by omega) 1 _).step X
 clear O
 have ab:=zc m3
 have ac:=zc i3
 clear i3 m3 X U
 clear a0 a1 a2 a3 a4 a5 a6 Y a8 Z J K af
 obtain⟨b0,b1,b2,b3,b4,b5,b6,b7,b8,b9,ag,ae,bf⟩:=o.out.box
 unfold pv
 go_wp2
 refine bodyPost_ret (results_cell_row rfl _ _ (w.heap.size+1) 53 _ (0,0) _ rfl ((o.out.put ..)).heap Tryz.underlying53 rfl (by kernel_rfl)) rfl ?_
 rw[HV.out]
 exact zW rfl ac.out (ab.out.put o.out ..) (aa.out.put (by omega) ..)
theorem zpc (j:List Tk) (h:Nat) (J A n:Nat) (S:Sv) (q:PS) (d:Nat) (w:World) (Y:Mem (Cx.mk j h true) J A n S q w) (hk:((ze (Cx.mk j h true) q.pos).kind==2)=false) (ho:isT (Cx.mk j h true) q.pos 4 zm=false) (hp:q.pos<(Cx.mk j h true).ts.length) (hu:isT (Cx.mk j h true) q.pos 1 za4=false) (hn:zB (Cx.mk j h true) q.pos false=true) (hd:isT (Cx.mk j h true) (q.pos+1) 4 cPoint=false):
  Calls Tryz.prog 168 #[pv (Cx.mk j h true) J A S q (-1) d] w (Out (Cx.mk j h true) J A n (pE (Cx.mk j h true) .part d q) d S w):=by
 have HM:=zc Y
 have K:=Y.tok
 have E:(Cx.mk j h true).ts.length≤4000:=Y.few
 have ap:=(zak Y.tok).1
 clear Y
 have HV:Hid (pE (Cx.mk j h true) .part d q=zbq (Cx.mk j h true) (ze (Cx.mk j h true) q.pos).text (adv q)):=by show pE (Cx.mk j h true) .part d q=_;rw[zbv,hk,ho,hu,zh,hn];show (if isT (Cx.mk j h true) (adv q).pos 4 cPoint then _ else _)=_;rw[zw,hd];rfl
 have ar:q.pos<j.length:=hp
 obtain⟨c0,_,_,_⟩:=K.cells hp (d:=⟨0,sNone,0,(Cx.mk j h true).fin⟩)
 change _=some (Value.int .i64 (ze (Cx.mk j h true) q.pos).kind) at c0
 generalize (ze (Cx.mk j h true) q.pos).kind=kd at c0 hk
 unfold pv
 go_enter Tryz.func168,Tryz.ntmps168
 go_wp2_with fail
 refine (zg (Cx.mk j h true) J A n S q (-1) d 4 zm _ (zo (zo K _) _) E (by decide)).mono ?_
 rintro e w1 ⟨rfl,U⟩
 rw[ho]
 obtain⟨X0,X1,m1,t1⟩:=HM.out.two U
 have z:=zc X0
 have o:=zc X1
 have O:=zc m1
 have ag:=zc t1
 clear X0 X1 m1 t1 U
 obtain⟨a0,a1,a2,a3,a4,a5,a6,a7,a8,a9,L,M,af⟩:=z.out.box
 go_wp2_with fail
 refine (zg (Cx.mk j h true) J A n S q (-1) d 1 za4 _ O.out.tok E (by decide)).mono ?_
 rintro e w2 ⟨rfl,H⟩
 rw[hu]
 replace z:=zc (z.out.below H)
 replace o:=zc (o.out.below H)
 have ac:=zc (ag.out.below H)
 have X:=zc (O.out.later H)
 clear H ag O
 clear a0 a1 a2 a3 a4 a5 a6 a7 a8 a9 L M af
 obtain⟨a0,a1,a2,a3,a4,a5,a6,a7,a8,a9,L,M,af⟩:=z.out.box
 go_wp2_with fail
 refine (zaU (Cx.mk j h true) J A n (.ok q) S q (-1) d false _ (zU q) X.out).mono ?_
 rintro e w3 ⟨S3,q3,z3,n3,rfl,i3,m3,s3⟩
 replace z:=zc (z.out.stp s3)
 replace o:=zc (o.out.stp s3)
 have aa:=zc (ac.out.step s3)
 clear ac
 have I:=zc m3
 have ad:=zc i3
 clear i3 m3 s3 X
 clear a0 a1 a2 a3 a4 a5 a6 a7 a8 a9 L M af
 obtain⟨hq,rfl,V⟩:=zf0 ad.out hn
 have HQ:=zc hq
 have am:=zc V
 have Z:q3.pos=q.pos+1:=by rw[hq];rfl
 have ai:isT (Cx.mk j h true) q3.pos 4 cPoint=false:=by rw[Z];exact hd
 clear hq V ad
 have ao:w.heap.size+1<w3.heap.size:=o.out.lt
 unfold pv
 clear Z
 go_wp2_with fail
 refine (zg (Cx.mk j h true) J A n S3 q3 (-1) d 4 cPoint _ (I.out.alloc _).tok E (by decide)).mono ?_
 rintro e w4 ⟨rfl,D⟩
 rw[ai]
 replace z:=zc ((z.out.alloc _).below D)
 replace o:=zc ((o.out.alloc _).below D)
 replace N:=zc ((Bx.new I.out _).below D)
 have ab:Hid (SB w.heap.size S w S3 w4):=(aa.out.alloc _).below D
 have ae:Hid (Mem (Cx.mk j h true) J A n S3 q3 w4):=(I.out.alloc _).later D
 clear D aa I
 obtain⟨c0,c1,c2,c3,c4,c5,c6,c7,c8,c9,an,ah,cf⟩:=N.out.box
 go_wp2_with fail
 refine (zgy (Cx.mk j h true) J A n S3 q3 d n3 _ ae.out (by rw[HQ.out];simp[adv])).mono ?_
 rintro e w5 ⟨S5,q5,z5,rfl,i5,m5,s5⟩
 replace z:=zc (z.out.stp s5)
 replace o:=zc (o.out.stp s5)
 replace N:=zc (N.out.stp s5)
 have ak:=zc (ab.out.step s5)
 clear ab
 have al:=zc m5
 have aj:=zc i5
 clear i5 m5 s5 ae
 clear c0 c1 c2 c3 c4 c5 c6 c7 c8 c9 an ah cf
 obtain⟨b0,b1,b2,b3,b4,b5,b6,b7,b8,b9,au,aq,bf⟩:=o.out.box
 unfold pv
 go_wp2
 refine bodyPost_ret (results_cell_row rfl _ _ (w.heap.size+1) 53 _ (0,0) _ rfl ((o.out.put ..)).heap Tryz.underlying53 rfl (by kernel_rfl)) rfl ?_
 rw[HV.out,←HQ.out,←am.out]
 exact zW rfl aj.out (al.out.put o.out ..) (ak.out.put (by omega) ..)
theorem zpd (z:List Tk) (h:Nat) (K D n:Nat) (S:Sv) (q:PS) (d:Nat) (w:World) (hm:Mem (Cx.mk z h true) K D n S q w) (hk:((ze (Cx.mk z h true) q.pos).kind==2)=false) (ho:isT (Cx.mk z h true) q.pos 4 zm=false) (hp:q.pos<(Cx.mk z h true).ts.length) (hu:isT (Cx.mk z h true) q.pos 1 za4=false) (hn:zB (Cx.mk z h true) q.pos false=true) (hd:isT (Cx.mk z h true) (q.pos+1) 4 cPoint=true):
  Calls Tryz.prog 168 #[pv (Cx.mk z h true) K D S q (-1) d] w (Out (Cx.mk z h true) K D n (pE (Cx.mk z h true) .part d q) d S w):=by
 have HM:=zc hm
 have ad:=hm.tok
 have I:(Cx.mk z h true).ts.length≤4000:=hm.few
 have aL:=(zak hm.tok).1
 clear hm
 have HV:Hid (pE (Cx.mk z h true) .part d q=bd (bd (.ok (adv (adv q))) (zh (Cx.mk z h true) true)) fun y=>zbz (Cx.mk z h true) (ze (Cx.mk z h true) q.pos).text y.2 y.1):=by show pE (Cx.mk z h true) .part d q=_;rw[zbv,hk,ho,hu,zh,hn];show (if isT (Cx.mk z h true) (adv q).pos 4 cPoint then _ else _)=_;rw[zw,hd];rfl
 have aN:q.pos<z.length:=hp
 obtain⟨c0,_,_,_⟩:=ad.cells hp (d:=⟨0,sNone,0,(Cx.mk z h true).fin⟩)
 change _=some (Value.int .i64 (ze (Cx.mk z h true) q.pos).kind) at c0
 generalize (ze (Cx.mk z h true) q.pos).kind=kd at c0 hk
 unfold pv
 go_enter Tryz.func168,Tryz.ntmps168
 go_wp2_with fail
 refine (zg (Cx.mk z h true) K D n S q (-1) d 4 zm _ (zo (zo ad _) _) I (by decide)).mono ?_
 rintro e w1 ⟨rfl,aj⟩
 rw[ho]
 obtain⟨X0,X1,m1,t1⟩:=HM.out.two aj
 have o:=zc X0
 have j:=zc X1
 have ah:=zc m1
 have az:=zc t1
 clear X0 X1 m1 t1 aj
 obtain⟨a0,a1,a2,a3,a4,a5,a6,a7,a8,a9,ae,ag,af⟩:=o.out.box
 go_wp2_with fail
 refine (zg (Cx.mk z h true) K D n S q (-1) d 1 za4 _ ah.out.tok I (by decide)).mono ?_
 rintro e w2 ⟨rfl,Y⟩
 rw[hu]
 replace o:=zc (o.out.below Y)
 replace j:=zc (j.out.below Y)
 have aq:=zc (az.out.below Y)
 have am:=zc (ah.out.later Y)
 clear Y az ah
 clear a0 a1 a2 a3 a4 a5 a6 a7 a8 a9 ae ag af
 obtain⟨a0,a1,a2,a3,a4,a5,a6,a7,a8,a9,ae,ag,af⟩:=o.out.box
 go_wp2_with fail
 refine (zaU (Cx.mk z h true) K D n (.ok q) S q (-1) d false _ (zU q) am.out).mono ?_
 rintro e w3 ⟨S3,q3,z3,n3,rfl,i3,m3,s3⟩
 replace o:=zc (o.out.stp s3)
 replace j:=zc (j.out.stp s3)
 have ap:=zc (aq.out.step s3)
 clear aq
 have Z:=zc m3
 have av:=zc i3
 clear i3 m3 s3 am
 clear a0 a1 a2 a3 a4 a5 a6 a7 a8 a9 ae ag af
 obtain⟨hq,rfl,al⟩:=zf0 av.out hn
 have HQ:=zc hq
 have au:=zc al
 have ao:q3.pos=q.pos+1:=by rw[hq];rfl
 have ak:isT (Cx.mk z h true) q3.pos 4 cPoint=true:=by rw[ao];exact hd
 clear hq al av
 have aJ:w.heap.size+1<w3.heap.size:=j.out.lt
 unfold pv
 clear ao
 go_wp2_with fail
 refine (zg (Cx.mk z h true) K D n S3 q3 (-1) d 4 cPoint _ (Z.out.alloc _).tok I (by decide)).mono ?_
 rintro e w4 ⟨rfl,L⟩
 rw[ak]
 replace o:=zc ((o.out.alloc _).below L)
 replace j:=zc ((j.out.alloc _).below L)
 replace A:=zc ((Bx.new Z.out _).below L)
 have aA:Hid (SB w.heap.size S w S3 w4):=(ap.out.alloc _).below L
 have ay:Hid (Mem (Cx.mk z h true) K D n S3 q3 w4):=(Z.out.alloc _).later L
 clear L ap Z
 obtain⟨c0,c1,c2,c3,c4,c5,c6,c7,c8,c9,aH,aC,cf⟩:=A.out.box
 have an:q3.pos<(Cx.mk z h true).ts.length:=zaz ak (by decide)
 have aK:q3.pos<z.length:=an
 go_wp2_with fail
 refine (zaU (Cx.mk z h true) K D n (.ok (adv q3)) S3 (adv q3) (-1) d true _ (zU _) ((ay.out.adv an).set A.out 1 _)).mono ?_
 rintro e w5 ⟨S5,q5,z5,n5,rfl,i5,m5,s5⟩
 replace o:=zc ((o.out.set_other (by omega) 1 _).stp s5)
 replace j:=zc ((j.out.set_other (by omega) 1 _).stp s5)
 replace A:=zc ((A.out.at1 _).stp s5)
 have aa:Hid (SB w.heap.size S w S5 w5):=(aA.out.set (by omega) 1 _).step s5
 clear aA
 have J:=zc m5
 have O:=zc i5
 clear i5 m5 s5 ay
 clear c0 c1 c2 c3 c4 c5 c6 c7 c8 c9 aH aC cf
 have aM:w.heap.size+1<w5.heap.size:=j.out.lt
 have aB:w3.heap.size<w5.heap.size:=A.out.lt
 cases hc:(decide (z5<0)&&isT (Cx.mk z h true) q5.pos 4 zm) with
 |true=>
  unfold pv
  go_wp2_with fail
  refine (zg (Cx.mk z h true) K D n S5 q5 z5 d 4 zm _ (J.out.alloc _).tok I (by decide)).mono ?_
  rintro e w6 ⟨rfl,E⟩
  rw[hc]
  replace o:=zc ((o.out.alloc _).below E)
  replace j:=zc ((j.out.alloc _).below E)
  replace A:=zc ((A.out.alloc _).below E)
  replace H:=zc ((Bx.new J.out _).below E)
  have U:Hid (SB w.heap.size S w S5 w6):=(aa.out.alloc _).below E
  have X:Hid (Mem (Cx.mk z h true) K D n S5 q5 w6):=(J.out.alloc _).later E
  clear E aa J
  obtain⟨d0,d1,d2,d3,d4,d5,d6,d7,d8,d9,N,V,df⟩:=H.out.box
  go_wp2_with fail
  refine (zab (Cx.mk z h true) K D n _ S5 q5 z5 d zm _ O.out.fst X.out).mono ?_
  rintro e w7 ⟨S7,q7,z7,rfl,i7,m7,M⟩
  replace o:=zc (o.out.stp M)
  replace j:=zc (j.out.stp M)
  replace A:=zc (A.out.stp M)
  replace H:=zc (H.out.stp M)
  have ac:=zc (U.out.step M)
  clear U
  have ab:=zc m7
  have ai:=zc i7
  clear i7 m7 M X
  clear d0 d1 d2 d3 d4 d5 d6 d7 d8 d9 N V df
  go_wp2_with fail
  refine (zab (Cx.mk z h true) K D n _ S7 q7 z7 d zay _ ai.out ab.out).mono ?_
  rintro e w8 ⟨S8,q8,z8,rfl,i8,m8,s8⟩
  replace o:=zc (o.out.stp s8)
  replace j:=zc (j.out.stp s8)
  replace A:=zc (A.out.stp s8)
  replace H:=zc (H.out.stp s8)
  have aw:=zc (ac.out.step s8)
  clear ac
  have ar:=zc m8
  have ax:=zc i8
  clear i8 m8 s8 ab
  obtain⟨d0,d1,d2,d3,d4,d5,d6,d7,d8,d9,N,V,df⟩:=H.out.box
  unfold pv
  go_wp2_with fail
  refine (zc3 (Cx.mk z h true) K D n _ S8 q8 z8 d ⟨5,0,n3,n5,0,0⟩ _ ax.out (ar.out.put H.out ..) (zaZ ax.out)).mono ?_
  rintro e w9 ⟨S9,q9,z9,rfl,i9,m9,s9⟩
  replace o:=zc ((o.out.other (by omega) ..).stp s9)
  replace j:=zc ((j.out.other (by omega) ..).stp s9)
  replace A:=zc ((A.out.other (by omega) ..).stp s9)
  replace H:=zc ((H.out.put ..).stp s9)
  have aI:Hid (SB w.heap.size S w S9 w9):=(aw.out.put (by omega) ..).step s9
  clear aw
  have aD:=zc m9
  have aG:=zc i9
  clear i9 m9 s9 ar
  clear d0 d1 d2 d3 d4 d5 d6 d7 d8 d9 N V df
  obtain⟨b0,b1,b2,b3,b4,b5,b6,b7,b8,b9,aF,aE,bf⟩:=j.out.box
  unfold pv
  go_wp2
  refine bodyPost_ret (results_cell_row rfl _ _ (w.heap.size+1) 53 _ (0,0) _ rfl ((j.out.put ..)).heap Tryz.underlying53 rfl (by kernel_rfl)) rfl ?_
  rw[HV.out,←HQ.out,←au.out,←zja O.out hc]
  exact zW rfl aG.out (aD.out.put j.out ..) (aI.out.put (by omega) ..)
 |false=>
  unfold pv
  go_wp2_with fail
  refine (zg (Cx.mk z h true) K D n S5 q5 z5 d 4 zm _ (J.out.alloc _).tok I (by decide)).mono ?_
  rintro e w6 ⟨rfl,E⟩
  rw[hc]
  replace o:=zc ((o.out.alloc _).below E)
  replace j:=zc ((j.out.alloc _).below E)
  replace A:=zc ((A.out.alloc _).below E)
  replace H:=zc ((Bx.new J.out _).below E)
  have U:Hid (SB w.heap.size S w S5 w6):=(aa.out.alloc _).below E
  have X:Hid (Mem (Cx.mk z h true) K D n S5 q5 w6):=(J.out.alloc _).later E
  clear E aa J
  obtain⟨d0,d1,d2,d3,d4,d5,d6,d7,d8,d9,N,V,df⟩:=H.out.box
  go_wp2_with fail
  refine (zc3 (Cx.mk z h true) K D n _ S5 q5 z5 d ⟨4,0,n3,n5,0,0⟩ _ O.out.fst X.out (zjc O.out)).mono ?_
  rintro e w7 ⟨S7,q7,z7,rfl,i7,m7,M⟩
  replace o:=zc (o.out.stp M)
  replace j:=zc (j.out.stp M)
  replace A:=zc (A.out.stp M)
  replace H:=zc (H.out.stp M)
  have ac:=zc (U.out.step M)
  clear U
  have ab:=zc m7
  have ai:=zc i7
  clear i7 m7 M X
  clear d0 d1 d2 d3 d4 d5 d6 d7 d8 d9 N V df
  obtain⟨b0,b1,b2,b3,b4,b5,b6,b7,b8,b9,aF,aE,bf⟩:=j.out.box
  unfold pv
  go_wp2
  refine bodyPost_ret (results_cell_row rfl _ _ (w.heap.size+1) 53 _ (0,0) _ rfl ((j.out.put ..)).heap Tryz.underlying53 rfl (by kernel_rfl)) rfl ?_
  rw[HV.out,←HQ.out,←au.out,←zjb O.out hc]
  exact zW rfl ai.out (ab.out.put j.out ..) (ac.out.put (by omega) ..)
theorem zpe (n:List Tk) (h:Nat) (D A o:Nat) (S:Sv) (q:PS) (d:Nat) (w:World) (K:Mem (Cx.mk n h false) D A o S q w) (X: ¬q.pos<(Cx.mk n h false).ts.length):
  Calls Tryz.prog 168 #[pv (Cx.mk n h false) D A S q (-1) d] w (Out (Cx.mk n h false) D A o (pE (Cx.mk n h false) .part d q) d S w):=by
 have HM:=zc K
 have U:=K.tok
 have I:(Cx.mk n h false).ts.length≤4000:=K.few
 have ah:=(zak K.tok).1
 clear K
 have hk:((ze (Cx.mk n h false) q.pos).kind==2)=false:=by rw[zdb (by omega)];rfl
 have ho:isT (Cx.mk n h false) q.pos 4 zm=false:=zeo X (by decide)
 have hu:isT (Cx.mk n h false) q.pos 1 za4=false:=zeo X (by decide)
 have hn:zB (Cx.mk n h false) q.pos false=false:=zfP X
 have HV:Hid (pE (Cx.mk n h false) .part d q= .error (zq (Cx.mk n h false) q.pos)):=by show pE (Cx.mk n h false) .part d q=_;rw[zbv,hk,ho,zh,hn];rfl
 have ak: ¬q.pos<n.length:=X
 unfold pv
 go_enter Tryz.func168,Tryz.ntmps168
 go_wp2_with fail
 refine (zg (Cx.mk n h false) D A o S q (-1) d 4 zm _ (zo (zo U _) _) I (by decide)).mono ?_
 rintro e w1 ⟨rfl,H⟩
 rw[ho]
 obtain⟨N,J,m1,t1⟩:=HM.out.two H
 have z:=zc N
 have j:=zc J
 have O:=zc m1
 have V:=zc t1
 clear N J m1 t1 H
 obtain⟨a0,a1,a2,a3,a4,a5,a6,a7,a8,a9,Z,ab,af⟩:=z.out.box
 go_wp2_with fail
 refine (zaU (Cx.mk n h false) D A o (.ok q) S q (-1) d false _ (zU q) O.out).mono ?_
 rintro e w2 ⟨L,q2,z2,n2,rfl,i2,m2,Y⟩
 replace z:=zc (z.out.stp Y)
 replace j:=zc (j.out.stp Y)
 have M:=zc (V.out.step Y)
 clear V
 have E:=zc m2
 have ae:=zc i2
 clear i2 m2 Y O
 clear a0 a1 a2 a3 a4 a5 a6 a7 a8 a9 Z ab af
 obtain rfl:=zf1 ae.out hn
 have dz:decide ((0:Int)≤(zq (Cx.mk n h false) q.pos:Int))=true:=decide_eq_true (by omega)
 have ag:w.heap.size+1<w2.heap.size:=j.out.lt
 unfold pv
 go_upto_region 17 with fail
 refine zJ (R:=fun W=>Bx D L W (w.heap.size) _∧Bx D L W (w.heap.size+1) _∧Bx D L W (w2.heap.size) _∧Mem (Cx.mk n h false) D A o L q2 W∧SB w.heap.size S w L W) ⟨(z.out.alloc _),(j.out.alloc _),(Bx.new E.out _),(E.out.alloc _),(M.out.alloc _)⟩ ?_
 clear z j M E
 rintro w3 ⟨N,J,X2,m3,t3⟩
 have z:=zc N
 have j:=zc J
 have ac:=zc X2
 have aa:=zc m3
 have ad:=zc t3
 clear m3 t3 N J X2
 obtain⟨b0,b1,b2,b3,b4,b5,b6,b7,b8,b9,al,aj,bf⟩:=j.out.box
 obtain⟨c0,c1,c2,c3,c4,c5,c6,c7,c8,c9,am,ai,cf⟩:=ac.out.box
 go_wp2
 refine bodyPost_ret (results_cell_row rfl _ _ (w.heap.size+1) 53 _ (0,0) _ rfl ((j.out.put ..)).heap Tryz.underlying53 rfl (by kernel_rfl)) rfl ?_
 rw[HV.out]
 exact zW rfl (show Is (.error (zq (Cx.mk n h false) q.pos)) q2 _ from rfl) (aa.out.put j.out ..) (ad.out.put (by omega) ..)
theorem zpf (j:List Tk) (h:Nat) (D A o:Nat) (S:Sv) (q:PS) (d:Nat) (w:World) (L:Mem (Cx.mk j h false) D A o S q w) (hk:((ze (Cx.mk j h false) q.pos).kind==2)=false) (ho:isT (Cx.mk j h false) q.pos 4 zm=false) (hp:q.pos<(Cx.mk j h false).ts.length) (hn:zB (Cx.mk j h false) q.pos false=false):
  Calls Tryz.prog 168 #[pv (Cx.mk j h false) D A S q (-1) d] w (Out (Cx.mk j h false) D A o (pE (Cx.mk j h false) .part d q) d S w):=by
 have HM:=zc L
 have E:=L.tok
 have J:(Cx.mk j h false).ts.length≤4000:=L.few
 have ah:=(zak L.tok).1
 clear L
 have HV:Hid (pE (Cx.mk j h false) .part d q= .error (zq (Cx.mk j h false) q.pos)):=by show pE (Cx.mk j h false) .part d q=_;rw[zbv,hk,ho,zh,hn];rfl
 have ak:q.pos<j.length:=hp
 obtain⟨Y,_,_,_⟩:=E.cells hp (d:=⟨0,sNone,0,(Cx.mk j h false).fin⟩)
 change _=some (Value.int .i64 (ze (Cx.mk j h false) q.pos).kind) at Y
 generalize (ze (Cx.mk j h false) q.pos).kind=kd at Y hk
 unfold pv
 go_enter Tryz.func168,Tryz.ntmps168
 go_wp2_with fail
 refine (zg (Cx.mk j h false) D A o S q (-1) d 4 zm _ (zo (zo E _) _) J (by decide)).mono ?_
 rintro e w1 ⟨rfl,I⟩
 rw[ho]
 obtain⟨O,K,m1,t1⟩:=HM.out.two I
 have z:=zc O
 have n:=zc K
 have U:=zc m1
 have V:=zc t1
 clear O K m1 t1 I
 obtain⟨a0,a1,a2,a3,a4,a5,a6,a7,a8,a9,Z,ab,af⟩:=z.out.box
 go_wp2_with fail
 refine (zaU (Cx.mk j h false) D A o (.ok q) S q (-1) d false _ (zU q) U.out).mono ?_
 rintro e w2 ⟨M,q2,z2,n2,rfl,i2,m2,X⟩
 replace z:=zc (z.out.stp X)
 replace n:=zc (n.out.stp X)
 have N:=zc (V.out.step X)
 clear V
 have H:=zc m2
 have ae:=zc i2
 clear i2 m2 X U
 clear a0 a1 a2 a3 a4 a5 a6 a7 a8 a9 Z ab af
 obtain rfl:=zf1 ae.out hn
 have dz:decide ((0:Int)≤(zq (Cx.mk j h false) q.pos:Int))=true:=decide_eq_true (by omega)
 have ag:w.heap.size+1<w2.heap.size:=n.out.lt
 unfold pv
 go_upto_region 17 with fail
 refine zJ (R:=fun W=>Bx D M W (w.heap.size) _∧Bx D M W (w.heap.size+1) _∧Bx D M W (w2.heap.size) _∧Mem (Cx.mk j h false) D A o M q2 W∧SB w.heap.size S w M W) ⟨(z.out.alloc _),(n.out.alloc _),(Bx.new H.out _),(H.out.alloc _),(N.out.alloc _)⟩ ?_
 clear z n N H
 rintro w3 ⟨O,K,X2,m3,t3⟩
 have z:=zc O
 have n:=zc K
 have ac:=zc X2
 have aa:=zc m3
 have ad:=zc t3
 clear m3 t3 O K X2
 obtain⟨b0,b1,b2,b3,b4,b5,b6,b7,b8,b9,al,aj,bf⟩:=n.out.box
 obtain⟨Y,c1,c2,c3,c4,c5,c6,c7,c8,c9,am,ai,cf⟩:=ac.out.box
 go_wp2
 refine bodyPost_ret (results_cell_row rfl _ _ (w.heap.size+1) 53 _ (0,0) _ rfl ((n.out.put ..)).heap Tryz.underlying53 rfl (by kernel_rfl)) rfl ?_
 rw[HV.out]
 exact zW rfl (show Is (.error (zq (Cx.mk j h false) q.pos)) q2 _ from rfl) (aa.out.put n.out ..) (ad.out.put (by omega) ..)
theorem zje (E:List Tk) (j:Nat) (D z n:Nat) (S:Sv) (q:PS) (d:Nat) (w:World) (L:Mem (Cx.mk E j false) D z n S q w) (A:Nat):
  Calls Tryz.prog 168 #[pv (Cx.mk E j false) D z S q (A:Int) d] w (Out (Cx.mk E j false) D z n (.error A) d S w):=by
 have HM:=zc L
 have V:=L.tok
 have J:(Cx.mk E j false).ts.length≤4000:=L.few
 have ah:=(zak L.tok).1
 clear L
 have hz: ¬(A:Int)<0:=by omega
 have hs: ∀k s,(decide ((A:Int)<0)&&isT (Cx.mk E j false) q.pos k s)=false:=fun k s=>by rw[decide_eq_false hz];rfl
 unfold pv
 go_enter Tryz.func168,Tryz.ntmps168
 go_wp2_with fail
 refine (zg (Cx.mk E j false) D z n S q (A:Int) d 4 zm _ (zo (zo V _) _) J (by decide)).mono ?_
 rintro e w1 ⟨rfl,I⟩
 rw[hs]
 obtain⟨O,K,m1,t1⟩:=HM.out.two I
 have o:=zc O
 have h:=zc K
 have U:=zc m1
 have X:=zc t1
 clear O K m1 t1 I
 obtain⟨a0,a1,a2,a3,a4,a5,a6,a7,a8,a9,Z,ab,af⟩:=o.out.box
 go_wp2_with fail
 refine (zaU (Cx.mk E j false) D z n (.error A) S q (A:Int) d false _ (show Is (.error A) q _ from rfl) U.out).mono ?_
 rintro e w2 ⟨M,q2,z2,n2,rfl,i2,m2,Y⟩
 replace o:=zc (o.out.stp Y)
 replace h:=zc (h.out.stp Y)
 have N:=zc (X.out.step Y)
 clear X
 have H:=zc m2
 have ae:=zc i2
 clear i2 m2 Y U
 clear a0 a1 a2 a3 a4 a5 a6 a7 a8 a9 Z ab af
 obtain rfl:z2=(A:Int):=ae.out
 have dz:decide ((0:Int)≤(A:Int))=true:=decide_eq_true (by omega)
 have ag:w.heap.size+1<w2.heap.size:=h.out.lt
 unfold pv
 go_upto_region 17 with fail
 refine zJ (R:=fun W=>Bx D M W (w.heap.size) _∧Bx D M W (w.heap.size+1) _∧Bx D M W (w2.heap.size) _∧Mem (Cx.mk E j false) D z n M q2 W∧SB w.heap.size S w M W) ⟨(o.out.alloc _),(h.out.alloc _),(Bx.new H.out _),(H.out.alloc _),(N.out.alloc _)⟩ ?_
 clear o h N H
 rintro w3 ⟨O,K,X2,m3,t3⟩
 have o:=zc O
 have h:=zc K
 have ac:=zc X2
 have aa:=zc m3
 have ad:=zc t3
 clear m3 t3 O K X2
 obtain⟨b0,b1,b2,b3,b4,b5,b6,b7,b8,b9,ak,aj,bf⟩:=h.out.box
 obtain⟨c0,c1,c2,c3,c4,c5,c6,c7,c8,c9,al,ai,cf⟩:=ac.out.box
 go_wp2
 refine bodyPost_ret (results_cell_row rfl _ _ (w.heap.size+1) 53 _ (0,0) _ rfl ((h.out.put ..)).heap Tryz.underlying53 rfl (by kernel_rfl)) rfl ?_
 exact zW rfl (show Is (.error A) q2 _ from rfl) (aa.out.put h.out ..) (ad.out.put (by omega) ..)
theorem zpg (j:List Tk) (h:Nat) (I z n:Nat) (S:Sv) (q:PS) (d:Nat) (w:World) (U:Mem (Cx.mk j h false) I z n S q w) (hk:((ze (Cx.mk j h false) q.pos).kind==2)=false) (ho:isT (Cx.mk j h false) q.pos 4 zm=false) (hp:q.pos<(Cx.mk j h false).ts.length) (hn:zB (Cx.mk j h false) q.pos false=true) (hd:isT (Cx.mk j h false) (q.pos+1) 4 cPoint=false):
  Calls Tryz.prog 168 #[pv (Cx.mk j h false) I z S q (-1) d] w (Out (Cx.mk j h false) I z n (pE (Cx.mk j h false) .part d q) d S w):=by
 have HM:=zc U
 have J:=U.tok
 have H:(Cx.mk j h false).ts.length≤4000:=U.few
 have ao:=(zak U.tok).1
 clear U
 have HV:Hid (pE (Cx.mk j h false) .part d q=zbq (Cx.mk j h false) (ze (Cx.mk j h false) q.pos).text (adv q)):=by show pE (Cx.mk j h false) .part d q=_;rw[zbv,hk,ho,zh,hn];show (if isT (Cx.mk j h false) (adv q).pos 4 cPoint then _ else _)=_;rw[zw,hd];rfl
 have aq:q.pos<j.length:=hp
 obtain⟨c0,_,_,_⟩:=J.cells hp (d:=⟨0,sNone,0,(Cx.mk j h false).fin⟩)
 change _=some (Value.int .i64 (ze (Cx.mk j h false) q.pos).kind) at c0
 generalize (ze (Cx.mk j h false) q.pos).kind=kd at c0 hk
 unfold pv
 go_enter Tryz.func168,Tryz.ntmps168
 go_wp2_with fail
 refine (zg (Cx.mk j h false) I z n S q (-1) d 4 zm _ (zo (zo J _) _) H (by decide)).mono ?_
 rintro e w1 ⟨rfl,L⟩
 rw[ho]
 obtain⟨X0,X1,m1,t1⟩:=HM.out.two L
 have A:=zc X0
 have o:=zc X1
 have ab:=zc m1
 have ac:=zc t1
 clear X0 X1 m1 t1 L
 obtain⟨a0,a1,a2,a3,a4,a5,a6,a7,a8,a9,ae,ai,af⟩:=A.out.box
 go_wp2_with fail
 refine (zaU (Cx.mk j h false) I z n (.ok q) S q (-1) d false _ (zU q) ab.out).mono ?_
 rintro e w2 ⟨S2,Y,z2,n2,rfl,i2,m2,s2⟩
 replace A:=zc (A.out.stp s2)
 replace o:=zc (o.out.stp s2)
 have Z:=zc (ac.out.step s2)
 clear ac
 have E:=zc m2
 have aa:=zc i2
 clear i2 m2 s2 ab
 clear a0 a1 a2 a3 a4 a5 a6 a7 a8 a9 ae ai af
 obtain⟨hq,rfl,M⟩:=zf0 aa.out hn
 have HQ:=zc hq
 have ak:=zc M
 have V:Y.pos=q.pos+1:=by rw[hq];rfl
 have ag:isT (Cx.mk j h false) Y.pos 4 cPoint=false:=by rw[V];exact hd
 clear hq M aa
 have an:w.heap.size+1<w2.heap.size:=o.out.lt
 unfold pv
 clear V
 go_wp2_with fail
 refine (zg (Cx.mk j h false) I z n S2 Y (-1) d 4 cPoint _ (E.out.alloc _).tok H (by decide)).mono ?_
 rintro e w3 ⟨rfl,D⟩
 rw[ag]
 replace A:=zc ((A.out.alloc _).below D)
 replace o:=zc ((o.out.alloc _).below D)
 replace K:=zc ((Bx.new E.out _).below D)
 have X:Hid (SB w.heap.size S w S2 w3):=(Z.out.alloc _).below D
 have N:Hid (Mem (Cx.mk j h false) I z n S2 Y w3):=(E.out.alloc _).later D
 clear D Z E
 obtain⟨c0,c1,c2,c3,c4,c5,c6,c7,c8,c9,al,ad,cf⟩:=K.out.box
 go_wp2_with fail
 refine (zgy (Cx.mk j h false) I z n S2 Y d n2 _ N.out (by rw[HQ.out];simp[adv])).mono ?_
 rintro e w4 ⟨S4,q4,z4,rfl,i4,m4,O⟩
 replace A:=zc (A.out.stp O)
 replace o:=zc (o.out.stp O)
 replace K:=zc (K.out.stp O)
 have aj:=zc (X.out.step O)
 clear X
 have am:=zc m4
 have ah:=zc i4
 clear i4 m4 O N
 clear c0 c1 c2 c3 c4 c5 c6 c7 c8 c9 al ad cf
 obtain⟨b0,b1,b2,b3,b4,b5,b6,b7,b8,b9,ar,ap,bf⟩:=o.out.box
 unfold pv
 go_wp2
 refine bodyPost_ret (results_cell_row rfl _ _ (w.heap.size+1) 53 _ (0,0) _ rfl ((o.out.put ..)).heap Tryz.underlying53 rfl (by kernel_rfl)) rfl ?_
 rw[HV.out,←HQ.out,←ak.out]
 exact zW rfl ah.out (am.out.put o.out ..) (aj.out.put (by omega) ..)
theorem zph (z:List Tk) (h:Nat) (J D n:Nat) (S:Sv) (q:PS) (d:Nat) (w:World) (hm:Mem (Cx.mk z h false) J D n S q w) (hk:((ze (Cx.mk z h false) q.pos).kind==2)=false) (ho:isT (Cx.mk z h false) q.pos 4 zm=false) (hp:q.pos<(Cx.mk z h false).ts.length) (hn:zB (Cx.mk z h false) q.pos false=true) (hd:isT (Cx.mk z h false) (q.pos+1) 4 cPoint=true):
  Calls Tryz.prog 168 #[pv (Cx.mk z h false) J D S q (-1) d] w (Out (Cx.mk z h false) J D n (pE (Cx.mk z h false) .part d q) d S w):=by
 have HM:=zc hm
 have ad:=hm.tok
 have K:(Cx.mk z h false).ts.length≤4000:=hm.few
 have aJ:=(zak hm.tok).1
 clear hm
 have HV:Hid (pE (Cx.mk z h false) .part d q=bd (bd (.ok (adv (adv q))) (zh (Cx.mk z h false) true)) fun y=>zbz (Cx.mk z h false) (ze (Cx.mk z h false) q.pos).text y.2 y.1):=by show pE (Cx.mk z h false) .part d q=_;rw[zbv,hk,ho,zh,hn];show (if isT (Cx.mk z h false) (adv q).pos 4 cPoint then _ else _)=_;rw[zw,hd];rfl
 have aL:q.pos<z.length:=hp
 obtain⟨c0,_,_,_⟩:=ad.cells hp (d:=⟨0,sNone,0,(Cx.mk z h false).fin⟩)
 change _=some (Value.int .i64 (ze (Cx.mk z h false) q.pos).kind) at c0
 generalize (ze (Cx.mk z h false) q.pos).kind=kd at c0 hk
 unfold pv
 go_enter Tryz.func168,Tryz.ntmps168
 go_wp2_with fail
 refine (zg (Cx.mk z h false) J D n S q (-1) d 4 zm _ (zo (zo ad _) _) K (by decide)).mono ?_
 rintro e w1 ⟨rfl,ag⟩
 rw[ho]
 obtain⟨X0,X1,m1,t1⟩:=HM.out.two ag
 have o:=zc X0
 have j:=zc X1
 have ar:=zc m1
 have aw:=zc t1
 clear X0 X1 m1 t1 ag
 obtain⟨a0,a1,a2,a3,a4,a5,a6,a7,a8,a9,az,aB,af⟩:=o.out.box
 go_wp2_with fail
 refine (zaU (Cx.mk z h false) J D n (.ok q) S q (-1) d false _ (zU q) ar.out).mono ?_
 rintro e w2 ⟨S2,q2,z2,n2,rfl,i2,m2,s2⟩
 replace o:=zc (o.out.stp s2)
 replace j:=zc (j.out.stp s2)
 have an:=zc (aw.out.step s2)
 clear aw
 have Y:=zc m2
 have ao:=zc i2
 clear i2 m2 s2 ar
 clear a0 a1 a2 a3 a4 a5 a6 a7 a8 a9 az aB af
 obtain⟨hq,rfl,ai⟩:=zf0 ao.out hn
 have HQ:=zc hq
 have ap:=zc ai
 have al:q2.pos=q.pos+1:=by rw[hq];rfl
 have ah:isT (Cx.mk z h false) q2.pos 4 cPoint=true:=by rw[al];exact hd
 clear hq ai ao
 have aH:w.heap.size+1<w2.heap.size:=j.out.lt
 unfold pv
 clear al
 go_wp2_with fail
 refine (zg (Cx.mk z h false) J D n S2 q2 (-1) d 4 cPoint _ (Y.out.alloc _).tok K (by decide)).mono ?_
 rintro e w3 ⟨rfl,L⟩
 rw[ah]
 replace o:=zc ((o.out.alloc _).below L)
 replace j:=zc ((j.out.alloc _).below L)
 replace A:=zc ((Bx.new Y.out _).below L)
 have am:Hid (SB w.heap.size S w S2 w3):=(an.out.alloc _).below L
 have aj:Hid (Mem (Cx.mk z h false) J D n S2 q2 w3):=(Y.out.alloc _).later L
 clear L an Y
 obtain⟨c0,c1,c2,c3,c4,c5,c6,c7,c8,c9,aG,ay,cf⟩:=A.out.box
 have ak:q2.pos<(Cx.mk z h false).ts.length:=zaz ah (by decide)
 have aI:q2.pos<z.length:=ak
 go_wp2_with fail
 refine (zaU (Cx.mk z h false) J D n (.ok (adv q2)) S2 (adv q2) (-1) d true _ (zU _) ((aj.out.adv ak).set A.out 1 _)).mono ?_
 rintro e w4 ⟨Z,q4,z4,n4,rfl,i4,m4,s4⟩
 replace o:=zc ((o.out.set_other (by omega) 1 _).stp s4)
 replace j:=zc ((j.out.set_other (by omega) 1 _).stp s4)
 replace A:=zc ((A.out.at1 _).stp s4)
 have ac:Hid (SB w.heap.size S w Z w4):=(am.out.set (by omega) 1 _).step s4
 clear am
 have I:=zc m4
 have O:=zc i4
 clear i4 m4 s4 aj
 clear c0 c1 c2 c3 c4 c5 c6 c7 c8 c9 aG ay cf
 have aK:w.heap.size+1<w4.heap.size:=j.out.lt
 have ax:w2.heap.size<w4.heap.size:=A.out.lt
 cases hc:(decide (z4<0)&&isT (Cx.mk z h false) q4.pos 4 zm) with
 |true=>
  unfold pv
  go_wp2_with fail
  refine (zg (Cx.mk z h false) J D n Z q4 z4 d 4 zm _ (I.out.alloc _).tok K (by decide)).mono ?_
  rintro e w5 ⟨rfl,E⟩
  rw[hc]
  replace o:=zc ((o.out.alloc _).below E)
  replace j:=zc ((j.out.alloc _).below E)
  replace A:=zc ((A.out.alloc _).below E)
  replace H:=zc ((Bx.new I.out _).below E)
  have U:Hid (SB w.heap.size S w Z w5):=(ac.out.alloc _).below E
  have X:Hid (Mem (Cx.mk z h false) J D n Z q4 w5):=(I.out.alloc _).later E
  clear E ac I
  obtain⟨d0,d1,d2,d3,d4,d5,d6,d7,d8,d9,N,V,df⟩:=H.out.box
  go_wp2_with fail
  refine (zab (Cx.mk z h false) J D n _ Z q4 z4 d zm _ O.out.fst X.out).mono ?_
  rintro e w6 ⟨S6,q6,z6,rfl,i6,m6,M⟩
  replace o:=zc (o.out.stp M)
  replace j:=zc (j.out.stp M)
  replace A:=zc (A.out.stp M)
  replace H:=zc (H.out.stp M)
  have aa:=zc (U.out.step M)
  clear U
  have ab:=zc m6
  have ae:=zc i6
  clear i6 m6 M X
  clear d0 d1 d2 d3 d4 d5 d6 d7 d8 d9 N V df
  go_wp2_with fail
  refine (zab (Cx.mk z h false) J D n _ S6 q6 z6 d zay _ ae.out ab.out).mono ?_
  rintro e w7 ⟨S7,q7,z7,rfl,i7,m7,s7⟩
  replace o:=zc (o.out.stp s7)
  replace j:=zc (j.out.stp s7)
  replace A:=zc (A.out.stp s7)
  replace H:=zc (H.out.stp s7)
  have au:=zc (aa.out.step s7)
  clear aa
  have aq:=zc m7
  have av:=zc i7
  clear i7 m7 s7 ab
  obtain⟨d0,d1,d2,d3,d4,d5,d6,d7,d8,d9,N,V,df⟩:=H.out.box
  unfold pv
  go_wp2_with fail
  refine (zc3 (Cx.mk z h false) J D n _ S7 q7 z7 d ⟨5,0,n2,n4,0,0⟩ _ av.out (aq.out.put H.out ..) (zaZ av.out)).mono ?_
  rintro e w8 ⟨S8,q8,z8,rfl,i8,m8,s8⟩
  replace o:=zc ((o.out.other (by omega) ..).stp s8)
  replace j:=zc ((j.out.other (by omega) ..).stp s8)
  replace A:=zc ((A.out.other (by omega) ..).stp s8)
  replace H:=zc ((H.out.put ..).stp s8)
  have aE:Hid (SB w.heap.size S w S8 w8):=(au.out.put (by omega) ..).step s8
  clear au
  have aD:=zc m8
  have aF:=zc i8
  clear i8 m8 s8 aq
  clear d0 d1 d2 d3 d4 d5 d6 d7 d8 d9 N V df
  obtain⟨b0,b1,b2,b3,b4,b5,b6,b7,b8,b9,aC,aA,bf⟩:=j.out.box
  unfold pv
  go_wp2
  refine bodyPost_ret (results_cell_row rfl _ _ (w.heap.size+1) 53 _ (0,0) _ rfl ((j.out.put ..)).heap Tryz.underlying53 rfl (by kernel_rfl)) rfl ?_
  rw[HV.out,←HQ.out,←ap.out,←zja O.out hc]
  exact zW rfl aF.out (aD.out.put j.out ..) (aE.out.put (by omega) ..)
 |false=>
  unfold pv
  go_wp2_with fail
  refine (zg (Cx.mk z h false) J D n Z q4 z4 d 4 zm _ (I.out.alloc _).tok K (by decide)).mono ?_
  rintro e w5 ⟨rfl,E⟩
  rw[hc]
  replace o:=zc ((o.out.alloc _).below E)
  replace j:=zc ((j.out.alloc _).below E)
  replace A:=zc ((A.out.alloc _).below E)
  replace H:=zc ((Bx.new I.out _).below E)
  have U:Hid (SB w.heap.size S w Z w5):=(ac.out.alloc _).below E
  have X:Hid (Mem (Cx.mk z h false) J D n Z q4 w5):=(I.out.alloc _).later E
  clear E ac I
  obtain⟨d0,d1,d2,d3,d4,d5,d6,d7,d8,d9,N,V,df⟩:=H.out.box
  go_wp2_with fail
  refine (zc3 (Cx.mk z h false) J D n _ Z q4 z4 d ⟨4,0,n2,n4,0,0⟩ _ O.out.fst X.out (zjc O.out)).mono ?_
  rintro e w6 ⟨S6,q6,z6,rfl,i6,m6,M⟩
  replace o:=zc (o.out.stp M)
  replace j:=zc (j.out.stp M)
  replace A:=zc (A.out.stp M)
  replace H:=zc (H.out.stp M)
  have aa:=zc (U.out.step M)
  clear U
  have ab:=zc m6
  have ae:=zc i6
  clear i6 m6 M X
  clear d0 d1 d2 d3 d4 d5 d6 d7 d8 d9 N V df
  obtain⟨b0,b1,b2,b3,b4,b5,b6,b7,b8,b9,aC,aA,bf⟩:=j.out.box
  unfold pv
  go_wp2
  refine bodyPost_ret (results_cell_row rfl _ _ (w.heap.size+1) 53 _ (0,0) _ rfl ((j.out.put ..)).heap Tryz.underlying53 rfl (by kernel_rfl)) rfl ?_
  rw[HV.out,←HQ.out,←ap.out,←zjb O.out hc]
  exact zW rfl ae.out (ab.out.put j.out ..) (aa.out.put (by omega) ..)
def zgz (C:Cx) (gt cap base m:Nat):Prop:=∀(x:PR) (S:Sv) (q:PS) (z:Int) (d:Nat) (w:World),Is x q z→Mem C gt cap base S q w→(z<0→C.ts.length-q.pos<m)→d≤20→
 Calls Tryz.prog 168 #[pv C gt cap S q z d] w (Out C gt cap base (bd x (pE C .part d)) d S w)
def zjf (C:Cx) (gt cap base m:Nat):Prop:=∀(x:PR) (S:Sv) (q:PS) (z:Int) (d:Nat) (w:World),Is x q z→Mem C gt cap base S q w→(z<0→C.ts.length-q.pos<m)→d≤20→
 Calls Tryz.prog 136 #[pv C gt cap S q z d] w (Out C gt cap base (bd x (pE C .prod d)) d S w)
theorem SumOK.mono {C:Cx} {o n j m k:Nat} (h:SumOK C o n j m) (E:k≤m):SumOK C o n j k:=fun x S q z d w H A I D=>h x S q z d w H A (fun g=>Nat.lt_of_lt_of_le (I g) E) D
theorem zpi {C:Cx} {A j h m:Nat} (Y:SumOK C A j h m):zgz C A j h (m+1):=by
 intro x S q z d w V D X J
 by_cases O:z<0
 ·obtain⟨rfl,rfl⟩:=za7 V O
  rw[zx]
  have N:SumOK C A j h (C.ts.length-q.pos):=Y.mono (by have:=X O;omega)
  cases H:((ze C q.pos).kind==2) with
  |true=>exact zoW C A j h S q d w D H
  |false=>
   cases I:isT C q.pos 4 zm with
   |true=>
    by_cases U:20≤d
    ·exact zoX C A j h S q d w D H I U J
    ·exact zoY C A j h S q d w D H I (by omega) N
   |false=>
    obtain⟨o,n,L⟩:=C
    cases L with
    |true=>
     by_cases E:q.pos<o.length
     ·cases M:isT (Cx.mk o n true) q.pos 1 za4 with
      |true=>exact zpb o n A j h S q d w D H I E M
      |false=>
       cases K:zB (Cx.mk o n true) q.pos false with
       |false=>exact zpa o n A j h S q d w D H I E M K
       |true=>
        cases J:isT (Cx.mk o n true) (q.pos+1) 4 cPoint with
        |false=>exact zpc o n A j h S q d w D H I E M K J
        |true=>exact zpd o n A j h S q d w D H I E M K J
     ·exact zoZ o n A j h S q d w D E
    |false=>
     by_cases E:q.pos<o.length
     ·cases K:zB (Cx.mk o n false) q.pos false with
      |false=>exact zpf o n A j h S q d w D H I E K
      |true=>
       cases J:isT (Cx.mk o n false) (q.pos+1) 4 cPoint with
       |false=>exact zpg o n A j h S q d w D H I E K J
       |true=>exact zph o n A j h S q d w D H I E K J
     ·exact zpe o n A j h S q d w D E
 ·obtain⟨e,rfl,rfl⟩:=zcN V O
  rw[zd7]
  obtain⟨o,n,L⟩:=C
  cases L with
  |true=>exact zjd o n A j h S q d w D e
  |false=>exact zje o n A j h S q d w D e
theorem zg0 {C:Cx} {x:PR} {q:PS} {z:Int} (h:Is x q z) (F:PS→Ex):bd x (zM C (F q))=bd x fun q'=>zM C (F q') q':=by
 cases x with
 |ok a=>obtain⟨rfl,_⟩:=h;rfl
 |error e=>rfl
theorem zjg {C:Cx} {y:PS→Ex} {x:PR} {q:PS} {n:Nat} (w: ∀a,x= .ok a→n≤a.pos) (h:(bd x fun q'=>zM C (y q') q')= .ok q):n≤q.pos:=by
 obtain⟨a,j,o⟩:=zi h
 obtain⟨rfl,_⟩:=zb1 o
 exact w a j
theorem zpj {C:Cx} {d m:Nat} {x:PR} {q j:PS} {z h:Int} (n:Is x q z) (w:Is (bd x (pE C .part d)) j h) (o:z<0→C.ts.length-q.pos<m) (D:h<0):C.ts.length-j.pos<m:=by
 obtain⟨e,_⟩:=za7 w D
 obtain⟨a,E,A⟩:=zi e
 subst E
 obtain⟨rfl,rfl⟩:=n
 have:=zaP A
 have:=o (by decide)
 omega
theorem zpk {C:Cx} {d m:Nat} {x:PR} {q j:PS} {z h:Int} (n:Is x q z) (w:Is (bd x (pE C .prod d)) j h) (o:z<0→C.ts.length-q.pos<m) (D:h<0):C.ts.length-j.pos<m:=by
 obtain⟨e,_⟩:=za7 w D
 obtain⟨a,E,A⟩:=zi e
 subst E
 obtain⟨rfl,rfl⟩:=n
 have:=zaP A
 have:=o (by decide)
 omega
theorem zpl {C:Cx} {d:Nat} {j q:PS} {z:Int} (h:Is (bd (.ok (adv j)) (pE C .part d)) q z) (n:z<0):1≤q.pos:=by
 obtain⟨e,_⟩:=za7 h n
 have:=zaP (show pE C .part d (adv j)= .ok q from e)
 rw[zw] at this
 omega
theorem zjh {C:Cx} {d:Nat} {j q:PS} {z:Int} (h:Is (bd (.ok (adv j)) (pE C .prod d)) q z) (n:z<0):1≤q.pos:=by
 obtain⟨e,_⟩:=za7 h n
 have:=zaP (show pE C .prod d (adv j)= .ok q from e)
 rw[zw] at this
 omega
theorem zpm {C:Cx} {d:Nat} {F:PS→Ex} {j q:PS} {z:Int} (h:Is (bd (bd (.ok (adv j)) (pE C .part d)) fun q'=>zM C (F q') q') q z) (o:z<0):j.pos+1≤q.pos:=by
 obtain⟨e,_⟩:=za7 h o
 exact zjg (fun a n=>by have:=zaP (show pE C .part d (adv j)= .ok a from n);rw[zw] at this;exact this) e
theorem zji {C:Cx} {d:Nat} {F:PS→Ex} {j q:PS} {z:Int} (h:Is (bd (bd (.ok (adv j)) (pE C .prod d)) fun q'=>zM C (F q') q') q z) (o:z<0):j.pos+1≤q.pos:=by
 obtain⟨e,_⟩:=za7 h o
 exact zjg (fun a n=>by have:=zaP (show pE C .prod d (adv j)= .ok a from n);rw[zw] at this;exact this) e
theorem zpn {C:Cx} {d:Nat} {q:PS} (h:isT C q.pos 4 zv=true) (_:q.pos<C.ts.length):
  bd (.ok q) (pE C .prodT d)=bd (bd (bd (.ok (adv q)) (pE C .part d)) fun q'=>zM C ⟨8,0,sNone,sNone,(q.ex.length:Int)-1,(q'.ex.length:Int)-1⟩ q') (pE C .prodT d):=by
 show pE C .prodT d q=_
 rw[zeJ,if_pos h]
 rfl
theorem zjj {C:Cx} {d:Nat} {q:PS} {k:Int} (h:(isT C q.pos 4 zbN||isT C q.pos 4 zaT)=true) (j:zcH C q.pos=k) (_:q.pos<C.ts.length):
  bd (.ok q) (pE C .sumT d)=bd (bd (bd (.ok (adv q)) (pE C .prod d)) fun q'=>zM C ⟨k,0,sNone,sNone,(q.ex.length:Int)-1,(q'.ex.length:Int)-1⟩ q') (pE C .sumT d):=by
 show pE C .sumT d q=_
 rw[zeg,if_pos h,j]
 rfl
theorem zpo {C:Cx} {d:Nat} {x:PR} {q:PS} {z:Int} (j:Is x q z) (h:(decide (z<0)&&isT C q.pos 4 zv)=false):Is (bd x (pE C .prodT d)) q z:=by
 cases x with
 |ok a=>
  obtain⟨rfl,rfl⟩:=j
  rw[Bool.and_eq_false_iff] at h
  rw[zx,zeJ,h.resolve_left (by decide)]
  exact⟨rfl,rfl⟩
 |error e=>exact j
theorem zpp {C:Cx} {d:Nat} {x:PR} {q:PS} {z:Int} (n:Is x q z) (j:(decide (z<0)&&isT C q.pos 4 zbN)=false) (h:(decide (z<0)&&isT C q.pos 4 zaT)=false):Is (bd x (pE C .sumT d)) q z:=by
 cases x with
 |ok a=>
  obtain⟨rfl,rfl⟩:=n
  rw[Bool.and_eq_false_iff] at j h
  rw[zx,zeg,j.resolve_left (by decide),h.resolve_left (by decide)]
  exact⟨rfl,rfl⟩
 |error e=>exact n
theorem zpq {C:Cx} {i:Nat} (h:isT C i 4 zbN=true):isT C i 4 zaT=false:=by
 simp only[isT,Bool.and_eq_true,beq_iff_eq] at h
 simp only[isT,h.2]
 rw[Bool.and_eq_false_iff]
 exact .inr (by simp)
theorem zjk {C:Cx} {X H E m:Nat} (hP:zgz C X H E m):zjf C X H E m:=by
 intro x S q z d w hx hm hl ag
 have HP:=zc hP
 have HM:=zc hm
 have HX:=zc hx
 have HL:=zc hl
 have ad:=hm.few
 clear hP hm hx hl
 unfold pv
 go_enter Tryz.func136,Tryz.ntmps136
 go_wp2_with fail
 refine (HP.out x S q z d _ HX.out ((HM.out.alloc _).alloc _) HL.out ag).mono ?_
 rintro e w1 ⟨S1,q1,z1,rfl,i1,m1,s1⟩
 obtain⟨X0,X1,t1⟩:=HM.out.two2 s1
 have j:=zc X0
 have n:=zc X1
 have au:=zc m1
 have ax:=zc t1
 have al:=zc i1
 clear X0 X1 i1 m1 t1 s1
 obtain⟨O,a1,V,M,L,Y,N,Z,a8,a9,o,A,af⟩:=j.out.box
 unfold pv
 go_wp2
 go_loopg [] (C.ts.length+1) (fun k wr=>∃(x':PR) (I:Sv) (J:PS) (z':Int),Is x' J z'∧bd x' (pE C .prodT d)=bd x (pE C .prod d)∧(z'<0→C.ts.length-J.pos<k)∧(z'<0→C.ts.length-J.pos<m)∧Mem C X H E I J wr∧SB w.heap.size S w I wr∧Bx X I wr w.heap.size #[.slice (some ⟨X,0,none⟩) C.ts.length H,.int .i64 J.pos,.int .i64 C.fin,.bool C.scr,.slice I.rq.a J.rq.length I.rq.cap,.slice I.im.a J.im.length I.im.cap,.slice I.ep.a J.ep.length I.ep.cap,.slice I.st.a J.st.length I.st.cap,.slice I.ex.a J.ex.length I.ex.cap,.slice I.la.a J.la.length I.la.cap,.int .i64 z',.int .i64 d]∧Bx X I wr (w.heap.size+1) #[.slice none 0 0,.int .i64 0,.int .i64 0,.bool false,.slice none 0 0,.slice none 0 0,.slice none 0 0,.slice none 0 0,.slice none 0 0,.slice none 0 0,.int .i64 0,.int .i64 0])
 case atStart=>exact⟨_,S1,q1,z1,al.out,by rw[zK];exact zZ fun a _=>(zgI C d a).symm,fun _=>by omega,fun hz=>zpj HX.out al.out HL.out hz,(au.out.put j.out ..),(ax.out.put (by omega) ..),(j.out.put ..),(n.out.other (by omega) ..)⟩
 case round=>
  obtain⟨x2,S2,U,z2,i2,e2,l2,b2,m2,t2,X0,X1⟩:=hrel
  have j:=zc X0
  have n:=zc X1
  have K:=zc m2
  have ac:=zc t2
  have am:=zc i2
  have ak:=zc e2
  have ap:=zc l2
  have aw:=zc b2
  have aD:=m2.inv.ex
  clear X0 X1 i2 m2 t2 e2 l2 b2
  cases hc:(decide (z2<0)&&isT C U.pos 4 zv) with
  |true=>
   obtain⟨O,a1,V,M,L,Y,N,Z,a8,a9,o,A,af⟩:=j.out.box
   go_wp2_with fail
   refine (zg C X H E S2 U z2 d 4 zv _ K.out.tok ad (by decide)).mono ?_
   rintro e w3 ⟨rfl,D⟩
   rw[hc]
   replace j:=zc (j.out.below D)
   replace n:=zc (n.out.below D)
   have ab:=zc (ac.out.below D)
   have aa:=zc (K.out.later D)
   clear D ac K
   clear O a1 V M L Y N Z a8 a9 o A af
   rw[Bool.and_eq_true,decide_eq_true_eq] at hc
   obtain⟨hz,hs⟩:=hc
   have hp:U.pos<C.ts.length:=zaz hs (by decide)
   obtain⟨rfl,rfl⟩:=za7 am.out hz
   have aA:=ap.out hz
   have aB:=aw.out hz
   skip
   obtain⟨O,a1,V,M,L,Y,N,Z,a8,a9,o,A,af⟩:=j.out.box
   go_wp2_with fail
   refine (HP.out (.ok (adv U)) S2 (adv U) (-1) d _ (zU _) ((aa.out.adv hp).set j.out 1 _) (fun _=>by rw[zw];omega) ag).mono ?_
   rintro e w4 ⟨S4,q4,z4,rfl,i4,m4,s4⟩
   replace j:=zc ((j.out.at1 _).stp s4)
   replace n:=zc ((n.out.set_other (by omega) 1 _).stp s4)
   have ao:Hid (SB w.heap.size S w S4 w4):=(ab.out.set (by omega) 1 _).step s4
   clear ab
   have an:=zc m4
   have ah:=zc i4
   clear i4 m4 s4 aa
   clear O a1 V M L Y N Z a8 a9 o A af
   obtain⟨O,a1,V,M,L,Y,N,Z,a8,a9,o,A,af⟩:=j.out.box
   unfold pv
   go_upto_region 6 with fail
   refine zJ (R:=fun W=>Bx X S4 W (w.heap.size) _∧Bx X S4 W (w.heap.size+1) _∧Mem C X H E S4 q4 W∧SB w.heap.size S w S4 W) ⟨(j.out.put ..),(n.out.other (by omega) ..),(an.out.put j.out ..),(ao.out.put (by omega) ..)⟩ ?_
   clear O a1 V M L Y N Z a8 a9 o A af
   clear j n ao an
   rintro w5 ⟨X0,X1,m5,t5⟩
   have j:=zc X0
   have n:=zc X1
   have ai:=zc m5
   have aj:=zc t5
   clear m5 t5 X0 X1
   obtain⟨O,a1,V,M,L,Y,N,Z,a8,a9,o,A,af⟩:=j.out.box
   have ay:=ai.out.inv.ex
   go_wp2_with fail
   refine (zc3 C X H E _ S4 q4 z4 d ⟨8,0,sNone,sNone,(U.ex.length:Int)-1,(q4.ex.length:Int)-1⟩ _ ah.out ai.out (fun h=>zpl ah.out h)).mono ?_
   rintro e w6 ⟨S6,q6,z6,rfl,i6,m6,s6⟩
   replace j:=zc (j.out.stp s6)
   replace n:=zc (n.out.stp s6)
   have ar:=zc (aj.out.step s6)
   clear aj
   have av:=zc m6
   have aq:=zc i6
   clear i6 m6 s6 ai
   clear O a1 V M L Y N Z a8 a9 o A af
   have HI:Hid (Is (bd (bd (.ok (adv U)) (pE C .part d)) fun J=>zM C ⟨8,0,sNone,sNone,(U.ex.length:Int)-1,(J.ex.length:Int)-1⟩ J) q6 z6):=by rw[←zg0 ah.out (fun J=>⟨8,0,sNone,sNone,(U.ex.length:Int)-1,(J.ex.length:Int)-1⟩)];exact aq.out
   have ae:Hid (z6<0→U.pos+1≤q6.pos):=fun h=>zpm HI.out h
   obtain⟨O,a1,V,M,L,Y,N,Z,a8,a9,o,A,af⟩:=j.out.box
   unfold pv
   go_wp2
   go_roundg (gk-1)
   case rel=>exact⟨_,S6,q6,z6,HI.out,by rw[←ak.out];exact (zpn (d:=d) hs hp).symm,fun h=>by have:=ae.out h;omega,fun h=>by have:=ae.out h;omega,(av.out.put j.out ..),(ar.out.put (by omega) ..),(j.out.put ..),(n.out.other (by omega) ..)⟩
   case measure=>omega
  |false=>
   obtain⟨O,a1,V,M,L,Y,N,Z,a8,a9,o,A,af⟩:=j.out.box
   go_wp2_with fail
   refine (zg C X H E S2 U z2 d 4 zv _ K.out.tok ad (by decide)).mono ?_
   rintro e w3 ⟨rfl,D⟩
   rw[hc]
   replace j:=zc (j.out.below D)
   replace n:=zc (n.out.below D)
   have ab:=zc (ac.out.below D)
   have aa:=zc (K.out.later D)
   clear D ac K
   clear O a1 V M L Y N Z a8 a9 o A af
   obtain⟨O,a1,V,M,L,Y,N,Z,a8,a9,o,A,af⟩:=j.out.box
   obtain⟨b0,b1,b2,b3,b4,b5,b6,b7,b8,b9,aC,az,bf⟩:=n.out.box
   go_wp2
   refine bodyPost_ret (results_cell_row rfl _ _ (w.heap.size+1) 53 _ (0,0) _ rfl ((n.out.put ..)).heap Tryz.underlying53 rfl (by kernel_rfl)) rfl ?_
   exact zW rfl (show Is (bd x (pE C .prod d)) U z2 from by rw[←ak.out];exact zpo am.out hc) (aa.out.put n.out ..) (ab.out.put (by omega) ..)
theorem zjl {C:Cx} {gt I D m:Nat} (hP:zjf C gt I D m):SumOK C gt I D m:=by
 intro x S q z d w hx hm hl aq
 have HP:=zc hP
 have HM:=zc hm
 have HX:=zc hx
 have HL:=zc hl
 have ac:=hm.few
 clear hP hm hx hl
 unfold pv
 go_enter Tryz.func75,Tryz.ntmps75
 go_wp2_with fail
 refine (HP.out x S q z d _ HX.out ((HM.out.alloc _).alloc _) HL.out aq).mono ?_
 rintro e w1 ⟨S1,q1,z1,rfl,i1,m1,s1⟩
 obtain⟨X0,X1,t1⟩:=HM.out.two2 s1
 have j:=zc X0
 have n:=zc X1
 have aJ:=zc m1
 have aL:=zc t1
 have aC:=zc i1
 clear X0 X1 i1 m1 t1 s1
 obtain⟨M,Y,N,K,J,O,L,U,X,V,o,A,Z⟩:=j.out.box
 unfold pv
 go_wp2
 go_loopg [] (C.ts.length+1) (fun k wr=>∃(x':PR) (S':Sv) (q':PS) (z':Int),Is x' q' z'∧bd x' (pE C .sumT d)=bd x (pE C .sum d)∧(z'<0→C.ts.length-q'.pos<k)∧(z'<0→C.ts.length-q'.pos<m)∧Mem C gt I D S' q' wr∧SB w.heap.size S w S' wr∧Bx gt S' wr w.heap.size #[.slice (some ⟨gt,0,none⟩) C.ts.length I,.int .i64 q'.pos,.int .i64 C.fin,.bool C.scr,.slice S'.rq.a q'.rq.length S'.rq.cap,.slice S'.im.a q'.im.length S'.im.cap,.slice S'.ep.a q'.ep.length S'.ep.cap,.slice S'.st.a q'.st.length S'.st.cap,.slice S'.ex.a q'.ex.length S'.ex.cap,.slice S'.la.a q'.la.length S'.la.cap,.int .i64 z',.int .i64 d]∧Bx gt S' wr (w.heap.size+1) #[.slice none 0 0,.int .i64 0,.int .i64 0,.bool false,.slice none 0 0,.slice none 0 0,.slice none 0 0,.slice none 0 0,.slice none 0 0,.slice none 0 0,.int .i64 0,.int .i64 0])
 case atStart=>exact⟨_,S1,q1,z1,aC.out,by rw[zK];exact zZ fun a _=>(zgH C d a).symm,fun _=>by omega,fun hz=>zpk HX.out aC.out HL.out hz,(aJ.out.put j.out ..),(aL.out.put (by omega) ..),(j.out.put ..),(n.out.other (by omega) ..)⟩
 case round=>
  obtain⟨x2,S2,H,z2,i2,e2,l2,b2,m2,t2,X0,X1⟩:=hrel
  have j:=zc X0
  have n:=zc X1
  have aj:=zc m2
  have ar:=zc t2
  have ay:=zc i2
  have ax:=zc e2
  have aA:=zc l2
  have aD:=zc b2
  have aO:=m2.inv.ex
  clear X0 X1 i2 m2 t2 e2 l2 b2
  cases hc:(decide (z2<0)&&isT C H.pos 4 zbN) with
  |true=>
   obtain⟨M,Y,N,K,J,O,L,U,X,V,o,A,Z⟩:=j.out.box
   go_wp2_with fail
   refine (zg C gt I D S2 H z2 d 4 zbN _ aj.out.tok ac (by decide)).mono ?_
   rintro e w3 ⟨rfl,aa⟩
   rw[hc]
   replace j:=zc (j.out.below aa)
   replace n:=zc (n.out.below aa)
   have ah:=zc (ar.out.below aa)
   have ab:=zc (aj.out.later aa)
   clear aa ar aj
   clear M Y N K J O L U X V o A Z
   rw[Bool.and_eq_true,decide_eq_true_eq] at hc
   obtain⟨hz,hs⟩:=hc
   have aB:isT C H.pos 4 zaT=false:=zpq hs
   have ad:(decide (z2<0)&&isT C H.pos 4 zaT)=false:=by rw[aB,Bool.and_false]
   obtain⟨M,Y,N,K,J,O,L,U,X,V,o,A,Z⟩:=j.out.box
   go_wp2_with fail
   refine (zg C gt I D S2 H z2 d 4 zaT _ ab.out.tok ac (by decide)).mono ?_
   rintro e w4 ⟨rfl,E⟩
   rw[ad]
   replace j:=zc (j.out.below E)
   replace n:=zc (n.out.below E)
   have ai:=zc (ah.out.below E)
   have ag:=zc (ab.out.later E)
   clear E ah ab
   clear M Y N K J O L U X V o A Z
   clear ad
   have hp:H.pos<C.ts.length:=zaz hs (by decide)
   obtain⟨rfl,rfl⟩:=za7 ay.out hz
   have aE:=aA.out hz
   have aF:=aD.out hz
   skip
   obtain⟨M,Y,N,K,J,O,L,U,X,V,o,A,Z⟩:=j.out.box
   go_wp2_with fail
   refine (HP.out (.ok (adv H)) S2 (adv H) (-1) d _ (zU _) ((ag.out.adv hp).set j.out 1 _) (fun _=>by rw[zw];omega) aq).mono ?_
   rintro e w5 ⟨S5,q5,z5,rfl,i5,m5,s5⟩
   replace j:=zc ((j.out.at1 _).stp s5)
   replace n:=zc ((n.out.set_other (by omega) 1 _).stp s5)
   have am:Hid (SB w.heap.size S w S5 w5):=(ai.out.set (by omega) 1 _).step s5
   clear ai
   have ao:=zc m5
   have av:=zc i5
   clear i5 m5 s5 ag
   clear M Y N K J O L U X V o A Z
   obtain⟨M,Y,N,K,J,O,L,U,X,V,o,A,Z⟩:=j.out.box
   unfold pv
   go_upto_region 9 with fail
   refine zJ (R:=fun W=>Bx gt S5 W (w.heap.size) _∧Bx gt S5 W (w.heap.size+1) _∧Mem C gt I D S5 q5 W∧SB w.heap.size S w S5 W) ⟨(j.out.put ..),(n.out.other (by omega) ..),(ao.out.put j.out ..),(am.out.put (by omega) ..)⟩ ?_
   clear M Y N K J O L U X V o A Z
   clear j n am ao
   rintro w6 ⟨X0,X1,m6,t6⟩
   have j:=zc X0
   have n:=zc X1
   have ak:=zc m6
   have an:=zc t6
   clear m6 t6 X0 X1
   obtain⟨M,Y,N,K,J,O,L,U,X,V,o,A,Z⟩:=j.out.box
   have az:=ak.out.inv.ex
   go_wp2_with fail
   refine (zc3 C gt I D _ S5 q5 z5 d ⟨6,0,sNone,sNone,(H.ex.length:Int)-1,(q5.ex.length:Int)-1⟩ _ av.out ak.out (fun h=>zjh av.out h)).mono ?_
   rintro e w7 ⟨S7,q7,z7,rfl,i7,m7,s7⟩
   replace j:=zc (j.out.stp s7)
   replace n:=zc (n.out.stp s7)
   have au:=zc (an.out.step s7)
   clear an
   have ap:=zc m7
   have aK:=zc i7
   clear i7 m7 s7 ak
   clear M Y N K J O L U X V o A Z
   have HI:Hid (Is (bd (bd (.ok (adv H)) (pE C .prod d)) fun q'=>zM C ⟨6,0,sNone,sNone,(H.ex.length:Int)-1,(q'.ex.length:Int)-1⟩ q') q7 z7):=by rw[←zg0 av.out (fun q'=>⟨6,0,sNone,sNone,(H.ex.length:Int)-1,(q'.ex.length:Int)-1⟩)];exact aK.out
   have ae:Hid (z7<0→H.pos+1≤q7.pos):=fun h=>zji HI.out h
   obtain⟨M,Y,N,K,J,O,L,U,X,V,o,A,Z⟩:=j.out.box
   unfold pv
   go_wp2
   go_roundg (gk-1)
   case rel=>exact⟨_,S7,q7,z7,HI.out,by rw[←ax.out];exact (zjj (d:=d) (by rw[hs];rfl) (show zcH C H.pos=6 by rw[zcH,aB];rfl) hp).symm,fun h=>by have:=ae.out h;omega,fun h=>by have:=ae.out h;omega,(ap.out.put j.out ..),(au.out.put (by omega) ..),(j.out.put ..),(n.out.other (by omega) ..)⟩
   case measure=>omega
  |false=>
   obtain⟨M,Y,N,K,J,O,L,U,X,V,o,A,Z⟩:=j.out.box
   go_wp2_with fail
   refine (zg C gt I D S2 H z2 d 4 zbN _ aj.out.tok ac (by decide)).mono ?_
   rintro e w3 ⟨rfl,aa⟩
   rw[hc]
   replace j:=zc (j.out.below aa)
   replace n:=zc (n.out.below aa)
   have ah:=zc (ar.out.below aa)
   have ab:=zc (aj.out.later aa)
   clear aa ar aj
   clear M Y N K J O L U X V o A Z
   cases ad:(decide (z2<0)&&isT C H.pos 4 zaT) with
   |true=>
    obtain⟨M,Y,N,K,J,O,L,U,X,V,o,A,Z⟩:=j.out.box
    go_wp2_with fail
    refine (zg C gt I D S2 H z2 d 4 zaT _ ab.out.tok ac (by decide)).mono ?_
    rintro e w4 ⟨rfl,E⟩
    rw[ad]
    replace j:=zc (j.out.below E)
    replace n:=zc (n.out.below E)
    have ai:=zc (ah.out.below E)
    have ag:=zc (ab.out.later E)
    clear E ah ab
    clear M Y N K J O L U X V o A Z
    obtain⟨M,Y,N,K,J,O,L,U,X,V,o,A,Z⟩:=j.out.box
    go_wp2_with fail
    refine (zg C gt I D S2 H z2 d 4 zaT _ ag.out.tok ac (by decide)).mono ?_
    rintro e w5 ⟨rfl,al⟩
    rw[ad]
    replace j:=zc (j.out.below al)
    replace n:=zc (n.out.below al)
    have am:=zc (ai.out.below al)
    have ao:=zc (ag.out.later al)
    clear al ai ag
    clear M Y N K J O L U X V o A Z
    rw[Bool.and_eq_true,decide_eq_true_eq] at ad
    obtain⟨hz,hs⟩:=ad
    have hp:H.pos<C.ts.length:=zaz hs (by decide)
    obtain⟨rfl,rfl⟩:=za7 ay.out hz
    have aE:=aA.out hz
    have aF:=aD.out hz
    skip
    obtain⟨M,Y,N,K,J,O,L,U,X,V,o,A,Z⟩:=j.out.box
    go_wp2_with fail
    refine (HP.out (.ok (adv H)) S2 (adv H) (-1) d _ (zU _) ((ao.out.adv hp).set j.out 1 _) (fun _=>by rw[zw];omega) aq).mono ?_
    rintro e w6 ⟨S6,q6,z6,rfl,i6,m6,s6⟩
    replace j:=zc ((j.out.at1 _).stp s6)
    replace n:=zc ((n.out.set_other (by omega) 1 _).stp s6)
    have an:Hid (SB w.heap.size S w S6 w6):=(am.out.set (by omega) 1 _).step s6
    clear am
    have ak:=zc m6
    have aw:=zc i6
    clear i6 m6 s6 ao
    clear M Y N K J O L U X V o A Z
    obtain⟨M,Y,N,K,J,O,L,U,X,V,o,A,Z⟩:=j.out.box
    unfold pv
    go_upto_region 9 with fail
    refine zJ (R:=fun W=>Bx gt S6 W (w.heap.size) _∧Bx gt S6 W (w.heap.size+1) _∧Mem C gt I D S6 q6 W∧SB w.heap.size S w S6 W) ⟨(j.out.put ..),(n.out.other (by omega) ..),(ak.out.put j.out ..),(an.out.put (by omega) ..)⟩ ?_
    clear M Y N K J O L U X V o A Z
    clear j n an ak
    rintro w7 ⟨X0,X1,m7,t7⟩
    have j:=zc X0
    have n:=zc X1
    have ap:=zc m7
    have au:=zc t7
    clear m7 t7 X0 X1
    obtain⟨M,Y,N,K,J,O,L,U,X,V,o,A,Z⟩:=j.out.box
    have az:=ap.out.inv.ex
    go_wp2_with fail
    refine (zc3 C gt I D _ S6 q6 z6 d ⟨7,0,sNone,sNone,(H.ex.length:Int)-1,(q6.ex.length:Int)-1⟩ _ aw.out ap.out (fun h=>zjh aw.out h)).mono ?_
    rintro e w8 ⟨S8,q8,z8,rfl,i8,m8,s8⟩
    replace j:=zc (j.out.stp s8)
    replace n:=zc (n.out.stp s8)
    have aH:=zc (au.out.step s8)
    clear au
    have aG:=zc m8
    have aI:=zc i8
    clear i8 m8 s8 ap
    clear M Y N K J O L U X V o A Z
    have HI:Hid (Is (bd (bd (.ok (adv H)) (pE C .prod d)) fun q'=>zM C ⟨7,0,sNone,sNone,(H.ex.length:Int)-1,(q'.ex.length:Int)-1⟩ q') q8 z8):=by rw[←zg0 aw.out (fun q'=>⟨7,0,sNone,sNone,(H.ex.length:Int)-1,(q'.ex.length:Int)-1⟩)];exact aI.out
    have ae:Hid (z8<0→H.pos+1≤q8.pos):=fun h=>zji HI.out h
    obtain⟨M,Y,N,K,J,O,L,U,X,V,o,A,Z⟩:=j.out.box
    unfold pv
    go_wp2
    go_roundg (gk-1)
    case rel=>exact⟨_,S8,q8,z8,HI.out,by rw[←ax.out];exact (zjj (d:=d) (by rw[hs,Bool.or_true]) (show zcH C H.pos=7 by rw[zcH,hs];rfl) hp).symm,fun h=>by have:=ae.out h;omega,fun h=>by have:=ae.out h;omega,(aG.out.put j.out ..),(aH.out.put (by omega) ..),(j.out.put ..),(n.out.other (by omega) ..)⟩
    case measure=>omega
   |false=>
    obtain⟨M,Y,N,K,J,O,L,U,X,V,o,A,Z⟩:=j.out.box
    go_wp2_with fail
    refine (zg C gt I D S2 H z2 d 4 zaT _ ab.out.tok ac (by decide)).mono ?_
    rintro e w4 ⟨rfl,E⟩
    rw[ad]
    replace j:=zc (j.out.below E)
    replace n:=zc (n.out.below E)
    have ai:=zc (ah.out.below E)
    have ag:=zc (ab.out.later E)
    clear E ah ab
    clear M Y N K J O L U X V o A Z
    obtain⟨M,Y,N,K,J,O,L,U,X,V,o,A,Z⟩:=j.out.box
    obtain⟨b0,b1,b2,b3,b4,b5,b6,b7,b8,b9,aN,aM,bf⟩:=n.out.box
    go_wp2
    refine bodyPost_ret (results_cell_row rfl _ _ (w.heap.size+1) 53 _ (0,0) _ rfl ((n.out.put ..)).heap Tryz.underlying53 rfl (by kernel_rfl)) rfl ?_
    exact zW rfl (show Is (bd x (pE C .sum d)) H z2 from by rw[←ax.out];exact zpp ay.out hc ad) (ag.out.put n.out ..) (ai.out.put (by omega) ..)
theorem zpr (C:Cx) (A j h:Nat):zgz C A j h 0:=by
 intro x S q z d w I E J K
 by_cases H:z<0
 ·have:=J H
  omega
 ·obtain⟨e,rfl,rfl⟩:=zcN I H
  rw[zd7]
  obtain⟨D,n,o⟩:=C
  cases o with
  |true=>exact zjd D n A j h S q d w E e
  |false=>exact zje D n A j h S q d w E e
theorem zps (C:Cx) (n j h:Nat) (m:Nat):SumOK C n j h m:=by
 induction m with
 |zero=>exact zjl (zjk (zpr C n j h))
 |succ m o=>exact zjl (zjk (zpi o))
theorem zcE (C:Cx) (n j h:Nat) (x:PR) (S:Sv) (q:PS) (z:Int) (w:World) (o:Is x q z) (A:Mem C n j h S q w):
  Calls Tryz.prog 75 #[pv C n j S q z 0] w (Out C n j h (bd x (pE C .sum 0)) 0 S w):=
 zps C n j h (C.ts.length+1) x S q z 0 w o A (fun _=>by omega) (by omega)
theorem Is2.withN {y:PRN} {q q':PS} {z z':Int} {n:ByteArray} {F:PR→ByteArray→PR} (h:Is2 y q z n) (A: ∀e n,F (.error e) n= .error e) (j:Is (F (zaG y) n) q' z'):Is2 (withN y F) q' z' n:=by
 cases y with
 |ok a=>
  obtain⟨_,_,rfl⟩:=h
  have e:zaG (.ok a)= .ok a.1:=rfl
  rw[e] at j
  show Is2 (bd (F (.ok a.1) a.2) fun q=>.ok (q,a.2)) q' z' a.2
  cases o:F (.ok a.1) a.2 with
  |ok b=>rw[o] at j;exact⟨j.1,j.2,rfl⟩
  |error e=>rw[o] at j;exact j
 |error e=>
  have w:zaG (.error e)= .error e:=rfl
  rw[w,A] at j
  exact j
theorem zjm {C:Cx} {z j h:Nat} {y:PRN} {d:Nat} {S n:Sv} {w o:World} {q':PS} {z':Int} {q:ByteArray} {v:Value} (D:v=pv C z j n q' z' d) (H:Is2 y q' z' q) (E:Mem C z j h n q' o) (A:SB w.heap.size S w n o):zcW C z j h y d S w (.returned (.tuple #[v,.string q])) o:=
 ⟨n,q',z',q,by rw[D],H,E,A.done⟩
theorem zg1 (C:Cx) (D A j:Nat) (S:Sv) (q:PS) (w:World) (hm:Mem C D A j S q w):
  Calls Tryz.prog 72 #[pv C D A S q (-1) 0] w (zcW C D A j (zcm C q) 0 S w):=by
 have HM:=zc hm
 clear hm
 unfold pv
 go_enter Tryz.func72,Tryz.ntmps72
 go_wp2_with fail
 refine (zaC C D A j (.ok q) S q (-1) 0 zA _ (zU q) ((HM.out.alloc _).alloc _)).mono ?_
 rintro e w1 ⟨S1,q1,z1,rfl,i1,m1,s1⟩
 obtain⟨X0,N,t1⟩:=HM.out.two2 s1
 have o:=zc X0
 have h:=zc N
 have ab:=zc m1
 have ae:=zc t1
 have ag:=zc i1
 clear X0 N i1 m1 t1 s1
 go_wp2_with fail
 refine (zaU C D A j _ S1 q1 z1 0 false _ ag.out ab.out).mono ?_
 rintro e w2 ⟨S2,q2,z2,n2,rfl,i2,m2,s2⟩
 replace o:=zc (o.out.stp s2)
 replace h:=zc (h.out.stp s2)
 have Z:=zc (ae.out.step s2)
 clear ae
 have H:=zc m2
 have aa:=zc i2
 clear i2 m2 s2 ab
 have al:w.heap.size+1<w2.heap.size:=h.out.lt
 unfold pv
 go_wp2_with fail
 refine (zab C D A j _ S2 q2 z2 0 cEq _ aa.out.fst (H.out.alloc _)).mono ?_
 rintro e w3 ⟨S3,q3,z3,rfl,i3,m3,s3⟩
 replace o:=zc ((o.out.alloc _).stp s3)
 replace h:=zc ((h.out.alloc _).stp s3)
 replace z:=zc ((Bx.new H.out _).stp s3)
 have X:Hid (SB w.heap.size S w S3 w3):=(Z.out.alloc _).step s3
 clear Z
 have K:=zc m3
 have ah:=zc i3
 clear i3 m3 s3 H
 go_wp2_with fail
 refine (zcE C D A j _ S3 q3 z3 _ ah.out K.out).mono ?_
 rintro e w4 ⟨S4,q4,z4,rfl,i4,m4,L⟩
 replace o:=zc (o.out.stp L)
 replace h:=zc (h.out.stp L)
 replace z:=zc (z.out.stp L)
 have Y:=zc (X.out.step L)
 clear X
 have ac:=zc m4
 have af:=zc i4
 clear i4 m4 L K
 go_wp2_with fail
 refine (zab C D A j _ S4 q4 z4 0 cSemi _ af.out ac.out).mono ?_
 rintro e w5 ⟨J,q5,z5,rfl,i5,m5,s5⟩
 replace o:=zc (o.out.stp s5)
 replace h:=zc (h.out.stp s5)
 replace z:=zc (z.out.stp s5)
 have O:=zc (Y.out.step s5)
 clear Y
 have V:=zc m5
 have M:=zc i5
 clear i5 m5 s5 ac
 obtain⟨c0,c1,c2,c3,c4,c5,c6,c7,c8,c9,I,E,cf⟩:=z.out.box
 unfold pv
 go_upto_region 3 with fail
 refine zJ (R:=fun W=>Bx D J W (w.heap.size) _∧Bx D J W (w.heap.size+1) _∧Bx D J W (w2.heap.size) _∧Mem C D A j J q5 W∧SB w.heap.size S w J W) ⟨(o.out.other (by omega) ..),(h.out.other (by omega) ..),(z.out.put ..),(V.out.put z.out ..),(O.out.put (by omega) ..)⟩ ?_
 clear c0 c1 c2 c3 c4 c5 c6 c7 c8 c9 I E cf
 clear o h z O V
 rintro w6 ⟨X0,N,X2,m6,t6⟩
 have o:=zc X0
 have h:=zc N
 have z:=zc X2
 have ad:=zc m6
 have U:=zc t6
 clear m6 t6 X0 N X2
 obtain⟨c0,c1,c2,c3,c4,c5,c6,c7,c8,c9,I,E,cf⟩:=z.out.box
 go_wp2_with fail
 refine (zc4 C D A j _ J q5 z5 0 1 n2 _ M.out ad.out (zaZ M.out)).mono ?_
 rintro e w7 ⟨S7,q7,z7,rfl,i7,m7,s7⟩
 replace o:=zc (o.out.stp s7)
 replace h:=zc (h.out.stp s7)
 replace z:=zc (z.out.stp s7)
 have aj:=zc (U.out.step s7)
 clear U
 have ai:=zc m7
 have ak:=zc i7
 clear i7 m7 s7 ad
 clear c0 c1 c2 c3 c4 c5 c6 c7 c8 c9 I E cf
 obtain⟨b0,b1,b2,b3,b4,b5,b6,b7,b8,b9,an,am,bf⟩:=h.out.box
 unfold pv
 go_wp2
 refine bodyPost_ret (za8 rfl _ _ (w.heap.size+1) 53 _ (0,0) _ rfl ((h.out.put ..)).heap Tryz.underlying53 rfl (by kernel_rfl)) rfl ?_
 exact zjm rfl (aa.out.withN (F:=fun x n=>_) (fun _ _=>rfl) ak.out) (ai.out.put h.out ..) (aj.out.put (by omega) ..)
theorem zg2 (C:Cx) (D A z:Nat) (S:Sv) (q:PS) (w:World) (hm:Mem C D A z S q w):
  Calls Tryz.prog 73 #[pv C D A S q (-1) 0] w (zcW C D A z (fnP C q) 0 S w):=by
 have HM:=zc hm
 clear hm
 unfold pv
 go_enter Tryz.func73,Tryz.ntmps73
 go_wp2_with fail
 refine (zaC C D A z (.ok q) S q (-1) 0 zO _ (zU q) ((HM.out.alloc _).alloc _)).mono ?_
 rintro e w1 ⟨S1,q1,z1,rfl,i1,m1,s1⟩
 obtain⟨Z,O,t1⟩:=HM.out.two2 s1
 have o:=zc Z
 have j:=zc O
 have aE:=zc m1
 have aO:=zc t1
 have aU:=zc i1
 clear Z O i1 m1 t1 s1
 go_wp2_with fail
 refine (zaU C D A z _ S1 q1 z1 0 false _ aU.out aE.out).mono ?_
 rintro e w2 ⟨S2,q2,z2,n2,rfl,i2,m2,s2⟩
 replace o:=zc (o.out.stp s2)
 replace j:=zc (j.out.stp s2)
 have az:=zc (aO.out.step s2)
 clear aO
 have ai:=zc m2
 have aB:=zc i2
 clear i2 m2 s2 aE
 have a0:w.heap.size+1<w2.heap.size:=j.out.lt
 unfold pv
 go_wp2_with fail
 refine (zab C D A z _ S2 q2 z2 0 zm _ aB.out.fst (ai.out.alloc _)).mono ?_
 rintro e w3 ⟨S3,q3,z3,rfl,i3,m3,s3⟩
 replace o:=zc ((o.out.alloc _).stp s3)
 replace j:=zc ((j.out.alloc _).stp s3)
 replace h:=zc ((Bx.new ai.out _).stp s3)
 have ay:Hid (SB w.heap.size S w S3 w3):=(az.out.alloc _).step s3
 clear az
 have ao:=zc m3
 have aW:=zc i3
 clear i3 m3 s3 ai
 go_wp2_with fail
 refine (zab C D A z _ S3 q3 z3 0 zay _ aW.out ao.out).mono ?_
 rintro e w4 ⟨S4,q4,z4,rfl,i4,m4,s4⟩
 replace o:=zc (o.out.stp s4)
 replace j:=zc (j.out.stp s4)
 replace h:=zc (h.out.stp s4)
 have aP:=zc (ay.out.step s4)
 clear ay
 have aI:=zc m4
 have aS:=zc i4
 clear i4 m4 s4 ao
 go_wp2_with fail
 refine (zab C D A z _ S4 q4 z4 0 zF _ aS.out aI.out).mono ?_
 rintro e w5 ⟨S5,q5,z5,rfl,i5,m5,s5⟩
 replace o:=zc (o.out.stp s5)
 replace j:=zc (j.out.stp s5)
 replace h:=zc (h.out.stp s5)
 have ar:=zc (aP.out.step s5)
 clear aP
 have ax:=zc m5
 have aR:=zc i5
 clear i5 m5 s5 aI
 obtain⟨K,Y,L,c3,M,c5,c6,N,c8,J,H,E,U⟩:=h.out.box
 unfold pv
 go_upto_region 3 with fail
 refine zJ (R:=fun W=>Bx D S5 W (w.heap.size) _∧Bx D S5 W (w.heap.size+1) _∧Bx D S5 W (w2.heap.size) _∧Mem C D A z S5 q5 W∧SB w.heap.size S w S5 W) ⟨(o.out.other (by omega) ..),(j.out.other (by omega) ..),(h.out.put ..),(ax.out.put h.out ..),(ar.out.put (by omega) ..)⟩ ?_
 clear K Y L c3 M c5 c6 N c8 J H E U
 clear o j h ar ax
 rintro w6 ⟨Z,O,X2,m6,t6⟩
 have o:=zc Z
 have j:=zc O
 have h:=zc X2
 have aM:=zc m6
 have au:=zc t6
 clear m6 t6 Z O X2
 obtain⟨K,Y,L,c3,M,c5,c6,N,c8,J,H,E,U⟩:=h.out.box
 go_wp2_with fail
 refine (zaC C D A z _ S5 q5 z5 0 zd6 _ aR.out aM.out).mono ?_
 rintro e w7 ⟨S7,q7,z7,rfl,i7,m7,s7⟩
 replace o:=zc (o.out.stp s7)
 replace j:=zc (j.out.stp s7)
 replace h:=zc (h.out.stp s7)
 have aH:=zc (au.out.step s7)
 clear au
 have aD:=zc m7
 have aY:=zc i7
 clear i7 m7 s7 aM
 clear K Y L c3 M c5 c6 N c8 J H E U
 go_wp2_with fail
 refine (zcE C D A z _ S7 q7 z7 _ aY.out aD.out).mono ?_
 rintro e w8 ⟨S8,q8,z8,rfl,i8,m8,s8⟩
 replace o:=zc (o.out.stp s8)
 replace j:=zc (j.out.stp s8)
 replace h:=zc (h.out.stp s8)
 have aC:=zc (aH.out.step s8)
 clear aH
 have aA:=zc m8
 have aX:=zc i8
 clear i8 m8 s8 aD
 obtain⟨K,Y,L,c3,M,c5,c6,N,c8,J,H,E,U⟩:=h.out.box
 unfold pv
 go_upto_region 4 with fail
 refine zJ (R:=fun W=>Bx D S8 W (w.heap.size) _∧Bx D S8 W (w.heap.size+1) _∧Bx D S8 W (w2.heap.size) _∧Mem C D A z S8 q8 W∧SB w.heap.size S w S8 W) ⟨(o.out.other (by omega) ..),(j.out.other (by omega) ..),(h.out.put ..),(aA.out.put h.out ..),(aC.out.put (by omega) ..)⟩ ?_
 clear K Y L c3 M c5 c6 N c8 J H E U
 clear o j h aC aA
 rintro w9 ⟨Z,O,X2,m9,t9⟩
 have o:=zc Z
 have j:=zc O
 have h:=zc X2
 have aj:=zc m9
 have aK:=zc t9
 clear m9 t9 Z O X2
 obtain⟨K,Y,L,c3,M,c5,c6,N,c8,J,H,E,U⟩:=h.out.box
 go_wp2_with fail
 refine (zab C D A z _ S8 q8 z8 0 cSemi _ aX.out aj.out).mono ?_
 rintro e a3 ⟨aV,aQ,aZ,rfl,aG,aJ,V⟩
 replace o:=zc (o.out.stp V)
 replace j:=zc (j.out.stp V)
 replace h:=zc (h.out.stp V)
 have ad:=zc (aK.out.step V)
 clear aK
 have ag:=zc aJ
 have am:=zc aG
 clear aG aJ V aj
 clear K Y L c3 M c5 c6 N c8 J H E U
 go_wp2_with fail
 refine (zab C D A z _ aV aQ aZ 0 zbd _ am.out ag.out).mono ?_
 rintro e a2 ⟨I,aq,aT,rfl,ap,aL,X⟩
 replace o:=zc (o.out.stp X)
 replace j:=zc (j.out.stp X)
 replace h:=zc (h.out.stp X)
 have ac:=zc (ad.out.step X)
 clear ad
 have af:=zc aL
 have ab:=zc ap
 clear ap aL X ag
 obtain⟨K,Y,L,c3,M,c5,c6,N,c8,J,H,E,U⟩:=h.out.box
 unfold pv
 go_upto_region 5 with fail
 refine zJ (R:=fun W=>Bx D I W (w.heap.size) _∧Bx D I W (w.heap.size+1) _∧Bx D I W (w2.heap.size) _∧Mem C D A z I aq W∧SB w.heap.size S w I W) ⟨(o.out.other (by omega) ..),(j.out.other (by omega) ..),(h.out.put ..),(af.out.put h.out ..),(ac.out.put (by omega) ..)⟩ ?_
 clear K Y L c3 M c5 c6 N c8 J H E U
 clear o j h ac af
 rintro a8 ⟨Z,O,X2,aF,aw⟩
 have o:=zc Z
 have j:=zc O
 have h:=zc X2
 have ah:=zc aF
 have ae:=zc aw
 clear aF aw Z O X2
 obtain⟨K,Y,L,c3,M,c5,c6,N,c8,J,H,E,U⟩:=h.out.box
 go_wp2_with fail
 refine (zc4 C D A z _ I aq aT 0 2 n2 _ ab.out ah.out (zaZ ab.out)).mono ?_
 rintro e a9 ⟨a7,a6,a4,rfl,al,an,aa⟩
 replace o:=zc (o.out.stp aa)
 replace j:=zc (j.out.stp aa)
 replace h:=zc (h.out.stp aa)
 have aN:=zc (ae.out.step aa)
 clear ae
 have av:=zc an
 have ak:=zc al
 clear al an aa ah
 clear K Y L c3 M c5 c6 N c8 J H E U
 obtain⟨b0,b1,b2,b3,b4,b5,b6,b7,b8,b9,a5,a1,bf⟩:=j.out.box
 unfold pv
 go_wp2
 refine bodyPost_ret (za8 rfl _ _ (w.heap.size+1) 53 _ (0,0) _ rfl ((j.out.put ..)).heap Tryz.underlying53 rfl (by kernel_rfl)) rfl ?_
 exact zjm rfl (aB.out.withN (F:=fun x n=>_) (fun _ _=>rfl) ak.out) (av.out.put j.out ..) (aN.out.put (by omega) ..)
end Go.Proofs.YticdggnnpjachaaGreat
