/-
  A row of pairs of names beside a program under way. No program is spoken of but for the numbers of its types.
  What spec's l4Tail answers: the walk.
  What spec's l4List answers: the walk.
  What spec's l4Part answers,if l4Sum answers so behind it: the walks.
  What spec's l4Part answers where no number and no bracket stands,in a script: the walks.
  What spec's l4Part answers where no number and no bracket stands: the walks.
  What spec's l4Part,l4Product and l4Sum answer: the walks of the two loops,and the three together.
  What spec's l4Let and l4Fn answer: the walks.
-/
import Derived.Deep.DeepCutAuto
import Derived.Test.YticdggnnpjachaaGreatCcModOkImplToSpecBox
namespace Go.Proofs.YticdggnnpjachaaGreat
set_option maxRecDepth 100000
set_option maxHeartbeats 6400000
open Go.RowKit Go.PlainAid
structure Row (S:Sv) (w:World) (base B:Nat) (r:Rw) (l:List Ep):Prop where
 own:OwnR w base 102 4 r l.length (l.flatMap epL)
 free: ∀k,r.blk=some k→¬S.has k
 new: ∀k,r.blk=some k→B≤k
 addr: ∃g,r.a=some ⟨g,0,none⟩
theorem Row.ne {q b:Nat} {S:Sv} {w:World} {j B:Nat} {r:Rw} {l:List Ep} {n:Array Value} (h:Row S w j B r l) (o:Bx q S w b n): ∀k,r.blk=some k→k≠b:=by
 rintro k z rfl
 obtain⟨_,_,c,g⟩:=h.own.typed z
 rw[o.heap] at g
 simp only[Option.some.injEq,Obj.cells.injEq] at g
 exact absurd g.2.1 (by decide)
theorem Row.stp {S q:Sv} {w o:World} {j B:Nat} {r:Rw} {l:List Ep} (h:Row S w j B r l) (s:Stp S w q o):Row q o j B r l:=
 ⟨h.own.keep fun k n=>s.block k (h.own.typed n).2.1 (h.free k n),fun k n g=>(s.sub k g).elim (h.free k n) fun z=>by have:=(h.own.typed n).2.1;omega,h.new,h.addr⟩
theorem Row.below {S:Sv} {w n:World} {j B:Nat} {r:Rw} {l:List Ep} (h:Row S w j B r l) (s:Below w.heap.size w n):Row S n j B r l:=h.stp (Stp.below s)
theorem Row.alloc {S:Sv} {w:World} {j B:Nat} {r:Rw} {l:List Ep} (h:Row S w j B r l) (o:Obj):Row S (w.alloc o) j B r l:=h.below ((Below.refl _ _).alloc (Nat.le_refl _) _)
theorem Row.drew {S:Sv} {w:World} {j B:Nat} {r:Rw} {l:List Ep} (h:Row S w j B r l):Row S w.drew j B r l:=⟨h.own,h.free,h.new,h.addr⟩
theorem Row.set {q b:Nat} {S:Sv} {w:World} {j B:Nat} {r:Rw} {l:List Ep} {n:Array Value} (h:Row S w j B r l) (o:Bx q S w b n) (i:Nat) (u:Value):Row S (w.setCell ⟨b,i,none⟩ u) j B r l:=
 ⟨h.own.keep fun k z=>zp (h.ne o k z),h.free,h.new,h.addr⟩
theorem Row.put {H b:Nat} {S:Sv} {w:World} {j B:Nat} {r:Rw} {l:List Ep} {q:Array Value} (h:Row S w j B r l) (D:Bx H S w b q) (J I z K A E U N L M o n:Value):Row S (set12 w b J I z K A E U N L M o n) j B r l:=
 ⟨h.own.keep fun k O=>ze6 (h.ne D k O) _ _ _ _ _ _ _ _ _ _ _ _,h.free,h.new,h.addr⟩
theorem Row.nil {C:Cx} {z o j B:Nat} {S:Sv} {q:PS} {w:World} (h:Mem C z o j S q w) (A:B≤w.heap.size):Row S (w.alloc (.cells #[] 102 (0,0))) j B ⟨some ⟨w.heap.size,0,none⟩,0⟩ []:=by
 refine⟨World.ownsRow_lit w #[] 0 h.base (by unfold maxLen;omega) rfl,fun k n g=>?_,fun k n=>?_,⟨_,rfl⟩⟩
 ·simp only[Rw.blk,Value.ownBlock,Option.some.injEq] at n
  have:=(h.own.has g).2
  omega
 ·simp only[Rw.blk,Value.ownBlock,Option.some.injEq] at n
  omega
theorem Row.grow {C:Cx} {J D j B:Nat} {S:Sv} {q:PS} {W z:World} {r E:Rw} {l:List Ep} {x:Ep} (h:Row S W j B r l) (w:Mem C J D j S q W) (N:B≤W.heap.size) (L:W.grownBy z r.blk) (K:OwnR z j 102 4 E (l.length+1) (l.flatMap epL++epL x)) (A:E.blk=r.blk∨E.blk=some W.heap.size):
  Row S z j B E (l++[x])∧Mem C J D j S q z:=by
 refine⟨⟨?_,fun k o g=>?_,fun k o=>?_,K.addr.resolve_left (by omega)⟩,?_⟩
 ·have e:(l++[x]).length=l.length+1:=by simp
  rw[e]
  simpa using K
 ·rcases A with e|e
  ·exact h.free k (by rw[←e];exact o) g
  ·have M:W.heap.size=k:=Option.some.inj (e.symm.trans o)
   have:=(w.own.has g).2
   omega
 ·rcases A with e|e
  ·exact h.new k (by rw[←e];exact o)
  ·have M:W.heap.size=k:=Option.some.inj (e.symm.trans o)
   omega
 ·have n: ∀k,k<W.heap.size→r.blk≠some k→z.heap[k]? =W.heap[k]?:=fun k o H=>L.block k o fun e=>H e.symm
  refine⟨w.own.keep fun k o=>n k (w.own.has o).2 fun e=>h.free k e o,w.inv,zbs w.tok (n J (zak w.tok).1 fun e=>?_),w.few,Nat.le_trans w.base L.size⟩
  obtain⟨_,_,c,g⟩:=h.own.typed e
  obtain⟨O,I⟩:=zeN w.tok
  rw[g] at I
  simp only[Option.some.injEq,Obj.cells.injEq] at I
  exact absurd I.2.1 (by decide)
theorem Row.bx {w b:Nat} {S:Sv} {W o:World} {n B:Nat} {r:Rw} {l:List Ep} {q:Array Value} (h:Row S W n B r l) (j:Bx w S W b q) (z:W.grownBy o r.blk):Bx w S o b q:=
 ⟨(z.block b j.lt fun e=>h.ne j b e.symm rfl).trans j.heap,j.free,j.ne⟩
theorem Row.sb {S S0:Sv} {w W q:World} {o:Nat} {B:Nat} {r:Rw} {l:List Ep} (h:Row S W o B r l) (j:SB B S0 w S W) (n:W.grownBy q r.blk):SB B S0 w S q:=
 ⟨n.os.trans j.os,n.tape.trans j.tape,n.output.trans j.output,Nat.le_trans j.size n.size,j.low,fun k A z=>(n.block k (by have:=j.size;have:=j.low;omega) fun e=>by have:=h.new k e.symm;omega).trans (j.block k A z),j.sub⟩
theorem Mem.list3 {C:Cx} {D E j:Nat} {S o:Sv} {q:PS} {w n:World} {z A:Array Value} (h:Mem C D E j S q w) (s:Stp S (((w.alloc (.cells z 53 (0,0))).alloc (.cells A 53 (0,0))).alloc (.cells #[] 102 (0,0))) o n):
  Bx D o n w.heap.size z∧Bx D o n (w.heap.size+1) A∧Row o n j w.heap.size ⟨some ⟨w.heap.size+1+1,0,none⟩,0⟩ []∧SB w.heap.size S w o n:=by
 refine⟨(((Bx.new h _).alloc _).alloc _).stp s,?_,?_,(SB.start (zc2 w _ _ _)).step s⟩
 ·have:=((Bx.new (h.alloc (.cells z 53 (0,0))) A).alloc (.cells #[] 102 (0,0))).stp s
  rw[zj] at this
  exact this
 ·have:=(Row.nil (B:=w.heap.size) ((h.alloc (.cells z 53 (0,0))).alloc (.cells A 53 (0,0))) (zaM w _ _).size).stp s
  rw[zcp] at this
  exact this
def Is3 (y:PRL) (q:PS) (z:Int) (l:List Ep):Prop:=
 match y with
 | .ok a=>q=a.1∧z= -1∧l=a.2
 | .error e=>z=(e:Int)
def zoP (C:Cx) (gt cap base:Nat) (y:PRL) (d:Nat) (S:Sv) (w:World) (e:Ending) (w':World):Prop:=
 ∃S' q' z' r l,e= .returned (.tuple #[pv C gt cap S' q' z' d,.slice r.a l.length r.cap,.bool (za5 l)])∧Is3 y q' z' l∧Mem C gt cap base S' q' w'∧Stp S w S' w'∧Row S' w' base w.heap.size r l∧l.length≤4001
theorem ziW (l:List Ep) (x:Ep):za5 (l++[x])=(za5 l||(x.loc.toList==[100,101,102,97,117,108,116])):=by simp[za5]
theorem zoQ {n:Func} {p u v:Tmp} {o:TypeId} (h:n.results= #[.cell p o,.tmp u,.tmp v]) (tmps:Array Value) (P:Program) (w:World):
  (results n tmps).run P w=((asAddr (tmps.getD p undef)).run P w).andThen fun a q=>((loadVar o a).run P q).andThen fun x j=>.ok (.tuple #[x,tmps.getD u undef,tmps.getD v undef]) j:=by
 simp only[results,h]
 simp[Sem.run_bind,Result.andThen]
theorem ziX {P:Program} {q:Func} {p u v:Tmp} {n:TypeId} (h:q.results= #[.cell p n,.tmp u,.tmp v]) (tmps:Array Value) (w:World) (g:Nat) (t:TypeId) (j:Array Value) (o:Nat×Nat) (d:TypeDesc)
  (E:tmps.getD p undef= .pointer (some ⟨g,0,none⟩)) (A:w.heap[g]? =some (.cells j t o))
  (D:P.underlying n=some d) (H:(match d with| .struct _| .array _ _=>true|_=>false)=true) (z:(P.info? n).map (·.size)=some j.size):
  (results q tmps).run P w= .ok (.tuple #[.agg j,tmps.getD u undef,tmps.getD v undef]) w:=by
 rw[zoQ h,E]
 simp[asAddr,Result.andThen,run_loadVar_row w g t n j o d A D H z]
theorem zaZ {C:Cx} {x:PR} {k:Int} {s:ByteArray} {q:PS} {z:Int} (h:Is (bd x (zd C k s)) q z):z<0→1≤q.pos:=by
 intro j
 obtain⟨e,_⟩:=za7 h j
 obtain⟨a,_,n⟩:=zi e
 obtain⟨rfl,_⟩:=zb0 n
 simp[adv]
theorem zgy (C:Cx) (M o n:Nat) (S:Sv) (q:PS) (d:Nat) (J:ByteArray) (w:World) (hm:Mem C M o n S q w) (hp:1≤q.pos):
  Calls Tryz.prog 191 #[pv C M o S q (-1) d,.string J] w (Out C M o n (zbq C J q) d S w):=by
 have HM:=zc hm
 have z:=hm.tok
 have O:=hm.few
 clear hm
 cases hi:isT C q.pos 4 zm with
 |true=>
  have HV:Hid (zbq C J q=bd (bd (bd (.ok q) (zd C 4 zm)) (zd C 4 zay)) (zM C ⟨3,0,J,sNone,0,0⟩)):=if_pos hi
  unfold pv
  go_enter Tryz.func191,Tryz.ntmps191
  go_wp2_with fail
  refine (zg C M o n S q (-1) d 4 zm _ (zo (zo z _) _) O (by decide)).mono ?_
  rintro e w1 ⟨rfl,H⟩
  rw[hi]
  obtain⟨Z,X1,m1,t1⟩:=HM.out.two H
  have j:=zc Z
  have h:=zc X1
  have E:=zc m1
  have I:=zc t1
  clear Z X1 m1 t1 H
  clear z
  obtain⟨a0,a1,a2,X,a4,a5,a6,a7,a8,a9,A,D,af⟩:=j.out.box
  go_wp2_with fail
  refine (zab C M o n (.ok q) S q (-1) d zm _ (zU q) E.out).mono ?_
  rintro e w2 ⟨S2,q2,z2,rfl,i2,V,K⟩
  replace j:=zc (j.out.stp K)
  replace h:=zc (h.out.stp K)
  have L:=zc (I.out.step K)
  clear I
  have N:=zc V
  have U:=zc i2
  clear i2 V K E
  clear a0 a1 a2 X a4 a5 a6 a7 a8 a9 A D af
  go_wp2_with fail
  refine (zab C M o n _ S2 q2 z2 d zay _ U.out N.out).mono ?_
  rintro e w3 ⟨S3,q3,z3,rfl,i3,m3,s3⟩
  replace j:=zc (j.out.stp s3)
  replace h:=zc (h.out.stp s3)
  have aa:=zc (L.out.step s3)
  clear L
  have Y:=zc m3
  have ab:=zc i3
  clear i3 m3 s3 N
  obtain⟨a0,a1,a2,X,a4,a5,a6,a7,a8,a9,A,D,af⟩:=j.out.box
  unfold pv
  go_wp2_with fail
  refine (zc3 C M o n _ S3 q3 z3 d ⟨3,0,J,sNone,0,0⟩ _ ab.out (Y.out.put j.out ..) (zaZ ab.out)).mono ?_
  rintro e w4 ⟨S4,q4,z4,rfl,i4,m4,s4⟩
  replace j:=zc ((j.out.put ..).stp s4)
  replace h:=zc ((h.out.other (by omega) ..).stp s4)
  have ah:Hid (SB w.heap.size S w S4 w4):=(aa.out.put (by omega) ..).step s4
  clear aa
  have ac:=zc m4
  have ad:=zc i4
  clear i4 m4 s4 Y
  clear a0 a1 a2 X a4 a5 a6 a7 a8 a9 A D af
  obtain⟨b0,b1,b2,b3,b4,b5,b6,b7,b8,b9,ae,ag,bf⟩:=h.out.box
  unfold pv
  go_wp2
  refine bodyPost_ret (results_cell_row rfl _ _ (w.heap.size+1) 53 _ (0,0) _ rfl ((h.out.put ..)).heap Tryz.underlying53 rfl (by kernel_rfl)) rfl ?_
  rw[HV.out]
  exact zW rfl ad.out (ac.out.put h.out ..) (ah.out.put (by omega) ..)
 |false=>
  have HV:Hid (zbq C J q=bd (.ok q) (zM C ⟨2,0,J,sNone,0,0⟩)):=by show zbq C J q=_;rw[zbq,hi];rfl
  unfold pv
  go_enter Tryz.func191,Tryz.ntmps191
  go_wp2_with fail
  refine (zg C M o n S q (-1) d 4 zm _ (zo (zo z _) _) O (by decide)).mono ?_
  rintro e w1 ⟨rfl,H⟩
  rw[hi]
  obtain⟨Z,X1,m1,t1⟩:=HM.out.two H
  have j:=zc Z
  have h:=zc X1
  have E:=zc m1
  have I:=zc t1
  clear Z X1 m1 t1 H
  clear z
  obtain⟨a0,a1,a2,X,a4,a5,a6,a7,a8,a9,A,D,af⟩:=j.out.box
  go_wp2_with fail
  refine (zc3 C M o n (.ok q) S q (-1) d ⟨2,0,J,sNone,0,0⟩ _ (zU q) E.out (fun _=>hp)).mono ?_
  rintro e w2 ⟨S2,q2,z2,rfl,i2,V,K⟩
  replace j:=zc (j.out.stp K)
  replace h:=zc (h.out.stp K)
  have L:=zc (I.out.step K)
  clear I
  have N:=zc V
  have U:=zc i2
  clear i2 V K E
  clear a0 a1 a2 X a4 a5 a6 a7 a8 a9 A D af
  obtain⟨b0,b1,b2,b3,b4,b5,b6,b7,b8,b9,ae,ag,bf⟩:=h.out.box
  unfold pv
  go_wp2
  refine bodyPost_ret (results_cell_row rfl _ _ (w.heap.size+1) 53 _ (0,0) _ rfl ((h.out.put ..)).heap Tryz.underlying53 rfl (by kernel_rfl)) rfl ?_
  rw[HV.out]
  exact zW rfl U.out (N.out.put h.out ..) (L.out.put (by omega) ..)
theorem zoR {C:Cx} {h:Bool} {l:List Ep} {Y:PRN} {o E:ByteArray} {L q D:PS} {K w A:Int} (J:Is2 Y L K o) (n:Is2 (bd Y (asP C h)) q w E) (z:(decide (w<0)&&isT C q.pos 4 zbp)=false) (j:Is (bd (zaG (bd Y (asP C h))) (zd C 4 zbd)) D A):
  Is3 (bd Y fun a=>bd (asP C h a) fun b=>if isT C b.1.pos 4 zbp then zav C h (adv b.1) (l++[⟨0,b.2,a.2,sNone⟩]) else bd (zd C 4 zbd b.1) fun q'=>.ok (q',l++[⟨0,b.2,a.2,sNone⟩])) D A (l++[⟨0,E,o,sNone⟩]):=by
 cases Y with
 |error e=>exact j
 |ok a=>
  obtain⟨_,_,rfl⟩:=J
  rw[zx] at n j ⊢
  cases I:asP C h a with
  |error e=>rw[I] at j;exact j
  |ok b=>
   rw[I] at n j
   obtain⟨rfl,rfl,rfl⟩:=n
   rw[Bool.and_eq_false_iff] at z
   rw[zx,z.resolve_left (by decide)]
   have e:bd (zaG (.ok b)) (zd C 4 zbd)=zd C 4 zbd b.1:=rfl
   rw[e] at j
   show Is3 (bd (zd C 4 zbd b.1) _) _ _ _
   cases H:zd C 4 zbd b.1 with
   |error e=>rw[H] at j;exact j
   |ok c=>rw[H] at j;exact⟨j.1,j.2,rfl⟩
theorem zoS {C:Cx} {h:Bool} {l:List Ep} {n K o:PS} {E H:ByteArray} {J w:Int} (z:Is2 (bd (.ok n) (zh C true)) K J E) (j:Is2 (bd (bd (.ok n) (zh C true)) (asP C h)) o w H) (L:w<0) (I:isT C o.pos 4 zbp=true):
  (bd (.ok n) fun q=>zav C h q l)=(bd (.ok (adv o)) fun q=>zav C h q (l++[⟨0,H,E,sNone⟩]))∧n.pos+1≤o.pos:=by
 rw[zx] at z j ⊢
 rw[zx,zeO]
 cases A:zh C true n with
 |error e=>rw[A] at j;have:w=(e:Int):=j;omega
 |ok a=>
  rw[A] at z j
  obtain⟨_,_,rfl⟩:=z
  rw[zx] at j ⊢
  obtain⟨rfl,_⟩:=zbe A
  cases D:asP C h (adv n,(ze C n.pos).text) with
  |error e=>rw[D] at j;have:w=(e:Int):=j;omega
  |ok b=>
   rw[D] at j
   obtain⟨rfl,rfl,rfl⟩:=j
   have:=zej D
   rw[zx,I]
   exact⟨rfl,this⟩
theorem zoT {C:Cx} {h:Bool} {x:PR} {q n:PS} {z j:Int} {l:List Ep} (o:Is x q z) (w: ¬z<0) (A:Is (bd x (zd C 4 zbd)) n j):Is3 (bd x fun q=>zav C h q l) n j l:=by
 obtain⟨e,rfl,_⟩:=zcN o w
 exact A
theorem zoU {C:Cx} {h:Bool} {Y:PRN} {n o:PS} {j A:Int} {D q:ByteArray} (z:Is2 Y n j D) (w:(decide (j<0)&&isT C n.pos 1 sAs)=true) (E:Is2 (bd (.ok (adv n)) (zh C h)) o A q):Is2 (bd Y (asP C h)) o A q:=by
 rw[Bool.and_eq_true,decide_eq_true_eq] at w
 cases Y with
 |error e=>have:j=(e:Int):=z;omega
 |ok a=>
  obtain⟨rfl,_,_⟩:=z
  rw[zx,asP,if_pos w.2]
  exact E
theorem zoV {C:Cx} {q:Bool} {Y:PRN} {n:PS} {j:Int} {o:ByteArray} (z:Is2 Y n j o) (w:(decide (j<0)&&isT C n.pos 1 sAs)=false) (A:((o.toList==[100,101,102,97,117,108,116])&& !exp)=true):Is2 (bd Y (asP C q)) n (zbi C n.pos j) o:=by
 cases Y with
 |error e=>
  have h:j=(e:Int):=z
  show zbi C n.pos j=(e:Int)
  rw[zbi,if_neg (by omega)]
  exact h
 |ok a=>
  obtain⟨rfl,rfl,rfl⟩:=z
  rw[Bool.and_eq_false_iff] at w
  rw[zx,asP,w.resolve_left (by decide),A]
  rfl
theorem ziY {C:Cx} {j:Bool} {Y:PRN} {o:PS} {n:Int} {h:ByteArray} (w:Is2 Y o n h) (q:(decide (n<0)&&isT C o.pos 1 sAs)=false) (z:((h.toList==[100,101,102,97,117,108,116])&& !exp)=false):Is2 (bd Y (asP C j)) o n h:=by
 cases Y with
 |error e=>exact w
 |ok a=>
  obtain⟨rfl,rfl,rfl⟩:=w
  rw[Bool.and_eq_false_iff] at q
  rw[zx,asP,q.resolve_left (by decide),z]
  exact⟨rfl,rfl,rfl⟩
theorem ziZ (C:Cx) (J I n:Nat) (S:Sv) (q:PS) (d:Nat) (ah:Bool) (w:World) (hm:Mem C J I n S q w):
  Calls Tryz.prog 130 #[pv C J I S q (-1) d,.bool ah] w (zoP C J I n (zcz C ah q) d S w):=by
 obtain⟨i0,hi,aI,aP,aX⟩:=info_parts Tryz.infoExp
 have HM:=zc hm
 have aj:=hm.few
 clear hm
 unfold pv
 go_enter Tryz.func130,Tryz.ntmps130
 go_wp2_with fail
 refine (zab C J I n (.ok q) S q (-1) d zF _ (zU q) (((HM.out.alloc _).alloc _).alloc _)).mono ?_
 rintro e w1 ⟨S1,q1,z1,rfl,i1,m1,s1⟩
 obtain⟨X0,X1,R0,t1⟩:=HM.out.list3 s1
 have h:=zc X0
 have j:=zc X1
 have z:=zc R0
 have aZ:=zc t1
 have aV:=zc m1
 have aQ:=zc i1
 clear i1 m1 s1 X0 X1 R0 t1
 obtain⟨X,a1,V,U,a4,a5,a6,a7,Y,Z,A,D,af⟩:=h.out.box
 unfold pv
 go_wp2
 go_loopg [7,8] (C.ts.length+1) (fun k o an wr=>∃(x':PR) (S':Sv) (q':PS) (z':Int) (r:Rw) (l:List Ep),Is x' q' z'∧bd x' (fun q=>zav C ah q l)=zcz C ah q∧(z'<0→C.ts.length-q'.pos<k)∧(l.length≤q'.pos∨l=[])∧o= .slice r.a l.length r.cap∧an= .bool (za5 l)∧Mem C J I n S' q' wr∧SB w.heap.size S w S' wr∧Bx J S' wr w.heap.size #[.slice (some ⟨J,0,none⟩) C.ts.length I,.int .i64 q'.pos,.int .i64 C.fin,.bool C.scr,.slice S'.rq.a q'.rq.length S'.rq.cap,.slice S'.im.a q'.im.length S'.im.cap,.slice S'.ep.a q'.ep.length S'.ep.cap,.slice S'.st.a q'.st.length S'.st.cap,.slice S'.ex.a q'.ex.length S'.ex.cap,.slice S'.la.a q'.la.length S'.la.cap,.int .i64 z',.int .i64 d]∧Bx J S' wr (w.heap.size+1) #[.slice none 0 0,.int .i64 0,.int .i64 0,.bool false,.slice none 0 0,.slice none 0 0,.slice none 0 0,.slice none 0 0,.slice none 0 0,.slice none 0 0,.int .i64 0,.int .i64 0]∧Row S' wr n w.heap.size r l)
 case atStart=>exact⟨_,S1,q1,z1,_,[],aQ.out,rfl,fun _=>by omega,.inr rfl,rfl,rfl,(aV.out.put h.out ..),(aZ.out.put (by omega) ..),(h.out.put ..),(j.out.other (by omega) ..),(z.out.put h.out ..)⟩
 case round=>
  obtain⟨x2,S2,q2,z2,r,l,i2,e2,l2,n2,rfl,rfl,m2,t2,X0,X1,R0⟩:=hrel
  have h:=zc X0
  have j:=zc X1
  have ap:=zc m2
  have ao:=zc t2
  have ax:=zc i2
  have ay:=zc e2
  have aF:=zc l2
  have z:=zc R0
  have bh:l.length≤4000:=n2.elim (fun g=>by have:=m2.inv.pos;omega) (fun g=>by rw[g];simp)
  have aJ:=zc n2
  clear X0 X1 i2 m2 t2 e2 l2 R0 n2
  by_cases hz:z2<0
  ·skip
   obtain⟨rfl,rfl⟩:=za7 ax.out hz
   have bc:=aF.out hz
   obtain⟨X,a1,V,U,a4,a5,a6,a7,Y,Z,A,D,af⟩:=h.out.box
   go_wp2_with fail
   refine (zaU C J I n (.ok q2) S2 q2 (-1) d true _ (zU q2) ap.out).mono ?_
   rintro e w3 ⟨O,q3,z3,n3,rfl,i3,m3,s3⟩
   replace h:=zc (h.out.stp s3)
   replace j:=zc (j.out.stp s3)
   have aq:=zc (ao.out.step s3)
   have H:Hid (Row O w3 n w.heap.size r l):=z.out.stp s3
   clear z
   have z:=zc H
   clear H
   clear ao
   have al:=zc m3
   have ac:=zc i3
   clear i3 m3 s3 ap
   clear X a1 V U a4 a5 a6 a7 Y Z A D af
   have ba:w.heap.size+1<w3.heap.size:=j.out.lt
   unfold pv
   go_upto_region 6 with fail
   refine zJ (R:=fun W=>Bx J O W (w.heap.size) _∧Bx J O W (w.heap.size+1) _∧Bx J O W (w3.heap.size) _∧Row O W n w.heap.size r l∧Mem C J I n O q3 W∧SB w.heap.size S w O W) ⟨(h.out.alloc _),(j.out.alloc _),(Bx.new al.out _),(z.out.alloc _),(al.out.alloc _),(aq.out.alloc _)⟩ ?_
   clear h j aq al
   clear z
   rintro w4 ⟨X0,X1,X2,R0,m4,t4⟩
   have z:=zc R0
   clear R0
   have h:=zc X0
   have j:=zc X1
   have K:=zc X2
   have az:=zc m4
   have aC:=zc t4
   clear m4 t4 X0 X1 X2
   obtain⟨X,a1,V,U,a4,a5,a6,a7,Y,Z,A,D,af⟩:=h.out.box
   obtain⟨c0,c1,c2,c3,c4,c5,c6,c7,c8,c9,aG,aY,cf⟩:=K.out.box
   go_upto_region 7 with fail
   refine zJ (R:=fun W=>Bx J O W (w.heap.size) _∧Bx J O W (w.heap.size+1) _∧Bx J O W (w3.heap.size) _∧Row O W n w.heap.size r l∧Mem C J I n O q3 W∧SB w.heap.size S w O W) ⟨(h.out.put ..),(j.out.other (by omega) ..),(K.out.other (by omega) ..),(z.out.put h.out ..),(az.out.put h.out ..),(aC.out.put (by omega) ..)⟩ ?_
   clear X a1 V U a4 a5 a6 a7 Y Z A D af c0 c1 c2 c3 c4 c5 c6 c7 c8 c9 aG aY cf
   clear h j K aC az
   clear z
   rintro w5 ⟨X0,X1,X2,R0,m5,t5⟩
   have z:=zc R0
   clear R0
   have h:=zc X0
   have j:=zc X1
   have K:=zc X2
   have ag:=zc m5
   have ak:=zc t5
   clear m5 t5 X0 X1 X2
   skip
   obtain⟨X,a1,V,U,a4,a5,a6,a7,Y,Z,A,D,af⟩:=h.out.box
   skip
   go_wp2_with fail
   refine (zg C J I n O q3 z3 d 1 sAs _ ag.out.tok aj (by decide)).mono ?_
   rintro e w6 ⟨rfl,ai⟩
   replace h:=zc (h.out.below ai)
   replace j:=zc (j.out.below ai)
   replace K:=zc (K.out.below ai)
   have N:=zc (ak.out.below ai)
   have L:=zc (ag.out.later ai)
   have H:Hid (Row O w6 n w.heap.size r l):=z.out.below ai
   clear z
   have z:=zc H
   clear H
   clear ai ak ag
   clear X a1 V U a4 a5 a6 a7 Y Z A D af
   go_upto_if 28 with fail
   go_cut [11] (fun aN wx=>∃(M:Sv) (q5:PS) (z5:Int) (n5:ByteArray),aN= .string n5∧Is2 (bd (bd (.ok q2) (zh C true)) (asP C ah)) q5 z5 n5∧Mem C J I n M q5 wx∧SB w.heap.size S w M wx∧Bx J M wx w.heap.size #[.slice (some ⟨J,0,none⟩) C.ts.length I,.int .i64 q5.pos,.int .i64 C.fin,.bool C.scr,.slice M.rq.a q5.rq.length M.rq.cap,.slice M.im.a q5.im.length M.im.cap,.slice M.ep.a q5.ep.length M.ep.cap,.slice M.st.a q5.st.length M.st.cap,.slice M.ex.a q5.ex.length M.ex.cap,.slice M.la.a q5.la.length M.la.cap,.int .i64 z5,.int .i64 d]∧Bx J M wx (w.heap.size+1) #[.slice none 0 0,.int .i64 0,.int .i64 0,.bool false,.slice none 0 0,.slice none 0 0,.slice none 0 0,.slice none 0 0,.slice none 0 0,.slice none 0 0,.int .i64 0,.int .i64 0]∧Row M wx n w.heap.size r l)
   case first=>
    cases hb:(decide (z3<0)&&isT C q3.pos 1 sAs) with
    |true=>
     have aM:q3.pos<C.ts.length:=by rw[Bool.and_eq_true] at hb;exact zaz hb.2 (by decide)
     obtain⟨X,a1,V,U,a4,a5,a6,a7,Y,Z,A,D,af⟩:=h.out.box
     have aW:z3= -1:=by rw[Bool.and_eq_true,decide_eq_true_eq] at hb;exact (za7 ac.out.fst hb.1).2
     subst aW
     go_wp2_with fail
     refine (zaU C J I n (.ok (adv q3)) O (adv q3) (-1) d ah _ (zU _) ((L.out.adv aM).set h.out 1 _)).mono ?_
     rintro e w7 ⟨S7,q7,z7,n7,rfl,i7,m7,s7⟩
     have ad:Hid (Bx J S7 w7 _ _):=(h.out.at1 _).stp s7
     have ae:Hid (Bx J S7 w7 _ _):=(j.out.set_other (by omega) 1 _).stp s7
     have ar:Hid (Bx J S7 w7 _ _):=(K.out.set_other (by omega) 1 _).stp s7
     have ab:Hid (SB w.heap.size S w S7 w7):=(N.out.set (by omega) 1 _).step s7
     replace z:=zc ((z.out.set h.out 1 _).stp s7)
     clear h j K N
     have h:=zc ad
     have j:=zc ae
     have K:=zc ar
     clear ad ae ar
     have aa:=zc m7
     have aL:=zc i7
     clear i7 m7 s7 L
     clear X a1 V U a4 a5 a6 a7 Y Z A D af
     have bb:w.heap.size+1<w7.heap.size:=j.out.lt
     have aE:w3.heap.size<w7.heap.size:=K.out.lt
     unfold pv
     go_upto_region 11 with fail
     refine zJ (R:=fun W=>Bx J S7 W (w.heap.size) _∧Bx J S7 W (w.heap.size+1) _∧Bx J S7 W (w3.heap.size) _∧Bx J S7 W (w7.heap.size) _∧Row S7 W n w.heap.size r l∧Mem C J I n S7 q7 W∧SB w.heap.size S w S7 W) ⟨(h.out.alloc _),(j.out.alloc _),(K.out.alloc _),(Bx.new aa.out _),(z.out.alloc _),(aa.out.alloc _),(ab.out.alloc _)⟩ ?_
     clear h j K ab aa
     clear z
     rintro w8 ⟨X0,X1,X2,X3,R0,m8,t8⟩
     have z:=zc R0
     clear R0
     have h:=zc X0
     have j:=zc X1
     have K:=zc X2
     have aH:=zc X3
     have av:=zc m8
     have aw:=zc t8
     clear m8 t8 X0 X1 X2 X3
     obtain⟨X,a1,V,U,a4,a5,a6,a7,Y,Z,A,D,af⟩:=h.out.box
     obtain⟨d0,d1,d2,d3,d4,d5,d6,d7,d8,d9,be,bg,df⟩:=aH.out.box
     go_wp2
     go_meet
     case rel=>exact⟨S7,q7,z7,n7,rfl,zoU ac.out hb aL.out,(av.out.put h.out ..),(aw.out.put (by omega) ..),(h.out.put ..),(j.out.other (by omega) ..),(z.out.put h.out ..)⟩
    |false=>
     cases e3:(n3.toList==[100,101,102,97,117,108,116]) with
     |true=>
      cases ah with
      |false=>
       obtain⟨X,a1,V,U,a4,a5,a6,a7,Y,Z,A,D,af⟩:=h.out.box
       go_wp2_with fail
       refine (zcL C J I n O q3 z3 d _ L.out.tok aj).mono ?_
       rintro e w7 ⟨rfl,E⟩
       replace h:=zc (h.out.below E)
       replace j:=zc (j.out.below E)
       replace K:=zc (K.out.below E)
       have ab:=zc (N.out.below E)
       have aa:=zc (L.out.later E)
       have H:Hid (Row O w7 n w.heap.size r l):=z.out.below E
       clear z
       have z:=zc H
       clear H
       clear E N L
       clear X a1 V U a4 a5 a6 a7 Y Z A D af
       obtain⟨X,a1,V,U,a4,a5,a6,a7,Y,Z,A,D,af⟩:=h.out.box
       unfold pv
       go_wp2
       go_meet
       case rel=>exact⟨O,q3,(zbi C q3.pos z3),n3,rfl,zoV ac.out hb (by rw[e3];rfl),(aa.out.put h.out ..),(ab.out.put (by omega) ..),(h.out.put ..),(j.out.other (by omega) ..),(z.out.put h.out ..)⟩
      |true=>
       obtain⟨X,a1,V,U,a4,a5,a6,a7,Y,Z,A,D,af⟩:=h.out.box
       go_wp2
       go_meet
       case rel=>exact⟨O,q3,z3,n3,rfl,ziY ac.out hb (by rw[e3];rfl),L.out,N.out,h.out,j.out,z.out⟩
     |false=>
      obtain⟨X,a1,V,U,a4,a5,a6,a7,Y,Z,A,D,af⟩:=h.out.box
      go_wp2
      go_meet
      case rel=>exact⟨O,q3,z3,n3,rfl,ziY ac.out hb (by rw[e3];rfl),L.out,N.out,h.out,j.out,z.out⟩
   case rest=>
    obtain⟨M,q5,z5,n5,rfl,i5,m5,t5,X0,X1,R0⟩:=hcut
    clear h j K z L N
    have h:=zc X0
    have j:=zc X1
    have ag:=zc m5
    have ak:=zc t5
    have am:=zc i5
    have z:=zc R0
    clear X0 X1 i5 m5 t5 R0
    go_upto_region 15 with fail
    go_cut [8] (fun s8 wx=>s8= .bool (za5 l||(n3.toList==[100,101,102,97,117,108,116]))∧wx=wc)
    case first=>
     cases ha:za5 l with
     |true=>
      go_wp2
      go_meet
      case rel=>exact⟨by rw[ha];rfl,rfl⟩
     |false=>
      cases e3:(n3.toList==[100,101,102,97,117,108,116]) with
      |true=>
       go_wp2
       go_meet
       case rel=>exact⟨by rw[ha,e3];rfl,rfl⟩
      |false=>
       go_wp2
       go_meet
       case rel=>exact⟨by rw[ha,e3];rfl,rfl⟩
    case rest=>
     obtain⟨rfl,rfl⟩:=hcut
     have au:=fun o=>z.out.own.alloc o
     have aU:=ag.out.base
     go_wp2_with (at_builtin;refine zcl _ rfl _ _ 24 rfl n 102 i0 _ 4 56 Tryz.underlying24 hi aI aP aX rfl (by decide) (by decide) r l.length _ (by rfl) (au _) wc.heap.size (epL ⟨0,n5,n3,sNone⟩) (by rfl) (by exact heap_alloc_new wc _) rfl (by intro u hu;simp[epL] at hu;rcases hu with rfl|rfl|rfl|rfl<;>rfl) (by omega) (by rw[zj];omega) ?_)
     intro r' w6 hr hg aA
     obtain⟨R6,m6⟩:=(z.out.alloc _).grow (x:=⟨0,n5,n3,sNone⟩) (ag.out.alloc _) (by rw[zj];have:=ak.out.size;omega) hg hr (by rw[zj];exact aA)
     have ad:Hid (Bx J M w6 _ _):=(z.out.alloc _).bx (h.out.alloc _) hg
     have ae:Hid (Bx J M w6 _ _):=(z.out.alloc _).bx (j.out.alloc _) hg
     have N:Hid (SB w.heap.size S w M w6):=(z.out.alloc _).sb (ak.out.alloc _) hg
     have L:=zc m6
     clear h j z hr hg aA au aU ag ak m6
     have h:=zc ad
     have j:=zc ae
     have z:=zc R6
     clear ad ae R6
     cases hc:(decide (z5<0)&&isT C q5.pos 4 zbp) with
     |true=>
      obtain⟨X,a1,V,U,a4,a5,a6,a7,Y,Z,A,D,af⟩:=h.out.box
      go_wp2_with fail
      refine (zg C J I n M q5 z5 d 4 zbp _ L.out.tok aj (by decide)).mono ?_
      rintro e w7 ⟨rfl,E⟩
      rw[hc]
      replace h:=zc (h.out.below E)
      replace j:=zc (j.out.below E)
      have ab:=zc (N.out.below E)
      have aa:=zc (L.out.later E)
      have H:Hid (Row M w7 n w.heap.size r' (l++[⟨0,n5,n3,sNone⟩])):=z.out.below E
      clear z
      have z:=zc H
      clear H
      clear E N L
      clear X a1 V U a4 a5 a6 a7 Y Z A D af
      rw[Bool.and_eq_true,decide_eq_true_eq] at hc
      obtain⟨aB,aD⟩:=hc
      have aS:q5.pos<C.ts.length:=zaz aD (by decide)
      obtain⟨E5,P5⟩:=zoS (l:=l) ac.out am.out aB aD
      have HE:=zc E5
      obtain rfl:z5= -1:=(za7 am.out.fst aB).2
      have aK:Hid ((l++[(⟨0,n5,n3,sNone⟩:Ep)]).length≤q5.pos+1∨l++[(⟨0,n5,n3,sNone⟩:Ep)]=[]):=.inl (by simp only[List.length_append,List.length_singleton];exact aJ.out.elim (fun g=>by omega) (fun g=>by rw[g];simp))
      clear E5
      obtain⟨X,a1,V,U,a4,a5,a6,a7,Y,Z,A,D,af⟩:=h.out.box
      go_wp2
      go_roundg (gk-1)
      case rel=>exact⟨.ok (adv q5),M,adv q5,-1,r',l++[⟨0,n5,n3,sNone⟩],zU _,by rw[←ay.out];exact HE.out.symm,fun _=>by rw[zw];omega,aK.out,by simp,by rw[ziW],((aa.out.adv aS).set h.out 1 _),(ab.out.set (by omega) 1 _),(h.out.at1 _),(j.out.set_other (by omega) 1 _),(z.out.set h.out 1 _)⟩
      case measure=>omega
     |false=>
      obtain⟨X,a1,V,U,a4,a5,a6,a7,Y,Z,A,D,af⟩:=h.out.box
      go_wp2_with fail
      refine (zg C J I n M q5 z5 d 4 zbp _ L.out.tok aj (by decide)).mono ?_
      rintro e w7 ⟨rfl,E⟩
      rw[hc]
      replace h:=zc (h.out.below E)
      replace j:=zc (j.out.below E)
      have ab:=zc (N.out.below E)
      have aa:=zc (L.out.later E)
      have H:Hid (Row M w7 n w.heap.size r' (l++[⟨0,n5,n3,sNone⟩])):=z.out.below E
      clear z
      have z:=zc H
      clear H
      clear E N L
      clear X a1 V U a4 a5 a6 a7 Y Z A D af
      obtain⟨X,a1,V,U,a4,a5,a6,a7,Y,Z,A,D,af⟩:=h.out.box
      go_wp2_with fail
      refine (zab C J I n _ M q5 z5 d zbd _ am.out.fst aa.out).mono ?_
      rintro e w8 ⟨S8,q8,z8,rfl,i8,m8,s8⟩
      replace h:=zc (h.out.stp s8)
      replace j:=zc (j.out.stp s8)
      have aw:=zc (ab.out.step s8)
      have H:Hid (Row S8 w8 n w.heap.size r' (l++[⟨0,n5,n3,sNone⟩])):=z.out.stp s8
      clear z
      have z:=zc H
      clear H
      clear ab
      have av:=zc m8
      have aR:=zc i8
      clear i8 m8 s8 aa
      clear X a1 V U a4 a5 a6 a7 Y Z A D af
      obtain⟨b0,b1,b2,b3,b4,b5,b6,b7,b8,b9,aO,aT,bf⟩:=j.out.box
      unfold pv
      go_wp2
      refine bodyPost_ret (ziX rfl _ _ (w.heap.size+1) 53 _ (0,0) _ rfl ((j.out.put ..)).heap Tryz.underlying53 rfl (by kernel_rfl)) rfl ?_
      exact⟨S8,q8,z8,r',l++[⟨0,n5,n3,sNone⟩],by simp[pv,ziW],by rw[←ay.out,zx,zeO];exact zoR ac.out am.out hc aR.out,(av.out.put j.out ..),((aw.out.put (by omega) ..)).done,(z.out.put j.out ..),by simp;omega⟩
  ·skip
   obtain⟨X,a1,V,U,a4,a5,a6,a7,Y,Z,A,D,af⟩:=h.out.box
   go_wp2_with fail
   refine (zab C J I n _ S2 q2 z2 d zbd _ ax.out ap.out).mono ?_
   rintro e w3 ⟨O,q3,z3,rfl,i3,m3,s3⟩
   replace h:=zc (h.out.stp s3)
   replace j:=zc (j.out.stp s3)
   have aq:=zc (ao.out.step s3)
   have H:Hid (Row O w3 n w.heap.size r l):=z.out.stp s3
   clear z
   have z:=zc H
   clear H
   clear ao
   have al:=zc m3
   have ac:=zc i3
   clear i3 m3 s3 ap
   clear X a1 V U a4 a5 a6 a7 Y Z A D af
   obtain⟨b0,b1,b2,b3,b4,b5,b6,b7,b8,b9,aO,aT,bf⟩:=j.out.box
   unfold pv
   go_wp2
   refine bodyPost_ret (ziX rfl _ _ (w.heap.size+1) 53 _ (0,0) _ rfl ((j.out.put ..)).heap Tryz.underlying53 rfl (by kernel_rfl)) rfl ?_
   exact⟨O,q3,z3,r,l,rfl,by rw[←ay.out];exact zoT ax.out (by omega) ac.out,(al.out.put j.out ..),((aq.out.put (by omega) ..)).done,(z.out.put j.out ..),by omega⟩
def SumOK (C:Cx) (gt cap base m:Nat):Prop:=∀(x:PR) (S:Sv) (q:PS) (z:Int) (d:Nat) (w:World),Is x q z→Mem C gt cap base S q w→(z<0→C.ts.length-q.pos<m)→d≤20→
 Calls Tryz.prog 75 #[pv C gt cap S q z d] w (Out C gt cap base (bd x (pE C .sum d)) d S w)
theorem zf0 {C:Cx} {o:Bool} {q n:PS} {j:Int} {w:ByteArray} (h:Is2 (bd (.ok q) (zh C o)) n j w) (z:zB C q.pos o=true):n=adv q∧j= -1∧w=(ze C q.pos).text:=by
 rw[zx,zh,if_pos z] at h
 exact h
theorem zf1 {C:Cx} {o:Bool} {q n:PS} {j:Int} {w:ByteArray} (h:Is2 (bd (.ok q) (zh C o)) n j w) (z:zB C q.pos o=false):j=(zq C q.pos:Int):=by
 rw[zx,zh,z] at h
 exact h
theorem zja {C:Cx} {n:ByteArray} {y:Except Nat (PS×ByteArray)} {q:PS} {z:Int} {f:ByteArray} (h:Is2 y q z f) (j:(decide (z<0)&&isT C q.pos 4 zm)=true):bd (bd (bd (zaG y) (zd C 4 zm)) (zd C 4 zay)) (zM C ⟨5,0,n,f,0,0⟩)=bd y fun a=>zbz C n a.2 a.1:=by
 rw[Bool.and_eq_true,decide_eq_true_eq] at j
 cases y with
 |ok a=>
  obtain⟨rfl,_,rfl⟩:=h
  show _=zbz C n a.2 a.1
  rw[zbz,if_pos j.2]
  rfl
 |error e=>rfl
theorem zjb {C:Cx} {n:ByteArray} {y:Except Nat (PS×ByteArray)} {q:PS} {z:Int} {f:ByteArray} (h:Is2 y q z f) (j:(decide (z<0)&&isT C q.pos 4 zm)=false):bd (zaG y) (zM C ⟨4,0,n,f,0,0⟩)=bd y fun a=>zbz C n a.2 a.1:=by
 cases y with
 |ok a=>
  obtain⟨rfl,rfl,rfl⟩:=h
  rw[Bool.and_eq_false_iff] at j
  show _=zbz C n a.2 a.1
  rw[zbz,j.resolve_left (by decide)]
  rfl
 |error e=>rfl
theorem zjc {C:Cx} {o:Bool} {x:PR} {q:PS} {z:Int} {n:ByteArray} (h:Is2 (bd x (zh C o)) q z n):z<0→1≤q.pos:=by
 intro A
 cases j:bd x (zh C o) with
 |error e=>rw[j] at h;have:z=(e:Int):=h;omega
 |ok a=>
  rw[j] at h
  obtain⟨rfl,_,_⟩:=h
  obtain⟨b,_,w⟩:=zi j
  obtain⟨rfl,_⟩:=zbe w
  simp[adv]
theorem zoW (C:Cx) (E j h:Nat) (S:Sv) (q:PS) (d:Nat) (w:World) (D:Mem C E j h S q w) (K:((ze C q.pos).kind==2)=true):
  Calls Tryz.prog 168 #[pv C E j S q (-1) d] w (Out C E j h (pE C .part d q) d S w):=by
 have HM:=zc D
 have o:=D.tok
 have V:C.ts.length≤4000:=D.few
 have U:=(zak D.tok).1
 clear D
 have O:q.pos<C.ts.length:=zeI K (by decide)
 have HV:Hid (pE C .part d q=bd (.ok (adv q)) (zM C ⟨1,(ze C q.pos).num,sNone,sNone,0,0⟩)):=by show pE C .part d q=_;rw[zbv,if_pos K];rfl
 obtain⟨Y,_,Z,_⟩:=o.cells O (d:=⟨0,sNone,0,C.fin⟩)
 change _=some (Value.int .i64 (ze C q.pos).kind) at Y
 change _=some (Value.int .i64 (ze C q.pos).num) at Z
 have A:Hid (Mem C E j h S (adv q) w):=HM.out.adv O
 generalize (ze C q.pos).kind=kd at Y K
 have HN:Hid (∀n,n=(ze C q.pos).num→pE C .part d q=bd (.ok (adv q)) (zM C ⟨1,n,sNone,sNone,0,0⟩)):=fun n e=>by rw[e];exact HV.out
 generalize H:(ze C q.pos).num=nm at Z
 have J:Hid (nm=(ze C q.pos).num):=H.symm
 clear H HV o
 unfold pv
 go_enter Tryz.func168,Tryz.ntmps168
 go_wp2_with fail
 refine (zc3 C E j h (.ok (adv q)) S (adv q) (-1) d ⟨1,nm,sNone,sNone,0,0⟩ _ (zU _) ((A.out.alloc _).alloc _) (fun _=>by simp[adv])).mono ?_
 rintro e w1 ⟨S1,q1,z1,rfl,i1,m1,N⟩
 obtain⟨X0,X1,X⟩:=A.out.two2 N
 have z:=zc X1
 have M:=zc m1
 have L:=zc X
 have I:=zc i1
 clear X0 X1 i1 m1 X N
 obtain⟨b0,b1,b2,b3,b4,b5,b6,b7,b8,b9,ab,aa,bf⟩:=z.out.box
 unfold pv
 go_wp2
 refine bodyPost_ret (results_cell_row rfl _ _ (w.heap.size+1) 53 _ (0,0) _ rfl ((z.out.put ..)).heap Tryz.underlying53 rfl (by kernel_rfl)) rfl ?_
 rw[HN.out nm J.out]
 exact zW rfl I.out (M.out.put z.out ..) (L.out.put (by omega) ..)
theorem zoX (C:Cx) (J j h:Nat) (S:Sv) (q:PS) (d:Nat) (w:World) (H:Mem C J j h S q w) (hk:((ze C q.pos).kind==2)=false) (M:isT C q.pos 4 zm=true) (hd:20≤d) (aa:d≤20):
  Calls Tryz.prog 168 #[pv C J j S q (-1) d] w (Out C J j h (pE C .part d q) d S w):=by
 have HM:=zc H
 have z:=H.tok
 have A:C.ts.length≤4000:=H.few
 have V:=(zak H.tok).1
 clear H
 have hp:q.pos<C.ts.length:=zaz M (by decide)
 have HV:Hid (pE C .part d q= .error (zq C q.pos)):=by show pE C .part d q=_;rw[zbv,hk,M];simp[hd]
 have qd:decide ((20:Int)≤(d:Int))=true:=decide_eq_true (by omega)
 obtain⟨Y,_,_,_⟩:=z.cells hp (d:=⟨0,sNone,0,C.fin⟩)
 change _=some (Value.int .i64 (ze C q.pos).kind) at Y
 generalize (ze C q.pos).kind=kd at Y hk
 unfold pv
 go_enter Tryz.func168,Tryz.ntmps168
 go_wp2_with fail
 refine (zg C J j h S q (-1) d 4 zm _ (zo (zo z _) _) A (by decide)).mono ?_
 rintro e w1 ⟨rfl,I⟩
 rw[M]
 obtain⟨X0,Z,m1,X⟩:=HM.out.two I
 have D:=zc X0
 have n:=zc Z
 have E:=zc m1
 have K:=zc X
 clear X0 Z m1 X I
 obtain⟨a0,a1,a2,a3,a4,a5,a6,a7,a8,a9,U,L,af⟩:=D.out.box
 go_wp2_with fail
 refine (zcL C J j h S q (-1) d _ E.out.tok A).mono ?_
 rintro e w2 ⟨rfl,o⟩
 replace D:=zc (D.out.below o)
 replace n:=zc (n.out.below o)
 have N:=zc (K.out.below o)
 have O:=zc (E.out.later o)
 clear o K E
 clear a0 a1 a2 a3 a4 a5 a6 a7 a8 a9 U L af
 obtain⟨b0,b1,b2,b3,b4,b5,b6,b7,b8,b9,ac,ab,bf⟩:=n.out.box
 unfold pv
 go_wp2
 refine bodyPost_ret (results_cell_row rfl _ _ (w.heap.size+1) 53 _ (0,0) _ rfl ((n.out.put ..)).heap Tryz.underlying53 rfl (by kernel_rfl)) rfl ?_
 rw[HV.out]
 exact zW rfl (show Is (.error (zq C q.pos)) q _ from rfl) (O.out.put n.out ..) (N.out.put (by omega) ..)
theorem zoY (C:Cx) (z o n:Nat) (S:Sv) (q:PS) (d:Nat) (w:World) (K:Mem C z o n S q w) (hk:((ze C q.pos).kind==2)=false) (ho:isT C q.pos 4 zm=true) (hd:d<20) (hS:SumOK C z o n (C.ts.length-q.pos)):
  Calls Tryz.prog 168 #[pv C z o S q (-1) d] w (Out C z o n (pE C .part d q) d S w):=by
 have HM:=zc K
 have H:=K.tok
 have X:C.ts.length≤4000:=K.few
 have ae:=(zak K.tok).1
 clear K
 have hp:q.pos<C.ts.length:=zaz ho (by decide)
 have HV:Hid (pE C .part d q=bd (bd (.ok (adv q)) (pE C .sum (d+1))) (zd C 4 zay)):=by show pE C .part d q=_;rw[zbv,hk,ho,if_neg (by decide),if_pos rfl,if_neg (by omega)];rfl
 have HS:=zc hS
 clear hS
 have qd:decide ((20:Int)≤(d:Int))=false:=decide_eq_false (by omega)
 obtain⟨c0,_,_,_⟩:=H.cells hp (d:=⟨0,sNone,0,C.fin⟩)
 change _=some (Value.int .i64 (ze C q.pos).kind) at c0
 generalize (ze C q.pos).kind=kd at c0 hk
 unfold pv
 go_enter Tryz.func168,Tryz.ntmps168
 go_wp2_with fail
 refine (zg C z o n S q (-1) d 4 zm _ (zo (zo H _) _) X (by decide)).mono ?_
 rintro e w1 ⟨rfl,V⟩
 rw[ho]
 obtain⟨J,O,m1,t1⟩:=HM.out.two V
 have h:=zc J
 have j:=zc O
 have U:=zc m1
 have Y:=zc t1
 clear J O m1 t1 V
 obtain⟨a0,a1,a2,Z,a4,a5,a6,a7,a8,a9,A,E,af⟩:=h.out.box
 go_wp2_with fail
 refine (HS.out (.ok (adv q)) S (adv q) (-1) (d+1) _ (zU _) (((U.out.adv hp).set h.out 1 _).set (h.out.at1 _) 11 _) (fun _=>by show C.ts.length-(q.pos+1)<_;omega) (by omega)).mono ?_
 rintro e w2 ⟨S2,q2,z2,rfl,i2,m2,s2⟩
 replace h:=zc (((h.out.at1 _).at11 _).stp s2)
 replace j:=zc (((j.out.set_other (by omega) 1 _).set_other (by omega) 11 _).stp s2)
 have L:Hid (SB w.heap.size S w S2 w2):=((Y.out.set (by omega) 1 _).set (by omega) 11 _).step s2
 clear Y
 have M:=zc m2
 have ab:=zc i2
 clear i2 m2 s2 U
 clear a0 a1 a2 Z a4 a5 a6 a7 a8 a9 A E af
 go_wp2_with fail
 refine (zab C z o n _ S2 q2 z2 (d+1) zay _ ab.out M.out).mono ?_
 rintro e w3 ⟨S3,q3,z3,rfl,i3,m3,s3⟩
 replace h:=zc (h.out.stp s3)
 replace j:=zc (j.out.stp s3)
 have N:=zc (L.out.step s3)
 clear L
 have I:=zc m3
 have ad:=zc i3
 clear i3 m3 s3 M
 obtain⟨a0,a1,a2,Z,a4,a5,a6,a7,a8,a9,A,E,af⟩:=h.out.box
 obtain⟨D,hD⟩: ∃D:Nat,D=d+1:=⟨_,rfl⟩
 rw[←hD]
 have aj:(D:Int)-1=d:=by omega
 have ai:D≤20:=by omega
 clear hD hd qd
 unfold pv
 go_upto_region 11 with fail
 refine zJ (R:=fun W=>Bx z S3 W (w.heap.size) _∧Bx z S3 W (w.heap.size+1) _∧Mem C z o n S3 q3 W∧SB w.heap.size S w S3 W) ⟨(h.out.put ..),(j.out.other (by omega) ..),(I.out.put h.out ..),(N.out.put (by omega) ..)⟩ ?_
 clear a0 a1 a2 Z a4 a5 a6 a7 a8 a9 A E af
 clear h j N I
 rintro w4 ⟨J,O,m4,t4⟩
 have h:=zc J
 have j:=zc O
 have aa:=zc m4
 have ac:=zc t4
 clear m4 t4 J O
 obtain⟨a0,a1,a2,Z,a4,a5,a6,a7,a8,a9,A,E,af⟩:=h.out.box
 obtain⟨b0,b1,b2,b3,b4,b5,b6,b7,b8,b9,ag,ah,bf⟩:=j.out.box
 go_wp2
 refine bodyPost_ret (results_cell_row rfl _ _ (w.heap.size+1) 53 _ (0,0) _ rfl (((j.out.set_other (by omega) 11 _).put ..)).heap Tryz.underlying53 rfl (by kernel_rfl)) rfl ?_
 rw[HV.out]
 exact zW rfl ad.out ((aa.out.set h.out 11 _).put (j.out.set_other (by omega) 11 _) ..) ((ac.out.set (by omega) 11 _).put (by omega) ..)
theorem zoZ (o:List Tk) (h:Nat) (E A n:Nat) (S:Sv) (q:PS) (d:Nat) (w:World) (U:Mem (Cx.mk o h true) E A n S q w) (hp: ¬q.pos<(Cx.mk o h true).ts.length):
  Calls Tryz.prog 168 #[pv (Cx.mk o h true) E A S q (-1) d] w (Out (Cx.mk o h true) E A n (pE (Cx.mk o h true) .part d q) d S w):=by
 have HM:=zc U
 have O:=U.tok
 have H:(Cx.mk o h true).ts.length≤4000:=U.few
 have ai:=(zak U.tok).1
 clear U
 have hk:((ze (Cx.mk o h true) q.pos).kind==2)=false:=by rw[zdb (by omega)];rfl
 have ho:isT (Cx.mk o h true) q.pos 4 zm=false:=zeo hp (by decide)
 have hu:isT (Cx.mk o h true) q.pos 1 za4=false:=zeo hp (by decide)
 have hn:zB (Cx.mk o h true) q.pos false=false:=zfP hp
 have HV:Hid (pE (Cx.mk o h true) .part d q= .error (zq (Cx.mk o h true) q.pos)):=by show pE (Cx.mk o h true) .part d q=_;rw[zbv,hk,ho,hu,zh,hn];rfl
 have an: ¬q.pos<o.length:=hp
 unfold pv
 go_enter Tryz.func168,Tryz.ntmps168
 go_wp2_with fail
 refine (zg (Cx.mk o h true) E A n S q (-1) d 4 zm _ (zo (zo O _) _) H (by decide)).mono ?_
 rintro e w1 ⟨rfl,aa⟩
 rw[ho]
 obtain⟨N,Z,m1,t1⟩:=HM.out.two aa
 have z:=zc N
 have j:=zc Z
 have L:=zc m1
 have ab:=zc t1
 clear N Z m1 t1 aa
 obtain⟨a0,a1,a2,a3,a4,a5,a6,a7,a8,a9,J,K,af⟩:=z.out.box
 go_wp2_with fail
 refine (zg (Cx.mk o h true) E A n S q (-1) d 1 za4 _ L.out.tok H (by decide)).mono ?_
 rintro e w2 ⟨rfl,D⟩
 rw[hu]
 replace z:=zc (z.out.below D)
 replace j:=zc (j.out.below D)
 have V:=zc (ab.out.below D)
 have X:=zc (L.out.later D)
 clear D ab L
 clear a0 a1 a2 a3 a4 a5 a6 a7 a8 a9 J K af
 obtain⟨a0,a1,a2,a3,a4,a5,a6,a7,a8,a9,J,K,af⟩:=z.out.box
 go_wp2_with fail
 refine (zaU (Cx.mk o h true) E A n (.ok q) S q (-1) d false _ (zU q) X.out).mono ?_
 rintro e w3 ⟨M,q3,z3,n3,rfl,i3,m3,s3⟩
 replace z:=zc (z.out.stp s3)
 replace j:=zc (j.out.stp s3)
 have Y:=zc (V.out.step s3)
 clear V
 have I:=zc m3
 have ag:=zc i3
 clear i3 m3 s3 X
 clear a0 a1 a2 a3 a4 a5 a6 a7 a8 a9 J K af
 obtain rfl:=zf1 ag.out hn
 have dz:decide ((0:Int)≤(zq (Cx.mk o h true) q.pos:Int))=true:=decide_eq_true (by omega)
 have ah:w.heap.size+1<w3.heap.size:=j.out.lt
 unfold pv
 go_upto_region 17 with fail
 refine zJ (R:=fun W=>Bx E M W (w.heap.size) _∧Bx E M W (w.heap.size+1) _∧Bx E M W (w3.heap.size) _∧Mem (Cx.mk o h true) E A n M q3 W∧SB w.heap.size S w M W) ⟨(z.out.alloc _),(j.out.alloc _),(Bx.new I.out _),(I.out.alloc _),(Y.out.alloc _)⟩ ?_
 clear z j Y I
 rintro w4 ⟨N,Z,X2,m4,t4⟩
 have z:=zc N
 have j:=zc Z
 have ad:=zc X2
 have ac:=zc m4
 have ae:=zc t4
 clear m4 t4 N Z X2
 obtain⟨b0,b1,b2,b3,b4,b5,b6,b7,b8,b9,ak,al,bf⟩:=j.out.box
 obtain⟨c0,c1,c2,c3,c4,c5,c6,c7,c8,c9,aj,am,cf⟩:=ad.out.box
 go_wp2
 refine bodyPost_ret (results_cell_row rfl _ _ (w.heap.size+1) 53 _ (0,0) _ rfl ((j.out.put ..)).heap Tryz.underlying53 rfl (by kernel_rfl)) rfl ?_
 rw[HV.out]
 exact zW rfl (show Is (.error (zq (Cx.mk o h true) q.pos)) q3 _ from rfl) (ac.out.put j.out ..) (ae.out.put (by omega) ..)
theorem zpa (j:List Tk) (h:Nat) (E A o:Nat) (S:Sv) (q:PS) (d:Nat) (w:World) (U:Mem (Cx.mk j h true) E A o S q w) (hk:((ze (Cx.mk j h true) q.pos).kind==2)=false) (ho:isT (Cx.mk j h true) q.pos 4 zm=false) (hp:q.pos<(Cx.mk j h true).ts.length) (hu:isT (Cx.mk j h true) q.pos 1 za4=false) (hn:zB (Cx.mk j h true) q.pos false=false):
  Calls Tryz.prog 168 #[pv (Cx.mk j h true) E A S q (-1) d] w (Out (Cx.mk j h true) E A o (pE (Cx.mk j h true) .part d q) d S w):=by
 have HM:=zc U
 have H:=U.tok
 have I:(Cx.mk j h true).ts.length≤4000:=U.few
 have ai:=(zak U.tok).1
 clear U
 have HV:Hid (pE (Cx.mk j h true) .part d q= .error (zq (Cx.mk j h true) q.pos)):=by show pE (Cx.mk j h true) .part d q=_;rw[zbv,hk,ho,hu,zh,hn];rfl
 have an:q.pos<j.length:=hp
 obtain⟨c0,_,_,_⟩:=H.cells hp (d:=⟨0,sNone,0,(Cx.mk j h true).fin⟩)
 change _=some (Value.int .i64 (ze (Cx.mk j h true) q.pos).kind) at c0
 generalize (ze (Cx.mk j h true) q.pos).kind=kd at c0 hk
 unfold pv
 go_enter Tryz.func168,Tryz.ntmps168
 go_wp2_with fail
 refine (zg (Cx.mk j h true) E A o S q (-1) d 4 zm _ (zo (zo H _) _) I (by decide)).mono ?_
 rintro e w1 ⟨rfl,aa⟩
 rw[ho]
 obtain⟨O,Z,m1,t1⟩:=HM.out.two aa
 have z:=zc O
 have n:=zc Z
 have M:=zc m1
 have ab:=zc t1
 clear O Z m1 t1 aa
 obtain⟨a0,a1,a2,a3,a4,a5,a6,a7,a8,a9,K,L,af⟩:=z.out.box
 go_wp2_with fail
 refine (zg (Cx.mk j h true) E A o S q (-1) d 1 za4 _ M.out.tok I (by decide)).mono ?_
 rintro e w2 ⟨rfl,D⟩
 rw[hu]
 replace z:=zc (z.out.below D)
 replace n:=zc (n.out.below D)
 have V:=zc (ab.out.below D)
 have X:=zc (M.out.later D)
 clear D ab M
 clear a0 a1 a2 a3 a4 a5 a6 a7 a8 a9 K L af
 obtain⟨a0,a1,a2,a3,a4,a5,a6,a7,a8,a9,K,L,af⟩:=z.out.box
 go_wp2_with fail
 refine (zaU (Cx.mk j h true) E A o (.ok q) S q (-1) d false _ (zU q) X.out).mono ?_
 rintro e w3 ⟨N,q3,z3,n3,rfl,i3,m3,s3⟩
 replace z:=zc (z.out.stp s3)
 replace n:=zc (n.out.stp s3)
 have Y:=zc (V.out.step s3)
 clear V
 have J:=zc m3
 have ag:=zc i3
 clear i3 m3 s3 X
 clear a0 a1 a2 a3 a4 a5 a6 a7 a8 a9 K L af
 obtain rfl:=zf1 ag.out hn
 have dz:decide ((0:Int)≤(zq (Cx.mk j h true) q.pos:Int))=true:=decide_eq_true (by omega)
 have ah:w.heap.size+1<w3.heap.size:=n.out.lt
 unfold pv
 go_upto_region 17 with fail
 refine zJ (R:=fun W=>Bx E N W (w.heap.size) _∧Bx E N W (w.heap.size+1) _∧Bx E N W (w3.heap.size) _∧Mem (Cx.mk j h true) E A o N q3 W∧SB w.heap.size S w N W) ⟨(z.out.alloc _),(n.out.alloc _),(Bx.new J.out _),(J.out.alloc _),(Y.out.alloc _)⟩ ?_
 clear z n Y J
 rintro w4 ⟨O,Z,X2,m4,t4⟩
 have z:=zc O
 have n:=zc Z
 have ad:=zc X2
 have ac:=zc m4
 have ae:=zc t4
 clear m4 t4 O Z X2
 obtain⟨b0,b1,b2,b3,b4,b5,b6,b7,b8,b9,ak,al,bf⟩:=n.out.box
 obtain⟨c0,c1,c2,c3,c4,c5,c6,c7,c8,c9,aj,am,cf⟩:=ad.out.box
 go_wp2
 refine bodyPost_ret (results_cell_row rfl _ _ (w.heap.size+1) 53 _ (0,0) _ rfl ((n.out.put ..)).heap Tryz.underlying53 rfl (by kernel_rfl)) rfl ?_
 rw[HV.out]
 exact zW rfl (show Is (.error (zq (Cx.mk j h true) q.pos)) q3 _ from rfl) (ac.out.put n.out ..) (ae.out.put (by omega) ..)
theorem zjd (H:List Tk) (o:Nat) (E z j:Nat) (S:Sv) (q:PS) (d:Nat) (w:World) (V:Mem (Cx.mk H o true) E z j S q w) (A:Nat):
  Calls Tryz.prog 168 #[pv (Cx.mk H o true) E z S q (A:Int) d] w (Out (Cx.mk H o true) E z j (.error A) d S w):=by
 have HM:=zc V
 have U:=V.tok
 have I:(Cx.mk H o true).ts.length≤4000:=V.few
 have ai:=(zak V.tok).1
 clear V
 have hz: ¬(A:Int)<0:=by omega
 have hs: ∀k s,(decide ((A:Int)<0)&&isT (Cx.mk H o true) q.pos k s)=false:=fun k s=>by rw[decide_eq_false hz];rfl
 unfold pv
 go_enter Tryz.func168,Tryz.ntmps168
 go_wp2_with fail
 refine (zg (Cx.mk H o true) E z j S q (A:Int) d 4 zm _ (zo (zo U _) _) I (by decide)).mono ?_
 rintro e w1 ⟨rfl,aa⟩
 rw[hs]
 obtain⟨O,X1,m1,t1⟩:=HM.out.two aa
 have n:=zc O
 have h:=zc X1
 have M:=zc m1
 have ab:=zc t1
 clear O X1 m1 t1 aa
 obtain⟨a0,a1,a2,a3,a4,a5,a6,a7,a8,a9,K,L,af⟩:=n.out.box
 go_wp2_with fail
 refine (zg (Cx.mk H o true) E z j S q (A:Int) d 1 za4 _ M.out.tok I (by decide)).mono ?_
 rintro e w2 ⟨rfl,D⟩
 rw[hs]
 replace n:=zc (n.out.below D)
 replace h:=zc (h.out.below D)
 have X:=zc (ab.out.below D)
 have Y:=zc (M.out.later D)
 clear D ab M
 clear a0 a1 a2 a3 a4 a5 a6 a7 a8 a9 K L af
 obtain⟨a0,a1,a2,a3,a4,a5,a6,a7,a8,a9,K,L,af⟩:=n.out.box
 go_wp2_with fail
 refine (zaU (Cx.mk H o true) E z j (.error A) S q (A:Int) d false _ (show Is (.error A) q _ from rfl) Y.out).mono ?_
 rintro e w3 ⟨N,q3,z3,n3,rfl,i3,m3,s3⟩
 replace n:=zc (n.out.stp s3)
 replace h:=zc (h.out.stp s3)
 have Z:=zc (X.out.step s3)
 clear X
 have J:=zc m3
 have ag:=zc i3
 clear i3 m3 s3 Y
 clear a0 a1 a2 a3 a4 a5 a6 a7 a8 a9 K L af
 obtain rfl:z3=(A:Int):=ag.out
 have dz:decide ((0:Int)≤(A:Int))=true:=decide_eq_true (by omega)
 have ah:w.heap.size+1<w3.heap.size:=h.out.lt
 unfold pv
 go_upto_region 17 with fail
 refine zJ (R:=fun W=>Bx E N W (w.heap.size) _∧Bx E N W (w.heap.size+1) _∧Bx E N W (w3.heap.size) _∧Mem (Cx.mk H o true) E z j N q3 W∧SB w.heap.size S w N W) ⟨(n.out.alloc _),(h.out.alloc _),(Bx.new J.out _),(J.out.alloc _),(Z.out.alloc _)⟩ ?_
 clear n h Z J
 rintro w4 ⟨O,X1,X2,m4,t4⟩
 have n:=zc O
 have h:=zc X1
 have ad:=zc X2
 have ac:=zc m4
 have ae:=zc t4
 clear m4 t4 O X1 X2
 obtain⟨b0,b1,b2,b3,b4,b5,b6,b7,b8,b9,ak,al,bf⟩:=h.out.box
 obtain⟨c0,c1,c2,c3,c4,c5,c6,c7,c8,c9,aj,am,cf⟩:=ad.out.box
 go_wp2
 refine bodyPost_ret (results_cell_row rfl _ _ (w.heap.size+1) 53 _ (0,0) _ rfl ((h.out.put ..)).heap Tryz.underlying53 rfl (by kernel_rfl)) rfl ?_
 exact zW rfl (show Is (.error A) q3 _ from rfl) (ac.out.put h.out ..) (ae.out.put (by omega) ..)
theorem zpb (j:List Tk) (h:Nat) (L A n:Nat) (S:Sv) (q:PS) (d:Nat) (w:World) (M:Mem (Cx.mk j h true) L A n S q w) (hk:((ze (Cx.mk j h true) q.pos).kind==2)=false) (ho:isT (Cx.mk j h true) q.pos 4 zm=false) (hp:q.pos<(Cx.mk j h true).ts.length) (hu:isT (Cx.mk j h true) q.pos 1 za4=true):
  Calls Tryz.prog 168 #[pv (Cx.mk j h true) L A S q (-1) d] w (Out (Cx.mk j h true) L A n (pE (Cx.mk j h true) .part d q) d S w):=by
 have HM:=zc M
 have E:=M.tok
 have H:(Cx.mk j h true).ts.length≤4000:=M.few
 have ad:=(zak M.tok).1
 clear M
 have HV:Hid (pE (Cx.mk j h true) .part d q=zbq (Cx.mk j h true) za4 (adv q)):=by show pE (Cx.mk j h true) .part d q=_;rw[zbv,hk,ho,hu];rfl
 have ag:q.pos<j.length:=hp
 obtain⟨c0,_,_,_⟩:=E.cells hp (d:=⟨0,sNone,0,(Cx.mk j h true).fin⟩)
 change _=some (Value.int .i64 (ze (Cx.mk j h true) q.pos).kind) at c0
 generalize (ze (Cx.mk j h true) q.pos).kind=kd at c0 hk
 unfold pv
 go_enter Tryz.func168,Tryz.ntmps168
 go_wp2_with fail
 refine (zg (Cx.mk j h true) L A n S q (-1) d 4 zm _ (zo (zo E _) _) H (by decide)).mono ?_
 rintro e w1 ⟨rfl,N⟩
 rw[ho]
 obtain⟨X0,X1,m1,t1⟩:=HM.out.two N
 have o:=zc X0
 have z:=zc X1
 have J:=zc m1
 have V:=zc t1
 clear X0 X1 m1 t1 N
 obtain⟨a0,Z,a2,a3,a4,a5,a6,a7,Y,a9,K,I,af⟩:=o.out.box
 go_wp2_with fail
 refine (zg (Cx.mk j h true) L A n S q (-1) d 1 za4 _ J.out.tok H (by decide)).mono ?_
 rintro e w2 ⟨rfl,D⟩
 rw[hu]
 replace o:=zc (o.out.below D)
 replace z:=zc (z.out.below D)
 have O:=zc (V.out.below D)
 have U:=zc (J.out.later D)
 clear D V J
 clear a0 Z a2 a3 a4 a5 a6 a7 Y a9 K I af
 obtain⟨a0,Z,a2,a3,a4,a5,a6,a7,Y,a9,K,I,af⟩:=o.out.box
 go_wp2_with fail
 refine (zgy (Cx.mk j h true) L A n S (adv q) d za4 _ ((U.out.adv hp).set o.out 1 _) (by simp[adv])).mono ?_
 rintro e w3 ⟨S3,q3,z3,rfl,i3,m3,X⟩
 replace o:=zc ((o.out.at1 _).stp X)
 replace z:=zc ((z.out.set_other (by omega) 1 _).stp X)
 have aa:Hid (SB w.heap.size S w S3 w3):=(O.out.set (by omega) 1 _).step X
 clear O
 have ab:=zc m3
 have ac:=zc i3
 clear i3 m3 X U
 clear a0 Z a2 a3 a4 a5 a6 a7 Y a9 K I af
 obtain⟨b0,b1,b2,b3,b4,b5,b6,b7,b8,b9,ah,ae,bf⟩:=z.out.box
 unfold pv
 go_wp2
 refine bodyPost_ret (results_cell_row rfl _ _ (w.heap.size+1) 53 _ (0,0) _ rfl ((z.out.put ..)).heap Tryz.underlying53 rfl (by kernel_rfl)) rfl ?_
 rw[HV.out]
 exact zW rfl ac.out (ab.out.put z.out ..) (aa.out.put (by omega) ..)
theorem zpc (j:List Tk) (h:Nat) (J A n:Nat) (S:Sv) (q:PS) (d:Nat) (w:World) (Y:Mem (Cx.mk j h true) J A n S q w) (hk:((ze (Cx.mk j h true) q.pos).kind==2)=false) (ho:isT (Cx.mk j h true) q.pos 4 zm=false) (hp:q.pos<(Cx.mk j h true).ts.length) (hu:isT (Cx.mk j h true) q.pos 1 za4=false) (hn:zB (Cx.mk j h true) q.pos false=true) (hd:isT (Cx.mk j h true) (q.pos+1) 4 cPoint=false):
  Calls Tryz.prog 168 #[pv (Cx.mk j h true) J A S q (-1) d] w (Out (Cx.mk j h true) J A n (pE (Cx.mk j h true) .part d q) d S w):=by
 have HM:=zc Y
 have K:=Y.tok
 have H:(Cx.mk j h true).ts.length≤4000:=Y.few
 have ar:=(zak Y.tok).1
 clear Y
 have HV:Hid (pE (Cx.mk j h true) .part d q=zbq (Cx.mk j h true) (ze (Cx.mk j h true) q.pos).text (adv q)):=by show pE (Cx.mk j h true) .part d q=_;rw[zbv,hk,ho,hu,zh,hn];show (if isT (Cx.mk j h true) (adv q).pos 4 cPoint then _ else _)=_;rw[zw,hd];rfl
 have aw:q.pos<j.length:=hp
 obtain⟨c0,_,_,_⟩:=K.cells hp (d:=⟨0,sNone,0,(Cx.mk j h true).fin⟩)
 change _=some (Value.int .i64 (ze (Cx.mk j h true) q.pos).kind) at c0
 generalize (ze (Cx.mk j h true) q.pos).kind=kd at c0 hk
 unfold pv
 go_enter Tryz.func168,Tryz.ntmps168
 go_wp2_with fail
 refine (zg (Cx.mk j h true) J A n S q (-1) d 4 zm _ (zo (zo K _) _) H (by decide)).mono ?_
 rintro e w1 ⟨rfl,ah⟩
 rw[ho]
 obtain⟨X0,X1,m1,t1⟩:=HM.out.two ah
 have z:=zc X0
 have o:=zc X1
 have O:=zc m1
 have ai:=zc t1
 clear X0 X1 m1 t1 ah
 obtain⟨a0,a1,a2,a3,a4,a5,a6,a7,a8,a9,M,N,af⟩:=z.out.box
 go_wp2_with fail
 refine (zg (Cx.mk j h true) J A n S q (-1) d 1 za4 _ O.out.tok H (by decide)).mono ?_
 rintro e w2 ⟨rfl,E⟩
 rw[hu]
 replace z:=zc (z.out.below E)
 replace o:=zc (o.out.below E)
 have Z:=zc (ai.out.below E)
 have aa:=zc (O.out.later E)
 clear E ai O
 clear a0 a1 a2 a3 a4 a5 a6 a7 a8 a9 M N af
 obtain⟨a0,a1,a2,a3,a4,a5,a6,a7,a8,a9,M,N,af⟩:=z.out.box
 go_wp2_with fail
 refine (zaU (Cx.mk j h true) J A n (.ok q) S q (-1) d false _ (zU q) aa.out).mono ?_
 rintro e w3 ⟨S3,V,z3,n3,rfl,i3,m3,s3⟩
 replace z:=zc (z.out.stp s3)
 replace o:=zc (o.out.stp s3)
 have ab:=zc (Z.out.step s3)
 clear Z
 have I:=zc m3
 have ag:=zc i3
 clear i3 m3 s3 aa
 clear a0 a1 a2 a3 a4 a5 a6 a7 a8 a9 M N af
 obtain⟨hq,rfl,ad⟩:=zf0 ag.out hn
 have HQ:=zc hq
 have aj:=zc ad
 have ac:V.pos=q.pos+1:=by rw[hq];rfl
 have an:isT (Cx.mk j h true) V.pos 4 cPoint=false:=by rw[ac];exact hd
 clear hq ad ag
 have aq:w.heap.size+1<w3.heap.size:=o.out.lt
 unfold pv
 clear ac
 go_wp2_with fail
 refine (zg (Cx.mk j h true) J A n S3 V (-1) d 4 cPoint _ (I.out.alloc _).tok H (by decide)).mono ?_
 rintro e w4 ⟨rfl,D⟩
 rw[an]
 replace z:=zc ((z.out.alloc _).below D)
 replace o:=zc ((o.out.alloc _).below D)
 replace L:=zc ((Bx.new I.out _).below D)
 have ae:Hid (SB w.heap.size S w S3 w4):=(ab.out.alloc _).below D
 have U:Hid (Mem (Cx.mk j h true) J A n S3 V w4):=(I.out.alloc _).later D
 clear D ab I
 obtain⟨c0,c1,c2,c3,c4,c5,c6,c7,c8,c9,al,ap,cf⟩:=L.out.box
 go_wp2_with fail
 refine (zgy (Cx.mk j h true) J A n S3 V d n3 _ U.out (by rw[HQ.out];simp[adv])).mono ?_
 rintro e w5 ⟨S5,q5,z5,rfl,i5,m5,X⟩
 replace z:=zc (z.out.stp X)
 replace o:=zc (o.out.stp X)
 replace L:=zc (L.out.stp X)
 have ao:=zc (ae.out.step X)
 clear ae
 have am:=zc m5
 have ak:=zc i5
 clear i5 m5 X U
 clear c0 c1 c2 c3 c4 c5 c6 c7 c8 c9 al ap cf
 obtain⟨b0,b1,b2,b3,b4,b5,b6,b7,b8,b9,au,av,bf⟩:=o.out.box
 unfold pv
 go_wp2
 refine bodyPost_ret (results_cell_row rfl _ _ (w.heap.size+1) 53 _ (0,0) _ rfl ((o.out.put ..)).heap Tryz.underlying53 rfl (by kernel_rfl)) rfl ?_
 rw[HV.out,←HQ.out,←aj.out]
 exact zW rfl ak.out (am.out.put o.out ..) (ao.out.put (by omega) ..)
theorem zpd (z:List Tk) (h:Nat) (J D n:Nat) (S:Sv) (q:PS) (d:Nat) (w:World) (hm:Mem (Cx.mk z h true) J D n S q w) (hk:((ze (Cx.mk z h true) q.pos).kind==2)=false) (ho:isT (Cx.mk z h true) q.pos 4 zm=false) (hp:q.pos<(Cx.mk z h true).ts.length) (hu:isT (Cx.mk z h true) q.pos 1 za4=false) (hn:zB (Cx.mk z h true) q.pos false=true) (hd:isT (Cx.mk z h true) (q.pos+1) 4 cPoint=true):
  Calls Tryz.prog 168 #[pv (Cx.mk z h true) J D S q (-1) d] w (Out (Cx.mk z h true) J D n (pE (Cx.mk z h true) .part d q) d S w):=by
 have HM:=zc hm
 have ad:=hm.tok
 have K:(Cx.mk z h true).ts.length≤4000:=hm.few
 have aM:=(zak hm.tok).1
 clear hm
 have HV:Hid (pE (Cx.mk z h true) .part d q=bd (bd (.ok (adv (adv q))) (zh (Cx.mk z h true) true)) fun y=>zbz (Cx.mk z h true) (ze (Cx.mk z h true) q.pos).text y.2 y.1):=by show pE (Cx.mk z h true) .part d q=_;rw[zbv,hk,ho,hu,zh,hn];show (if isT (Cx.mk z h true) (adv q).pos 4 cPoint then _ else _)=_;rw[zw,hd];rfl
 have aN:q.pos<z.length:=hp
 obtain⟨c0,_,_,_⟩:=ad.cells hp (d:=⟨0,sNone,0,(Cx.mk z h true).fin⟩)
 change _=some (Value.int .i64 (ze (Cx.mk z h true) q.pos).kind) at c0
 generalize (ze (Cx.mk z h true) q.pos).kind=kd at c0 hk
 unfold pv
 go_enter Tryz.func168,Tryz.ntmps168
 go_wp2_with fail
 refine (zg (Cx.mk z h true) J D n S q (-1) d 4 zm _ (zo (zo ad _) _) K (by decide)).mono ?_
 rintro e w1 ⟨rfl,az⟩
 rw[ho]
 obtain⟨X0,X1,m1,t1⟩:=HM.out.two az
 have o:=zc X0
 have j:=zc X1
 have ai:=zc m1
 have aA:=zc t1
 clear X0 X1 m1 t1 az
 obtain⟨a0,a1,a2,a3,a4,a5,a6,a7,a8,a9,ag,ah,af⟩:=o.out.box
 go_wp2_with fail
 refine (zg (Cx.mk z h true) J D n S q (-1) d 1 za4 _ ai.out.tok K (by decide)).mono ?_
 rintro e w2 ⟨rfl,V⟩
 rw[hu]
 replace o:=zc (o.out.below V)
 replace j:=zc (j.out.below V)
 have an:=zc (aA.out.below V)
 have ao:=zc (ai.out.later V)
 clear V aA ai
 clear a0 a1 a2 a3 a4 a5 a6 a7 a8 a9 ag ah af
 obtain⟨a0,a1,a2,a3,a4,a5,a6,a7,a8,a9,ag,ah,af⟩:=o.out.box
 go_wp2_with fail
 refine (zaU (Cx.mk z h true) J D n (.ok q) S q (-1) d false _ (zU q) ao.out).mono ?_
 rintro e w3 ⟨S3,q3,z3,n3,rfl,i3,m3,s3⟩
 replace o:=zc (o.out.stp s3)
 replace j:=zc (j.out.stp s3)
 have au:=zc (an.out.step s3)
 clear an
 have aa:=zc m3
 have ay:=zc i3
 clear i3 m3 s3 ao
 clear a0 a1 a2 a3 a4 a5 a6 a7 a8 a9 ag ah af
 obtain⟨hq,rfl,aw⟩:=zf0 ay.out hn
 have HQ:=zc hq
 have aj:=zc aw
 have av:q3.pos=q.pos+1:=by rw[hq];rfl
 have ap:isT (Cx.mk z h true) q3.pos 4 cPoint=true:=by rw[av];exact hd
 clear hq aw ay
 have aK:w.heap.size+1<w3.heap.size:=j.out.lt
 unfold pv
 clear av
 go_wp2_with fail
 refine (zg (Cx.mk z h true) J D n S3 q3 (-1) d 4 cPoint _ (aa.out.alloc _).tok K (by decide)).mono ?_
 rintro e w4 ⟨rfl,M⟩
 rw[ap]
 replace o:=zc ((o.out.alloc _).below M)
 replace j:=zc ((j.out.alloc _).below M)
 replace A:=zc ((Bx.new aa.out _).below M)
 have ax:Hid (SB w.heap.size S w S3 w4):=(au.out.alloc _).below M
 have ak:Hid (Mem (Cx.mk z h true) J D n S3 q3 w4):=(aa.out.alloc _).later M
 clear M au aa
 obtain⟨c0,c1,c2,c3,c4,c5,c6,c7,c8,c9,aD,aI,cf⟩:=A.out.box
 have aq:q3.pos<(Cx.mk z h true).ts.length:=zaz ap (by decide)
 have aJ:q3.pos<z.length:=aq
 go_wp2_with fail
 refine (zaU (Cx.mk z h true) J D n (.ok (adv q3)) S3 (adv q3) (-1) d true _ (zU _) ((ak.out.adv aq).set A.out 1 _)).mono ?_
 rintro e w5 ⟨S5,q5,z5,n5,rfl,i5,m5,s5⟩
 replace o:=zc ((o.out.set_other (by omega) 1 _).stp s5)
 replace j:=zc ((j.out.set_other (by omega) 1 _).stp s5)
 replace A:=zc ((A.out.at1 _).stp s5)
 have ac:Hid (SB w.heap.size S w S5 w5):=(ax.out.set (by omega) 1 _).step s5
 clear ax
 have I:=zc m5
 have O:=zc i5
 clear i5 m5 s5 ak
 clear c0 c1 c2 c3 c4 c5 c6 c7 c8 c9 aD aI cf
 have aL:w.heap.size+1<w5.heap.size:=j.out.lt
 have aB:w3.heap.size<w5.heap.size:=A.out.lt
 cases hc:(decide (z5<0)&&isT (Cx.mk z h true) q5.pos 4 zm) with
 |true=>
  unfold pv
  go_wp2_with fail
  refine (zg (Cx.mk z h true) J D n S5 q5 z5 d 4 zm _ (I.out.alloc _).tok K (by decide)).mono ?_
  rintro e w6 ⟨rfl,E⟩
  rw[hc]
  replace o:=zc ((o.out.alloc _).below E)
  replace j:=zc ((j.out.alloc _).below E)
  replace A:=zc ((A.out.alloc _).below E)
  replace H:=zc ((Bx.new I.out _).below E)
  have X:Hid (SB w.heap.size S w S5 w6):=(ac.out.alloc _).below E
  have Y:Hid (Mem (Cx.mk z h true) J D n S5 q5 w6):=(I.out.alloc _).later E
  clear E ac I
  obtain⟨d0,d1,d2,d3,d4,d5,d6,d7,d8,d9,N,U,df⟩:=H.out.box
  go_wp2_with fail
  refine (zab (Cx.mk z h true) J D n _ S5 q5 z5 d zm _ O.out.fst Y.out).mono ?_
  rintro e w7 ⟨S7,q7,z7,rfl,i7,m7,L⟩
  replace o:=zc (o.out.stp L)
  replace j:=zc (j.out.stp L)
  replace A:=zc (A.out.stp L)
  replace H:=zc (H.out.stp L)
  have ab:=zc (X.out.step L)
  clear X
  have Z:=zc m7
  have ae:=zc i7
  clear i7 m7 L Y
  clear d0 d1 d2 d3 d4 d5 d6 d7 d8 d9 N U df
  go_wp2_with fail
  refine (zab (Cx.mk z h true) J D n _ S7 q7 z7 d zay _ ae.out Z.out).mono ?_
  rintro e w8 ⟨S8,q8,z8,rfl,i8,m8,s8⟩
  replace o:=zc (o.out.stp s8)
  replace j:=zc (j.out.stp s8)
  replace A:=zc (A.out.stp s8)
  replace H:=zc (H.out.stp s8)
  have al:=zc (ab.out.step s8)
  clear ab
  have am:=zc m8
  have ar:=zc i8
  clear i8 m8 s8 Z
  obtain⟨d0,d1,d2,d3,d4,d5,d6,d7,d8,d9,N,U,df⟩:=H.out.box
  unfold pv
  go_wp2_with fail
  refine (zc3 (Cx.mk z h true) J D n _ S8 q8 z8 d ⟨5,0,n3,n5,0,0⟩ _ ar.out (am.out.put H.out ..) (zaZ ar.out)).mono ?_
  rintro e w9 ⟨S9,q9,z9,rfl,i9,m9,s9⟩
  replace o:=zc ((o.out.other (by omega) ..).stp s9)
  replace j:=zc ((j.out.other (by omega) ..).stp s9)
  replace A:=zc ((A.out.other (by omega) ..).stp s9)
  replace H:=zc ((H.out.put ..).stp s9)
  have aE:Hid (SB w.heap.size S w S9 w9):=(al.out.put (by omega) ..).step s9
  clear al
  have aC:=zc m9
  have aG:=zc i9
  clear i9 m9 s9 am
  clear d0 d1 d2 d3 d4 d5 d6 d7 d8 d9 N U df
  obtain⟨b0,b1,b2,b3,b4,b5,b6,b7,b8,b9,aF,aH,bf⟩:=j.out.box
  unfold pv
  go_wp2
  refine bodyPost_ret (results_cell_row rfl _ _ (w.heap.size+1) 53 _ (0,0) _ rfl ((j.out.put ..)).heap Tryz.underlying53 rfl (by kernel_rfl)) rfl ?_
  rw[HV.out,←HQ.out,←aj.out,←zja O.out hc]
  exact zW rfl aG.out (aC.out.put j.out ..) (aE.out.put (by omega) ..)
 |false=>
  unfold pv
  go_wp2_with fail
  refine (zg (Cx.mk z h true) J D n S5 q5 z5 d 4 zm _ (I.out.alloc _).tok K (by decide)).mono ?_
  rintro e w6 ⟨rfl,E⟩
  rw[hc]
  replace o:=zc ((o.out.alloc _).below E)
  replace j:=zc ((j.out.alloc _).below E)
  replace A:=zc ((A.out.alloc _).below E)
  replace H:=zc ((Bx.new I.out _).below E)
  have X:Hid (SB w.heap.size S w S5 w6):=(ac.out.alloc _).below E
  have Y:Hid (Mem (Cx.mk z h true) J D n S5 q5 w6):=(I.out.alloc _).later E
  clear E ac I
  obtain⟨d0,d1,d2,d3,d4,d5,d6,d7,d8,d9,N,U,df⟩:=H.out.box
  go_wp2_with fail
  refine (zc3 (Cx.mk z h true) J D n _ S5 q5 z5 d ⟨4,0,n3,n5,0,0⟩ _ O.out.fst Y.out (zjc O.out)).mono ?_
  rintro e w7 ⟨S7,q7,z7,rfl,i7,m7,L⟩
  replace o:=zc (o.out.stp L)
  replace j:=zc (j.out.stp L)
  replace A:=zc (A.out.stp L)
  replace H:=zc (H.out.stp L)
  have ab:=zc (X.out.step L)
  clear X
  have Z:=zc m7
  have ae:=zc i7
  clear i7 m7 L Y
  clear d0 d1 d2 d3 d4 d5 d6 d7 d8 d9 N U df
  obtain⟨b0,b1,b2,b3,b4,b5,b6,b7,b8,b9,aF,aH,bf⟩:=j.out.box
  unfold pv
  go_wp2
  refine bodyPost_ret (results_cell_row rfl _ _ (w.heap.size+1) 53 _ (0,0) _ rfl ((j.out.put ..)).heap Tryz.underlying53 rfl (by kernel_rfl)) rfl ?_
  rw[HV.out,←HQ.out,←aj.out,←zjb O.out hc]
  exact zW rfl ae.out (Z.out.put j.out ..) (ab.out.put (by omega) ..)
theorem zpe (j:List Tk) (h:Nat) (D A o:Nat) (S:Sv) (q:PS) (d:Nat) (w:World) (K:Mem (Cx.mk j h false) D A o S q w) (Y: ¬q.pos<(Cx.mk j h false).ts.length):
  Calls Tryz.prog 168 #[pv (Cx.mk j h false) D A S q (-1) d] w (Out (Cx.mk j h false) D A o (pE (Cx.mk j h false) .part d q) d S w):=by
 have HM:=zc K
 have J:=K.tok
 have U:(Cx.mk j h false).ts.length≤4000:=K.few
 have ah:=(zak K.tok).1
 clear K
 have hk:((ze (Cx.mk j h false) q.pos).kind==2)=false:=by rw[zdb (by omega)];rfl
 have ho:isT (Cx.mk j h false) q.pos 4 zm=false:=zeo Y (by decide)
 have hu:isT (Cx.mk j h false) q.pos 1 za4=false:=zeo Y (by decide)
 have hn:zB (Cx.mk j h false) q.pos false=false:=zfP Y
 have HV:Hid (pE (Cx.mk j h false) .part d q= .error (zq (Cx.mk j h false) q.pos)):=by show pE (Cx.mk j h false) .part d q=_;rw[zbv,hk,ho,zh,hn];rfl
 have am: ¬q.pos<j.length:=Y
 unfold pv
 go_enter Tryz.func168,Tryz.ntmps168
 go_wp2_with fail
 refine (zg (Cx.mk j h false) D A o S q (-1) d 4 zm _ (zo (zo J _) _) U (by decide)).mono ?_
 rintro e w1 ⟨rfl,O⟩
 rw[ho]
 obtain⟨H,M,m1,t1⟩:=HM.out.two O
 have z:=zc H
 have n:=zc M
 have N:=zc m1
 have V:=zc t1
 clear H M m1 t1 O
 obtain⟨a0,a1,a2,a3,a4,a5,a6,a7,a8,a9,ab,ac,af⟩:=z.out.box
 go_wp2_with fail
 refine (zaU (Cx.mk j h false) D A o (.ok q) S q (-1) d false _ (zU q) N.out).mono ?_
 rintro e w2 ⟨I,q2,z2,n2,rfl,i2,m2,X⟩
 replace z:=zc (z.out.stp X)
 replace n:=zc (n.out.stp X)
 have L:=zc (V.out.step X)
 clear V
 have E:=zc m2
 have ad:=zc i2
 clear i2 m2 X N
 clear a0 a1 a2 a3 a4 a5 a6 a7 a8 a9 ab ac af
 obtain rfl:=zf1 ad.out hn
 have dz:decide ((0:Int)≤(zq (Cx.mk j h false) q.pos:Int))=true:=decide_eq_true (by omega)
 have ag:w.heap.size+1<w2.heap.size:=n.out.lt
 unfold pv
 go_upto_region 17 with fail
 refine zJ (R:=fun W=>Bx D I W (w.heap.size) _∧Bx D I W (w.heap.size+1) _∧Bx D I W (w2.heap.size) _∧Mem (Cx.mk j h false) D A o I q2 W∧SB w.heap.size S w I W) ⟨(z.out.alloc _),(n.out.alloc _),(Bx.new E.out _),(E.out.alloc _),(L.out.alloc _)⟩ ?_
 clear z n L E
 rintro w3 ⟨H,M,X2,m3,t3⟩
 have z:=zc H
 have n:=zc M
 have Z:=zc X2
 have aa:=zc m3
 have ae:=zc t3
 clear m3 t3 H M X2
 obtain⟨b0,b1,b2,b3,b4,b5,b6,b7,b8,b9,aj,ak,bf⟩:=n.out.box
 obtain⟨c0,c1,c2,c3,c4,c5,c6,c7,c8,c9,ai,al,cf⟩:=Z.out.box
 go_wp2
 refine bodyPost_ret (results_cell_row rfl _ _ (w.heap.size+1) 53 _ (0,0) _ rfl ((n.out.put ..)).heap Tryz.underlying53 rfl (by kernel_rfl)) rfl ?_
 rw[HV.out]
 exact zW rfl (show Is (.error (zq (Cx.mk j h false) q.pos)) q2 _ from rfl) (aa.out.put n.out ..) (ae.out.put (by omega) ..)
theorem zpf (j:List Tk) (h:Nat) (D A o:Nat) (S:Sv) (q:PS) (d:Nat) (w:World) (K:Mem (Cx.mk j h false) D A o S q w) (hk:((ze (Cx.mk j h false) q.pos).kind==2)=false) (ho:isT (Cx.mk j h false) q.pos 4 zm=false) (hp:q.pos<(Cx.mk j h false).ts.length) (hn:zB (Cx.mk j h false) q.pos false=false):
  Calls Tryz.prog 168 #[pv (Cx.mk j h false) D A S q (-1) d] w (Out (Cx.mk j h false) D A o (pE (Cx.mk j h false) .part d q) d S w):=by
 have HM:=zc K
 have E:=K.tok
 have U:(Cx.mk j h false).ts.length≤4000:=K.few
 have ag:=(zak K.tok).1
 clear K
 have HV:Hid (pE (Cx.mk j h false) .part d q= .error (zq (Cx.mk j h false) q.pos)):=by show pE (Cx.mk j h false) .part d q=_;rw[zbv,hk,ho,zh,hn];rfl
 have al:q.pos<j.length:=hp
 obtain⟨c0,_,_,_⟩:=E.cells hp (d:=⟨0,sNone,0,(Cx.mk j h false).fin⟩)
 change _=some (Value.int .i64 (ze (Cx.mk j h false) q.pos).kind) at c0
 generalize (ze (Cx.mk j h false) q.pos).kind=kd at c0 hk
 unfold pv
 go_enter Tryz.func168,Tryz.ntmps168
 go_wp2_with fail
 refine (zg (Cx.mk j h false) D A o S q (-1) d 4 zm _ (zo (zo E _) _) U (by decide)).mono ?_
 rintro e w1 ⟨rfl,O⟩
 rw[ho]
 obtain⟨I,M,m1,t1⟩:=HM.out.two O
 have z:=zc I
 have n:=zc M
 have N:=zc m1
 have V:=zc t1
 clear I M m1 t1 O
 obtain⟨a0,a1,a2,a3,a4,a5,a6,a7,a8,a9,aa,ab,af⟩:=z.out.box
 go_wp2_with fail
 refine (zaU (Cx.mk j h false) D A o (.ok q) S q (-1) d false _ (zU q) N.out).mono ?_
 rintro e w2 ⟨J,q2,z2,n2,rfl,i2,m2,X⟩
 replace z:=zc (z.out.stp X)
 replace n:=zc (n.out.stp X)
 have L:=zc (V.out.step X)
 clear V
 have H:=zc m2
 have ac:=zc i2
 clear i2 m2 X N
 clear a0 a1 a2 a3 a4 a5 a6 a7 a8 a9 aa ab af
 obtain rfl:=zf1 ac.out hn
 have dz:decide ((0:Int)≤(zq (Cx.mk j h false) q.pos:Int))=true:=decide_eq_true (by omega)
 have ae:w.heap.size+1<w2.heap.size:=n.out.lt
 unfold pv
 go_upto_region 17 with fail
 refine zJ (R:=fun W=>Bx D J W (w.heap.size) _∧Bx D J W (w.heap.size+1) _∧Bx D J W (w2.heap.size) _∧Mem (Cx.mk j h false) D A o J q2 W∧SB w.heap.size S w J W) ⟨(z.out.alloc _),(n.out.alloc _),(Bx.new H.out _),(H.out.alloc _),(L.out.alloc _)⟩ ?_
 clear z n L H
 rintro w3 ⟨I,M,X2,m3,t3⟩
 have z:=zc I
 have n:=zc M
 have Y:=zc X2
 have Z:=zc m3
 have ad:=zc t3
 clear m3 t3 I M X2
 obtain⟨b0,b1,b2,b3,b4,b5,b6,b7,b8,b9,ai,aj,bf⟩:=n.out.box
 obtain⟨c0,c1,c2,c3,c4,c5,c6,c7,c8,c9,ah,ak,cf⟩:=Y.out.box
 go_wp2
 refine bodyPost_ret (results_cell_row rfl _ _ (w.heap.size+1) 53 _ (0,0) _ rfl ((n.out.put ..)).heap Tryz.underlying53 rfl (by kernel_rfl)) rfl ?_
 rw[HV.out]
 exact zW rfl (show Is (.error (zq (Cx.mk j h false) q.pos)) q2 _ from rfl) (Z.out.put n.out ..) (ad.out.put (by omega) ..)
theorem zje (E:List Tk) (j:Nat) (D z n:Nat) (S:Sv) (q:PS) (d:Nat) (w:World) (L:Mem (Cx.mk E j false) D z n S q w) (A:Nat):
  Calls Tryz.prog 168 #[pv (Cx.mk E j false) D z S q (A:Int) d] w (Out (Cx.mk E j false) D z n (.error A) d S w):=by
 have HM:=zc L
 have K:=L.tok
 have V:(Cx.mk E j false).ts.length≤4000:=L.few
 have ah:=(zak L.tok).1
 clear L
 have hz: ¬(A:Int)<0:=by omega
 have hs: ∀k s,(decide ((A:Int)<0)&&isT (Cx.mk E j false) q.pos k s)=false:=fun k s=>by rw[decide_eq_false hz];rfl
 unfold pv
 go_enter Tryz.func168,Tryz.ntmps168
 go_wp2_with fail
 refine (zg (Cx.mk E j false) D z n S q (A:Int) d 4 zm _ (zo (zo K _) _) V (by decide)).mono ?_
 rintro e w1 ⟨rfl,U⟩
 rw[hs]
 obtain⟨I,N,m1,t1⟩:=HM.out.two U
 have o:=zc I
 have h:=zc N
 have O:=zc m1
 have X:=zc t1
 clear I N m1 t1 U
 obtain⟨a0,a1,a2,a3,a4,a5,a6,a7,a8,a9,ab,ac,af⟩:=o.out.box
 go_wp2_with fail
 refine (zaU (Cx.mk E j false) D z n (.error A) S q (A:Int) d false _ (show Is (.error A) q _ from rfl) O.out).mono ?_
 rintro e w2 ⟨J,q2,z2,n2,rfl,i2,m2,Y⟩
 replace o:=zc (o.out.stp Y)
 replace h:=zc (h.out.stp Y)
 have M:=zc (X.out.step Y)
 clear X
 have H:=zc m2
 have ad:=zc i2
 clear i2 m2 Y O
 clear a0 a1 a2 a3 a4 a5 a6 a7 a8 a9 ab ac af
 obtain rfl:z2=(A:Int):=ad.out
 have dz:decide ((0:Int)≤(A:Int))=true:=decide_eq_true (by omega)
 have ag:w.heap.size+1<w2.heap.size:=h.out.lt
 unfold pv
 go_upto_region 17 with fail
 refine zJ (R:=fun W=>Bx D J W (w.heap.size) _∧Bx D J W (w.heap.size+1) _∧Bx D J W (w2.heap.size) _∧Mem (Cx.mk E j false) D z n J q2 W∧SB w.heap.size S w J W) ⟨(o.out.alloc _),(h.out.alloc _),(Bx.new H.out _),(H.out.alloc _),(M.out.alloc _)⟩ ?_
 clear o h M H
 rintro w3 ⟨I,N,X2,m3,t3⟩
 have o:=zc I
 have h:=zc N
 have Z:=zc X2
 have aa:=zc m3
 have ae:=zc t3
 clear m3 t3 I N X2
 obtain⟨b0,b1,b2,b3,b4,b5,b6,b7,b8,b9,aj,ak,bf⟩:=h.out.box
 obtain⟨c0,c1,c2,c3,c4,c5,c6,c7,c8,c9,ai,al,cf⟩:=Z.out.box
 go_wp2
 refine bodyPost_ret (results_cell_row rfl _ _ (w.heap.size+1) 53 _ (0,0) _ rfl ((h.out.put ..)).heap Tryz.underlying53 rfl (by kernel_rfl)) rfl ?_
 exact zW rfl (show Is (.error A) q2 _ from rfl) (aa.out.put h.out ..) (ae.out.put (by omega) ..)
theorem zpg (j:List Tk) (h:Nat) (I z n:Nat) (S:Sv) (q:PS) (d:Nat) (w:World) (O:Mem (Cx.mk j h false) I z n S q w) (hk:((ze (Cx.mk j h false) q.pos).kind==2)=false) (ho:isT (Cx.mk j h false) q.pos 4 zm=false) (hp:q.pos<(Cx.mk j h false).ts.length) (hn:zB (Cx.mk j h false) q.pos false=true) (hd:isT (Cx.mk j h false) (q.pos+1) 4 cPoint=false):
  Calls Tryz.prog 168 #[pv (Cx.mk j h false) I z S q (-1) d] w (Out (Cx.mk j h false) I z n (pE (Cx.mk j h false) .part d q) d S w):=by
 have HM:=zc O
 have H:=O.tok
 have J:(Cx.mk j h false).ts.length≤4000:=O.few
 have ao:=(zak O.tok).1
 clear O
 have HV:Hid (pE (Cx.mk j h false) .part d q=zbq (Cx.mk j h false) (ze (Cx.mk j h false) q.pos).text (adv q)):=by show pE (Cx.mk j h false) .part d q=_;rw[zbv,hk,ho,zh,hn];show (if isT (Cx.mk j h false) (adv q).pos 4 cPoint then _ else _)=_;rw[zw,hd];rfl
 have ar:q.pos<j.length:=hp
 obtain⟨c0,_,_,_⟩:=H.cells hp (d:=⟨0,sNone,0,(Cx.mk j h false).fin⟩)
 change _=some (Value.int .i64 (ze (Cx.mk j h false) q.pos).kind) at c0
 generalize (ze (Cx.mk j h false) q.pos).kind=kd at c0 hk
 unfold pv
 go_enter Tryz.func168,Tryz.ntmps168
 go_wp2_with fail
 refine (zg (Cx.mk j h false) I z n S q (-1) d 4 zm _ (zo (zo H _) _) J (by decide)).mono ?_
 rintro e w1 ⟨rfl,ab⟩
 rw[ho]
 obtain⟨X0,X1,m1,t1⟩:=HM.out.two ab
 have A:=zc X0
 have o:=zc X1
 have aa:=zc m1
 have ac:=zc t1
 clear X0 X1 m1 t1 ab
 obtain⟨a0,a1,a2,a3,a4,a5,a6,a7,a8,a9,ai,ak,af⟩:=A.out.box
 go_wp2_with fail
 refine (zaU (Cx.mk j h false) I z n (.ok q) S q (-1) d false _ (zU q) aa.out).mono ?_
 rintro e w2 ⟨S2,M,z2,n2,rfl,i2,m2,s2⟩
 replace A:=zc (A.out.stp s2)
 replace o:=zc (o.out.stp s2)
 have U:=zc (ac.out.step s2)
 clear ac
 have E:=zc m2
 have V:=zc i2
 clear i2 m2 s2 aa
 clear a0 a1 a2 a3 a4 a5 a6 a7 a8 a9 ai ak af
 obtain⟨hq,rfl,Z⟩:=zf0 V.out hn
 have HQ:=zc hq
 have ad:=zc Z
 have Y:M.pos=q.pos+1:=by rw[hq];rfl
 have aj:isT (Cx.mk j h false) M.pos 4 cPoint=false:=by rw[Y];exact hd
 clear hq Z V
 have an:w.heap.size+1<w2.heap.size:=o.out.lt
 unfold pv
 clear Y
 go_wp2_with fail
 refine (zg (Cx.mk j h false) I z n S2 M (-1) d 4 cPoint _ (E.out.alloc _).tok J (by decide)).mono ?_
 rintro e w3 ⟨rfl,D⟩
 rw[aj]
 replace A:=zc ((A.out.alloc _).below D)
 replace o:=zc ((o.out.alloc _).below D)
 replace K:=zc ((Bx.new E.out _).below D)
 have X:Hid (SB w.heap.size S w S2 w3):=(U.out.alloc _).below D
 have N:Hid (Mem (Cx.mk j h false) I z n S2 M w3):=(E.out.alloc _).later D
 clear D U E
 obtain⟨c0,c1,c2,c3,c4,c5,c6,c7,c8,c9,ag,am,cf⟩:=K.out.box
 go_wp2_with fail
 refine (zgy (Cx.mk j h false) I z n S2 M d n2 _ N.out (by rw[HQ.out];simp[adv])).mono ?_
 rintro e w4 ⟨S4,q4,z4,rfl,i4,m4,L⟩
 replace A:=zc (A.out.stp L)
 replace o:=zc (o.out.stp L)
 replace K:=zc (K.out.stp L)
 have al:=zc (X.out.step L)
 clear X
 have ae:=zc m4
 have ah:=zc i4
 clear i4 m4 L N
 clear c0 c1 c2 c3 c4 c5 c6 c7 c8 c9 ag am cf
 obtain⟨b0,b1,b2,b3,b4,b5,b6,b7,b8,b9,ap,aq,bf⟩:=o.out.box
 unfold pv
 go_wp2
 refine bodyPost_ret (results_cell_row rfl _ _ (w.heap.size+1) 53 _ (0,0) _ rfl ((o.out.put ..)).heap Tryz.underlying53 rfl (by kernel_rfl)) rfl ?_
 rw[HV.out,←HQ.out,←ad.out]
 exact zW rfl ah.out (ae.out.put o.out ..) (al.out.put (by omega) ..)
theorem zph (z:List Tk) (h:Nat) (J D n:Nat) (S:Sv) (q:PS) (d:Nat) (w:World) (hm:Mem (Cx.mk z h false) J D n S q w) (hk:((ze (Cx.mk z h false) q.pos).kind==2)=false) (ho:isT (Cx.mk z h false) q.pos 4 zm=false) (hp:q.pos<(Cx.mk z h false).ts.length) (hn:zB (Cx.mk z h false) q.pos false=true) (hd:isT (Cx.mk z h false) (q.pos+1) 4 cPoint=true):
  Calls Tryz.prog 168 #[pv (Cx.mk z h false) J D S q (-1) d] w (Out (Cx.mk z h false) J D n (pE (Cx.mk z h false) .part d q) d S w):=by
 have HM:=zc hm
 have ac:=hm.tok
 have K:(Cx.mk z h false).ts.length≤4000:=hm.few
 have aJ:=(zak hm.tok).1
 clear hm
 have HV:Hid (pE (Cx.mk z h false) .part d q=bd (bd (.ok (adv (adv q))) (zh (Cx.mk z h false) true)) fun y=>zbz (Cx.mk z h false) (ze (Cx.mk z h false) q.pos).text y.2 y.1):=by show pE (Cx.mk z h false) .part d q=_;rw[zbv,hk,ho,zh,hn];show (if isT (Cx.mk z h false) (adv q).pos 4 cPoint then _ else _)=_;rw[zw,hd];rfl
 have aK:q.pos<z.length:=hp
 obtain⟨c0,_,_,_⟩:=ac.cells hp (d:=⟨0,sNone,0,(Cx.mk z h false).fin⟩)
 change _=some (Value.int .i64 (ze (Cx.mk z h false) q.pos).kind) at c0
 generalize (ze (Cx.mk z h false) q.pos).kind=kd at c0 hk
 unfold pv
 go_enter Tryz.func168,Tryz.ntmps168
 go_wp2_with fail
 refine (zg (Cx.mk z h false) J D n S q (-1) d 4 zm _ (zo (zo ac _) _) K (by decide)).mono ?_
 rintro e w1 ⟨rfl,au⟩
 rw[ho]
 obtain⟨X0,X1,m1,t1⟩:=HM.out.two au
 have o:=zc X0
 have j:=zc X1
 have ar:=zc m1
 have av:=zc t1
 clear X0 X1 m1 t1 au
 obtain⟨a0,a1,a2,a3,a4,a5,a6,a7,a8,a9,aA,aC,af⟩:=o.out.box
 go_wp2_with fail
 refine (zaU (Cx.mk z h false) J D n (.ok q) S q (-1) d false _ (zU q) ar.out).mono ?_
 rintro e w2 ⟨S2,q2,z2,n2,rfl,i2,m2,s2⟩
 replace o:=zc (o.out.stp s2)
 replace j:=zc (j.out.stp s2)
 have ak:=zc (av.out.step s2)
 clear av
 have Y:=zc m2
 have an:=zc i2
 clear i2 m2 s2 ar
 clear a0 a1 a2 a3 a4 a5 a6 a7 a8 a9 aA aC af
 obtain⟨hq,rfl,aq⟩:=zf0 an.out hn
 have HQ:=zc hq
 have ag:=zc aq
 have ap:q2.pos=q.pos+1:=by rw[hq];rfl
 have al:isT (Cx.mk z h false) q2.pos 4 cPoint=true:=by rw[ap];exact hd
 clear hq aq an
 have aH:w.heap.size+1<w2.heap.size:=j.out.lt
 unfold pv
 clear ap
 go_wp2_with fail
 refine (zg (Cx.mk z h false) J D n S2 q2 (-1) d 4 cPoint _ (Y.out.alloc _).tok K (by decide)).mono ?_
 rintro e w3 ⟨rfl,L⟩
 rw[al]
 replace o:=zc ((o.out.alloc _).below L)
 replace j:=zc ((j.out.alloc _).below L)
 replace A:=zc ((Bx.new Y.out _).below L)
 have ao:Hid (SB w.heap.size S w S2 w3):=(ak.out.alloc _).below L
 have ah:Hid (Mem (Cx.mk z h false) J D n S2 q2 w3):=(Y.out.alloc _).later L
 clear L ak Y
 obtain⟨c0,c1,c2,c3,c4,c5,c6,c7,c8,c9,ax,aF,cf⟩:=A.out.box
 have am:q2.pos<(Cx.mk z h false).ts.length:=zaz al (by decide)
 have aG:q2.pos<z.length:=am
 go_wp2_with fail
 refine (zaU (Cx.mk z h false) J D n (.ok (adv q2)) S2 (adv q2) (-1) d true _ (zU _) ((ah.out.adv am).set A.out 1 _)).mono ?_
 rintro e w4 ⟨S4,q4,z4,n4,rfl,i4,m4,s4⟩
 replace o:=zc ((o.out.set_other (by omega) 1 _).stp s4)
 replace j:=zc ((j.out.set_other (by omega) 1 _).stp s4)
 replace A:=zc ((A.out.at1 _).stp s4)
 have aa:Hid (SB w.heap.size S w S4 w4):=(ao.out.set (by omega) 1 _).step s4
 clear ao
 have I:=zc m4
 have V:=zc i4
 clear i4 m4 s4 ah
 clear c0 c1 c2 c3 c4 c5 c6 c7 c8 c9 ax aF cf
 have aI:w.heap.size+1<w4.heap.size:=j.out.lt
 have aw:w2.heap.size<w4.heap.size:=A.out.lt
 cases hc:(decide (z4<0)&&isT (Cx.mk z h false) q4.pos 4 zm) with
 |true=>
  unfold pv
  go_wp2_with fail
  refine (zg (Cx.mk z h false) J D n S4 q4 z4 d 4 zm _ (I.out.alloc _).tok K (by decide)).mono ?_
  rintro e w5 ⟨rfl,E⟩
  rw[hc]
  replace o:=zc ((o.out.alloc _).below E)
  replace j:=zc ((j.out.alloc _).below E)
  replace A:=zc ((A.out.alloc _).below E)
  replace H:=zc ((Bx.new I.out _).below E)
  have X:Hid (SB w.heap.size S w S4 w5):=(aa.out.alloc _).below E
  have O:Hid (Mem (Cx.mk z h false) J D n S4 q4 w5):=(I.out.alloc _).later E
  clear E aa I
  obtain⟨d0,d1,d2,d3,d4,d5,d6,d7,d8,d9,N,U,df⟩:=H.out.box
  go_wp2_with fail
  refine (zab (Cx.mk z h false) J D n _ S4 q4 z4 d zm _ V.out.fst O.out).mono ?_
  rintro e w6 ⟨S6,q6,z6,rfl,i6,m6,M⟩
  replace o:=zc (o.out.stp M)
  replace j:=zc (j.out.stp M)
  replace A:=zc (A.out.stp M)
  replace H:=zc (H.out.stp M)
  have Z:=zc (X.out.step M)
  clear X
  have ab:=zc m6
  have ad:=zc i6
  clear i6 m6 M O
  clear d0 d1 d2 d3 d4 d5 d6 d7 d8 d9 N U df
  go_wp2_with fail
  refine (zab (Cx.mk z h false) J D n _ S6 q6 z6 d zay _ ad.out ab.out).mono ?_
  rintro e w7 ⟨S7,q7,z7,rfl,i7,m7,s7⟩
  replace o:=zc (o.out.stp s7)
  replace j:=zc (j.out.stp s7)
  replace A:=zc (A.out.stp s7)
  replace H:=zc (H.out.stp s7)
  have ai:=zc (Z.out.step s7)
  clear Z
  have ae:=zc m7
  have aj:=zc i7
  clear i7 m7 s7 ab
  obtain⟨d0,d1,d2,d3,d4,d5,d6,d7,d8,d9,N,U,df⟩:=H.out.box
  unfold pv
  go_wp2_with fail
  refine (zc3 (Cx.mk z h false) J D n _ S7 q7 z7 d ⟨5,0,n2,n4,0,0⟩ _ aj.out (ae.out.put H.out ..) (zaZ aj.out)).mono ?_
  rintro e w8 ⟨S8,q8,z8,rfl,i8,m8,s8⟩
  replace o:=zc ((o.out.other (by omega) ..).stp s8)
  replace j:=zc ((j.out.other (by omega) ..).stp s8)
  replace A:=zc ((A.out.other (by omega) ..).stp s8)
  replace H:=zc ((H.out.put ..).stp s8)
  have ay:Hid (SB w.heap.size S w S8 w8):=(ai.out.put (by omega) ..).step s8
  clear ai
  have az:=zc m8
  have aD:=zc i8
  clear i8 m8 s8 ae
  clear d0 d1 d2 d3 d4 d5 d6 d7 d8 d9 N U df
  obtain⟨b0,b1,b2,b3,b4,b5,b6,b7,b8,b9,aB,aE,bf⟩:=j.out.box
  unfold pv
  go_wp2
  refine bodyPost_ret (results_cell_row rfl _ _ (w.heap.size+1) 53 _ (0,0) _ rfl ((j.out.put ..)).heap Tryz.underlying53 rfl (by kernel_rfl)) rfl ?_
  rw[HV.out,←HQ.out,←ag.out,←zja V.out hc]
  exact zW rfl aD.out (az.out.put j.out ..) (ay.out.put (by omega) ..)
 |false=>
  unfold pv
  go_wp2_with fail
  refine (zg (Cx.mk z h false) J D n S4 q4 z4 d 4 zm _ (I.out.alloc _).tok K (by decide)).mono ?_
  rintro e w5 ⟨rfl,E⟩
  rw[hc]
  replace o:=zc ((o.out.alloc _).below E)
  replace j:=zc ((j.out.alloc _).below E)
  replace A:=zc ((A.out.alloc _).below E)
  replace H:=zc ((Bx.new I.out _).below E)
  have X:Hid (SB w.heap.size S w S4 w5):=(aa.out.alloc _).below E
  have O:Hid (Mem (Cx.mk z h false) J D n S4 q4 w5):=(I.out.alloc _).later E
  clear E aa I
  obtain⟨d0,d1,d2,d3,d4,d5,d6,d7,d8,d9,N,U,df⟩:=H.out.box
  go_wp2_with fail
  refine (zc3 (Cx.mk z h false) J D n _ S4 q4 z4 d ⟨4,0,n2,n4,0,0⟩ _ V.out.fst O.out (zjc V.out)).mono ?_
  rintro e w6 ⟨S6,q6,z6,rfl,i6,m6,M⟩
  replace o:=zc (o.out.stp M)
  replace j:=zc (j.out.stp M)
  replace A:=zc (A.out.stp M)
  replace H:=zc (H.out.stp M)
  have Z:=zc (X.out.step M)
  clear X
  have ab:=zc m6
  have ad:=zc i6
  clear i6 m6 M O
  clear d0 d1 d2 d3 d4 d5 d6 d7 d8 d9 N U df
  obtain⟨b0,b1,b2,b3,b4,b5,b6,b7,b8,b9,aB,aE,bf⟩:=j.out.box
  unfold pv
  go_wp2
  refine bodyPost_ret (results_cell_row rfl _ _ (w.heap.size+1) 53 _ (0,0) _ rfl ((j.out.put ..)).heap Tryz.underlying53 rfl (by kernel_rfl)) rfl ?_
  rw[HV.out,←HQ.out,←ag.out,←zjb V.out hc]
  exact zW rfl ad.out (ab.out.put j.out ..) (Z.out.put (by omega) ..)
def zgz (C:Cx) (gt cap base m:Nat):Prop:=∀(x:PR) (S:Sv) (q:PS) (z:Int) (d:Nat) (w:World),Is x q z→Mem C gt cap base S q w→(z<0→C.ts.length-q.pos<m)→d≤20→
 Calls Tryz.prog 168 #[pv C gt cap S q z d] w (Out C gt cap base (bd x (pE C .part d)) d S w)
def zjf (C:Cx) (gt cap base m:Nat):Prop:=∀(x:PR) (S:Sv) (q:PS) (z:Int) (d:Nat) (w:World),Is x q z→Mem C gt cap base S q w→(z<0→C.ts.length-q.pos<m)→d≤20→
 Calls Tryz.prog 136 #[pv C gt cap S q z d] w (Out C gt cap base (bd x (pE C .prod d)) d S w)
theorem SumOK.mono {C:Cx} {o n j m k:Nat} (h:SumOK C o n j m) (I:k≤m):SumOK C o n j k:=fun x S q z d w A E D H=>h x S q z d w A E (fun g=>Nat.lt_of_lt_of_le (D g) I) H
theorem zpi {C:Cx} {A n h m:Nat} (Y:SumOK C A n h m):zgz C A n h (m+1):=by
 intro x S q z d w V D X J
 by_cases O:z<0
 ·obtain⟨rfl,rfl⟩:=za7 V O
  rw[zx]
  have U:SumOK C A n h (C.ts.length-q.pos):=Y.mono (by have:=X O;omega)
  cases H:((ze C q.pos).kind==2) with
  |true=>exact zoW C A n h S q d w D H
  |false=>
   cases I:isT C q.pos 4 zm with
   |true=>
    by_cases N:20≤d
    ·exact zoX C A n h S q d w D H I N J
    ·exact zoY C A n h S q d w D H I (by omega) U
   |false=>
    obtain⟨o,j,K⟩:=C
    cases K with
    |true=>
     by_cases E:q.pos<o.length
     ·cases M:isT (Cx.mk o j true) q.pos 1 za4 with
      |true=>exact zpb o j A n h S q d w D H I E M
      |false=>
       cases L:zB (Cx.mk o j true) q.pos false with
       |false=>exact zpa o j A n h S q d w D H I E M L
       |true=>
        cases J:isT (Cx.mk o j true) (q.pos+1) 4 cPoint with
        |false=>exact zpc o j A n h S q d w D H I E M L J
        |true=>exact zpd o j A n h S q d w D H I E M L J
     ·exact zoZ o j A n h S q d w D E
    |false=>
     by_cases E:q.pos<o.length
     ·cases L:zB (Cx.mk o j false) q.pos false with
      |false=>exact zpf o j A n h S q d w D H I E L
      |true=>
       cases J:isT (Cx.mk o j false) (q.pos+1) 4 cPoint with
       |false=>exact zpg o j A n h S q d w D H I E L J
       |true=>exact zph o j A n h S q d w D H I E L J
     ·exact zpe o j A n h S q d w D E
 ·obtain⟨e,rfl,rfl⟩:=zcN V O
  rw[zd7]
  obtain⟨o,j,K⟩:=C
  cases K with
  |true=>exact zjd o j A n h S q d w D e
  |false=>exact zje o j A n h S q d w D e
theorem zg0 {C:Cx} {x:PR} {q:PS} {z:Int} (h:Is x q z) (F:PS→Ex):bd x (zM C (F q))=bd x fun q'=>zM C (F q') q':=by
 cases x with
 |ok a=>obtain⟨rfl,_⟩:=h;rfl
 |error e=>rfl
theorem zjg {C:Cx} {y:PS→Ex} {x:PR} {q:PS} {n:Nat} (w: ∀a,x= .ok a→n≤a.pos) (h:(bd x fun q'=>zM C (y q') q')= .ok q):n≤q.pos:=by
 obtain⟨a,j,o⟩:=zi h
 obtain⟨rfl,_⟩:=zb1 o
 exact w a j
theorem zpj {C:Cx} {d m:Nat} {x:PR} {q j:PS} {z h:Int} (D:Is x q z) (n:Is (bd x (pE C .part d)) j h) (w:z<0→C.ts.length-q.pos<m) (A:h<0):C.ts.length-j.pos<m:=by
 obtain⟨e,_⟩:=za7 n A
 obtain⟨a,o,E⟩:=zi e
 subst o
 obtain⟨rfl,rfl⟩:=D
 have:=zaP E
 have:=w (by decide)
 omega
theorem zpk {C:Cx} {d m:Nat} {x:PR} {q j:PS} {z h:Int} (D:Is x q z) (n:Is (bd x (pE C .prod d)) j h) (w:z<0→C.ts.length-q.pos<m) (A:h<0):C.ts.length-j.pos<m:=by
 obtain⟨e,_⟩:=za7 n A
 obtain⟨a,o,E⟩:=zi e
 subst o
 obtain⟨rfl,rfl⟩:=D
 have:=zaP E
 have:=w (by decide)
 omega
theorem zpl {C:Cx} {d:Nat} {j q:PS} {z:Int} (h:Is (bd (.ok (adv j)) (pE C .part d)) q z) (n:z<0):1≤q.pos:=by
 obtain⟨e,_⟩:=za7 h n
 have:=zaP (show pE C .part d (adv j)= .ok q from e)
 rw[zw] at this
 omega
theorem zjh {C:Cx} {d:Nat} {j q:PS} {z:Int} (h:Is (bd (.ok (adv j)) (pE C .prod d)) q z) (n:z<0):1≤q.pos:=by
 obtain⟨e,_⟩:=za7 h n
 have:=zaP (show pE C .prod d (adv j)= .ok q from e)
 rw[zw] at this
 omega
theorem zpm {C:Cx} {d:Nat} {F:PS→Ex} {j q:PS} {z:Int} (h:Is (bd (bd (.ok (adv j)) (pE C .part d)) fun q'=>zM C (F q') q') q z) (o:z<0):j.pos+1≤q.pos:=by
 obtain⟨e,_⟩:=za7 h o
 exact zjg (fun a n=>by have:=zaP (show pE C .part d (adv j)= .ok a from n);rw[zw] at this;exact this) e
theorem zji {C:Cx} {d:Nat} {F:PS→Ex} {j q:PS} {z:Int} (h:Is (bd (bd (.ok (adv j)) (pE C .prod d)) fun q'=>zM C (F q') q') q z) (o:z<0):j.pos+1≤q.pos:=by
 obtain⟨e,_⟩:=za7 h o
 exact zjg (fun a n=>by have:=zaP (show pE C .prod d (adv j)= .ok a from n);rw[zw] at this;exact this) e
theorem zpn {C:Cx} {d:Nat} {q:PS} (h:isT C q.pos 4 zv=true) (_:q.pos<C.ts.length):
  bd (.ok q) (pE C .prodT d)=bd (bd (bd (.ok (adv q)) (pE C .part d)) fun q'=>zM C ⟨8,0,sNone,sNone,(q.ex.length:Int)-1,(q'.ex.length:Int)-1⟩ q') (pE C .prodT d):=by
 show pE C .prodT d q=_
 rw[zeJ,if_pos h]
 rfl
theorem zjj {C:Cx} {d:Nat} {q:PS} {k:Int} (h:(isT C q.pos 4 zbN||isT C q.pos 4 zaT)=true) (j:zcH C q.pos=k) (_:q.pos<C.ts.length):
  bd (.ok q) (pE C .sumT d)=bd (bd (bd (.ok (adv q)) (pE C .prod d)) fun q'=>zM C ⟨k,0,sNone,sNone,(q.ex.length:Int)-1,(q'.ex.length:Int)-1⟩ q') (pE C .sumT d):=by
 show pE C .sumT d q=_
 rw[zeg,if_pos h,j]
 rfl
theorem zpo {C:Cx} {d:Nat} {x:PR} {q:PS} {z:Int} (h:Is x q z) (j:(decide (z<0)&&isT C q.pos 4 zv)=false):Is (bd x (pE C .prodT d)) q z:=by
 cases x with
 |ok a=>
  obtain⟨rfl,rfl⟩:=h
  rw[Bool.and_eq_false_iff] at j
  rw[zx,zeJ,j.resolve_left (by decide)]
  exact⟨rfl,rfl⟩
 |error e=>exact h
theorem zpp {C:Cx} {d:Nat} {x:PR} {q:PS} {z:Int} (j:Is x q z) (n:(decide (z<0)&&isT C q.pos 4 zbN)=false) (h:(decide (z<0)&&isT C q.pos 4 zaT)=false):Is (bd x (pE C .sumT d)) q z:=by
 cases x with
 |ok a=>
  obtain⟨rfl,rfl⟩:=j
  rw[Bool.and_eq_false_iff] at n h
  rw[zx,zeg,n.resolve_left (by decide),h.resolve_left (by decide)]
  exact⟨rfl,rfl⟩
 |error e=>exact j
theorem zpq {C:Cx} {i:Nat} (h:isT C i 4 zbN=true):isT C i 4 zaT=false:=by
 simp only[isT,Bool.and_eq_true,beq_iff_eq] at h
 simp only[isT,h.2]
 rw[Bool.and_eq_false_iff]
 exact .inr (by simp)
theorem zjk {C:Cx} {U H D m:Nat} (hP:zgz C U H D m):zjf C U H D m:=by
 intro x S q z d w hx hm hl ag
 have HP:=zc hP
 have HM:=zc hm
 have HX:=zc hx
 have HL:=zc hl
 have ae:=hm.few
 clear hP hm hx hl
 unfold pv
 go_enter Tryz.func136,Tryz.ntmps136
 go_wp2_with fail
 refine (HP.out x S q z d _ HX.out ((HM.out.alloc _).alloc _) HL.out ag).mono ?_
 rintro e w1 ⟨S1,q1,z1,rfl,i1,m1,s1⟩
 obtain⟨X0,X1,t1⟩:=HM.out.two2 s1
 have j:=zc X0
 have n:=zc X1
 have av:=zc m1
 have aw:=zc t1
 have ak:=zc i1
 clear X0 X1 i1 m1 t1 s1
 obtain⟨O,Y,N,L,a4,a5,Z,a7,V,X,o,A,af⟩:=j.out.box
 unfold pv
 go_wp2
 go_loopg [] (C.ts.length+1) (fun k wr=>∃(x':PR) (J:Sv) (I:PS) (z':Int),Is x' I z'∧bd x' (pE C .prodT d)=bd x (pE C .prod d)∧(z'<0→C.ts.length-I.pos<k)∧(z'<0→C.ts.length-I.pos<m)∧Mem C U H D J I wr∧SB w.heap.size S w J wr∧Bx U J wr w.heap.size #[.slice (some ⟨U,0,none⟩) C.ts.length H,.int .i64 I.pos,.int .i64 C.fin,.bool C.scr,.slice J.rq.a I.rq.length J.rq.cap,.slice J.im.a I.im.length J.im.cap,.slice J.ep.a I.ep.length J.ep.cap,.slice J.st.a I.st.length J.st.cap,.slice J.ex.a I.ex.length J.ex.cap,.slice J.la.a I.la.length J.la.cap,.int .i64 z',.int .i64 d]∧Bx U J wr (w.heap.size+1) #[.slice none 0 0,.int .i64 0,.int .i64 0,.bool false,.slice none 0 0,.slice none 0 0,.slice none 0 0,.slice none 0 0,.slice none 0 0,.slice none 0 0,.int .i64 0,.int .i64 0])
 case atStart=>exact⟨_,S1,q1,z1,ak.out,by rw[zK];exact zZ fun a _=>(zgI C d a).symm,fun _=>by omega,fun hz=>zpj HX.out ak.out HL.out hz,(av.out.put j.out ..),(aw.out.put (by omega) ..),(j.out.put ..),(n.out.other (by omega) ..)⟩
 case round=>
  obtain⟨x2,S2,M,z2,i2,e2,l2,b2,m2,t2,X0,X1⟩:=hrel
  have j:=zc X0
  have n:=zc X1
  have K:=zc m2
  have ab:=zc t2
  have al:=zc i2
  have ao:=zc e2
  have ap:=zc l2
  have aq:=zc b2
  have aA:=m2.inv.ex
  clear X0 X1 i2 m2 t2 e2 l2 b2
  cases hc:(decide (z2<0)&&isT C M.pos 4 zv) with
  |true=>
   obtain⟨O,Y,N,L,a4,a5,Z,a7,V,X,o,A,af⟩:=j.out.box
   go_wp2_with fail
   refine (zg C U H D S2 M z2 d 4 zv _ K.out.tok ae (by decide)).mono ?_
   rintro e w3 ⟨rfl,E⟩
   rw[hc]
   replace j:=zc (j.out.below E)
   replace n:=zc (n.out.below E)
   have ac:=zc (ab.out.below E)
   have aa:=zc (K.out.later E)
   clear E ab K
   clear O Y N L a4 a5 Z a7 V X o A af
   rw[Bool.and_eq_true,decide_eq_true_eq] at hc
   obtain⟨hz,hs⟩:=hc
   have hp:M.pos<C.ts.length:=zaz hs (by decide)
   obtain⟨rfl,rfl⟩:=za7 al.out hz
   have aD:=ap.out hz
   have az:=aq.out hz
   skip
   obtain⟨O,Y,N,L,a4,a5,Z,a7,V,X,o,A,af⟩:=j.out.box
   go_wp2_with fail
   refine (HP.out (.ok (adv M)) S2 (adv M) (-1) d _ (zU _) ((aa.out.adv hp).set j.out 1 _) (fun _=>by rw[zw];omega) ag).mono ?_
   rintro e w4 ⟨S4,q4,z4,rfl,i4,m4,s4⟩
   replace j:=zc ((j.out.at1 _).stp s4)
   replace n:=zc ((n.out.set_other (by omega) 1 _).stp s4)
   have am:Hid (SB w.heap.size S w S4 w4):=(ac.out.set (by omega) 1 _).step s4
   clear ac
   have aj:=zc m4
   have ai:=zc i4
   clear i4 m4 s4 aa
   clear O Y N L a4 a5 Z a7 V X o A af
   obtain⟨O,Y,N,L,a4,a5,Z,a7,V,X,o,A,af⟩:=j.out.box
   unfold pv
   go_upto_region 6 with fail
   refine zJ (R:=fun W=>Bx U S4 W (w.heap.size) _∧Bx U S4 W (w.heap.size+1) _∧Mem C U H D S4 q4 W∧SB w.heap.size S w S4 W) ⟨(j.out.put ..),(n.out.other (by omega) ..),(aj.out.put j.out ..),(am.out.put (by omega) ..)⟩ ?_
   clear O Y N L a4 a5 Z a7 V X o A af
   clear j n am aj
   rintro w5 ⟨X0,X1,m5,t5⟩
   have j:=zc X0
   have n:=zc X1
   have ah:=zc m5
   have an:=zc t5
   clear m5 t5 X0 X1
   obtain⟨O,Y,N,L,a4,a5,Z,a7,V,X,o,A,af⟩:=j.out.box
   have ay:=ah.out.inv.ex
   go_wp2_with fail
   refine (zc3 C U H D _ S4 q4 z4 d ⟨8,0,sNone,sNone,(M.ex.length:Int)-1,(q4.ex.length:Int)-1⟩ _ ai.out ah.out (fun h=>zpl ai.out h)).mono ?_
   rintro e w6 ⟨S6,q6,z6,rfl,i6,m6,s6⟩
   replace j:=zc (j.out.stp s6)
   replace n:=zc (n.out.stp s6)
   have ar:=zc (an.out.step s6)
   clear an
   have au:=zc m6
   have ax:=zc i6
   clear i6 m6 s6 ah
   clear O Y N L a4 a5 Z a7 V X o A af
   have HI:Hid (Is (bd (bd (.ok (adv M)) (pE C .part d)) fun I=>zM C ⟨8,0,sNone,sNone,(M.ex.length:Int)-1,(I.ex.length:Int)-1⟩ I) q6 z6):=by rw[←zg0 ai.out (fun I=>⟨8,0,sNone,sNone,(M.ex.length:Int)-1,(I.ex.length:Int)-1⟩)];exact ax.out
   have ad:Hid (z6<0→M.pos+1≤q6.pos):=fun h=>zpm HI.out h
   obtain⟨O,Y,N,L,a4,a5,Z,a7,V,X,o,A,af⟩:=j.out.box
   unfold pv
   go_wp2
   go_roundg (gk-1)
   case rel=>exact⟨_,S6,q6,z6,HI.out,by rw[←ao.out];exact (zpn (d:=d) hs hp).symm,fun h=>by have:=ad.out h;omega,fun h=>by have:=ad.out h;omega,(au.out.put j.out ..),(ar.out.put (by omega) ..),(j.out.put ..),(n.out.other (by omega) ..)⟩
   case measure=>omega
  |false=>
   obtain⟨O,Y,N,L,a4,a5,Z,a7,V,X,o,A,af⟩:=j.out.box
   go_wp2_with fail
   refine (zg C U H D S2 M z2 d 4 zv _ K.out.tok ae (by decide)).mono ?_
   rintro e w3 ⟨rfl,E⟩
   rw[hc]
   replace j:=zc (j.out.below E)
   replace n:=zc (n.out.below E)
   have ac:=zc (ab.out.below E)
   have aa:=zc (K.out.later E)
   clear E ab K
   clear O Y N L a4 a5 Z a7 V X o A af
   obtain⟨O,Y,N,L,a4,a5,Z,a7,V,X,o,A,af⟩:=j.out.box
   obtain⟨b0,b1,b2,b3,b4,b5,b6,b7,b8,b9,aB,aC,bf⟩:=n.out.box
   go_wp2
   refine bodyPost_ret (results_cell_row rfl _ _ (w.heap.size+1) 53 _ (0,0) _ rfl ((n.out.put ..)).heap Tryz.underlying53 rfl (by kernel_rfl)) rfl ?_
   exact zW rfl (show Is (bd x (pE C .prod d)) M z2 from by rw[←ao.out];exact zpo al.out hc) (aa.out.put n.out ..) (ac.out.put (by omega) ..)
theorem zjl {C:Cx} {gt I D m:Nat} (hP:zjf C gt I D m):SumOK C gt I D m:=by
 intro x S q z d w hx hm hl aq
 have HP:=zc hP
 have HM:=zc hm
 have HX:=zc hx
 have HL:=zc hl
 have ac:=hm.few
 clear hP hm hx hl
 unfold pv
 go_enter Tryz.func75,Tryz.ntmps75
 go_wp2_with fail
 refine (HP.out x S q z d _ HX.out ((HM.out.alloc _).alloc _) HL.out aq).mono ?_
 rintro e w1 ⟨S1,q1,z1,rfl,i1,m1,s1⟩
 obtain⟨X0,X1,t1⟩:=HM.out.two2 s1
 have j:=zc X0
 have n:=zc X1
 have aJ:=zc m1
 have aL:=zc t1
 have aD:=zc i1
 clear X0 X1 i1 m1 t1 s1
 obtain⟨L,O,K,J,X,Y,U,V,M,N,o,A,Z⟩:=j.out.box
 unfold pv
 go_wp2
 go_loopg [] (C.ts.length+1) (fun k wr=>∃(x':PR) (S':Sv) (q':PS) (z':Int),Is x' q' z'∧bd x' (pE C .sumT d)=bd x (pE C .sum d)∧(z'<0→C.ts.length-q'.pos<k)∧(z'<0→C.ts.length-q'.pos<m)∧Mem C gt I D S' q' wr∧SB w.heap.size S w S' wr∧Bx gt S' wr w.heap.size #[.slice (some ⟨gt,0,none⟩) C.ts.length I,.int .i64 q'.pos,.int .i64 C.fin,.bool C.scr,.slice S'.rq.a q'.rq.length S'.rq.cap,.slice S'.im.a q'.im.length S'.im.cap,.slice S'.ep.a q'.ep.length S'.ep.cap,.slice S'.st.a q'.st.length S'.st.cap,.slice S'.ex.a q'.ex.length S'.ex.cap,.slice S'.la.a q'.la.length S'.la.cap,.int .i64 z',.int .i64 d]∧Bx gt S' wr (w.heap.size+1) #[.slice none 0 0,.int .i64 0,.int .i64 0,.bool false,.slice none 0 0,.slice none 0 0,.slice none 0 0,.slice none 0 0,.slice none 0 0,.slice none 0 0,.int .i64 0,.int .i64 0])
 case atStart=>exact⟨_,S1,q1,z1,aD.out,by rw[zK];exact zZ fun a _=>(zgH C d a).symm,fun _=>by omega,fun hz=>zpk HX.out aD.out HL.out hz,(aJ.out.put j.out ..),(aL.out.put (by omega) ..),(j.out.put ..),(n.out.other (by omega) ..)⟩
 case round=>
  obtain⟨x2,S2,H,z2,i2,e2,l2,b2,m2,t2,X0,X1⟩:=hrel
  have j:=zc X0
  have n:=zc X1
  have aj:=zc m2
  have au:=zc t2
  have aw:=zc i2
  have ax:=zc e2
  have az:=zc l2
  have aC:=zc b2
  have aM:=m2.inv.ex
  clear X0 X1 i2 m2 t2 e2 l2 b2
  cases hc:(decide (z2<0)&&isT C H.pos 4 zbN) with
  |true=>
   obtain⟨L,O,K,J,X,Y,U,V,M,N,o,A,Z⟩:=j.out.box
   go_wp2_with fail
   refine (zg C gt I D S2 H z2 d 4 zbN _ aj.out.tok ac (by decide)).mono ?_
   rintro e w3 ⟨rfl,aa⟩
   rw[hc]
   replace j:=zc (j.out.below aa)
   replace n:=zc (n.out.below aa)
   have ah:=zc (au.out.below aa)
   have ab:=zc (aj.out.later aa)
   clear aa au aj
   clear L O K J X Y U V M N o A Z
   rw[Bool.and_eq_true,decide_eq_true_eq] at hc
   obtain⟨hz,hs⟩:=hc
   have aB:isT C H.pos 4 zaT=false:=zpq hs
   have ad:(decide (z2<0)&&isT C H.pos 4 zaT)=false:=by rw[aB,Bool.and_false]
   obtain⟨L,O,K,J,X,Y,U,V,M,N,o,A,Z⟩:=j.out.box
   go_wp2_with fail
   refine (zg C gt I D S2 H z2 d 4 zaT _ ab.out.tok ac (by decide)).mono ?_
   rintro e w4 ⟨rfl,E⟩
   rw[ad]
   replace j:=zc (j.out.below E)
   replace n:=zc (n.out.below E)
   have ai:=zc (ah.out.below E)
   have ag:=zc (ab.out.later E)
   clear E ah ab
   clear L O K J X Y U V M N o A Z
   clear ad
   have hp:H.pos<C.ts.length:=zaz hs (by decide)
   obtain⟨rfl,rfl⟩:=za7 aw.out hz
   have aK:=az.out hz
   have aE:=aC.out hz
   skip
   obtain⟨L,O,K,J,X,Y,U,V,M,N,o,A,Z⟩:=j.out.box
   go_wp2_with fail
   refine (HP.out (.ok (adv H)) S2 (adv H) (-1) d _ (zU _) ((ag.out.adv hp).set j.out 1 _) (fun _=>by rw[zw];omega) aq).mono ?_
   rintro e w5 ⟨S5,q5,z5,rfl,i5,m5,s5⟩
   replace j:=zc ((j.out.at1 _).stp s5)
   replace n:=zc ((n.out.set_other (by omega) 1 _).stp s5)
   have ao:Hid (SB w.heap.size S w S5 w5):=(ai.out.set (by omega) 1 _).step s5
   clear ai
   have am:=zc m5
   have av:=zc i5
   clear i5 m5 s5 ag
   clear L O K J X Y U V M N o A Z
   obtain⟨L,O,K,J,X,Y,U,V,M,N,o,A,Z⟩:=j.out.box
   unfold pv
   go_upto_region 9 with fail
   refine zJ (R:=fun W=>Bx gt S5 W (w.heap.size) _∧Bx gt S5 W (w.heap.size+1) _∧Mem C gt I D S5 q5 W∧SB w.heap.size S w S5 W) ⟨(j.out.put ..),(n.out.other (by omega) ..),(am.out.put j.out ..),(ao.out.put (by omega) ..)⟩ ?_
   clear L O K J X Y U V M N o A Z
   clear j n ao am
   rintro w6 ⟨X0,X1,m6,t6⟩
   have j:=zc X0
   have n:=zc X1
   have ak:=zc m6
   have an:=zc t6
   clear m6 t6 X0 X1
   obtain⟨L,O,K,J,X,Y,U,V,M,N,o,A,Z⟩:=j.out.box
   have aA:=ak.out.inv.ex
   go_wp2_with fail
   refine (zc3 C gt I D _ S5 q5 z5 d ⟨6,0,sNone,sNone,(H.ex.length:Int)-1,(q5.ex.length:Int)-1⟩ _ av.out ak.out (fun h=>zjh av.out h)).mono ?_
   rintro e w7 ⟨S7,q7,z7,rfl,i7,m7,s7⟩
   replace j:=zc (j.out.stp s7)
   replace n:=zc (n.out.stp s7)
   have ar:=zc (an.out.step s7)
   clear an
   have al:=zc m7
   have aH:=zc i7
   clear i7 m7 s7 ak
   clear L O K J X Y U V M N o A Z
   have HI:Hid (Is (bd (bd (.ok (adv H)) (pE C .prod d)) fun q'=>zM C ⟨6,0,sNone,sNone,(H.ex.length:Int)-1,(q'.ex.length:Int)-1⟩ q') q7 z7):=by rw[←zg0 av.out (fun q'=>⟨6,0,sNone,sNone,(H.ex.length:Int)-1,(q'.ex.length:Int)-1⟩)];exact aH.out
   have ae:Hid (z7<0→H.pos+1≤q7.pos):=fun h=>zji HI.out h
   obtain⟨L,O,K,J,X,Y,U,V,M,N,o,A,Z⟩:=j.out.box
   unfold pv
   go_wp2
   go_roundg (gk-1)
   case rel=>exact⟨_,S7,q7,z7,HI.out,by rw[←ax.out];exact (zjj (d:=d) (by rw[hs];rfl) (show zcH C H.pos=6 by rw[zcH,aB];rfl) hp).symm,fun h=>by have:=ae.out h;omega,fun h=>by have:=ae.out h;omega,(al.out.put j.out ..),(ar.out.put (by omega) ..),(j.out.put ..),(n.out.other (by omega) ..)⟩
   case measure=>omega
  |false=>
   obtain⟨L,O,K,J,X,Y,U,V,M,N,o,A,Z⟩:=j.out.box
   go_wp2_with fail
   refine (zg C gt I D S2 H z2 d 4 zbN _ aj.out.tok ac (by decide)).mono ?_
   rintro e w3 ⟨rfl,aa⟩
   rw[hc]
   replace j:=zc (j.out.below aa)
   replace n:=zc (n.out.below aa)
   have ah:=zc (au.out.below aa)
   have ab:=zc (aj.out.later aa)
   clear aa au aj
   clear L O K J X Y U V M N o A Z
   cases ad:(decide (z2<0)&&isT C H.pos 4 zaT) with
   |true=>
    obtain⟨L,O,K,J,X,Y,U,V,M,N,o,A,Z⟩:=j.out.box
    go_wp2_with fail
    refine (zg C gt I D S2 H z2 d 4 zaT _ ab.out.tok ac (by decide)).mono ?_
    rintro e w4 ⟨rfl,E⟩
    rw[ad]
    replace j:=zc (j.out.below E)
    replace n:=zc (n.out.below E)
    have ai:=zc (ah.out.below E)
    have ag:=zc (ab.out.later E)
    clear E ah ab
    clear L O K J X Y U V M N o A Z
    obtain⟨L,O,K,J,X,Y,U,V,M,N,o,A,Z⟩:=j.out.box
    go_wp2_with fail
    refine (zg C gt I D S2 H z2 d 4 zaT _ ag.out.tok ac (by decide)).mono ?_
    rintro e w5 ⟨rfl,ap⟩
    rw[ad]
    replace j:=zc (j.out.below ap)
    replace n:=zc (n.out.below ap)
    have ao:=zc (ai.out.below ap)
    have am:=zc (ag.out.later ap)
    clear ap ai ag
    clear L O K J X Y U V M N o A Z
    rw[Bool.and_eq_true,decide_eq_true_eq] at ad
    obtain⟨hz,hs⟩:=ad
    have hp:H.pos<C.ts.length:=zaz hs (by decide)
    obtain⟨rfl,rfl⟩:=za7 aw.out hz
    have aK:=az.out hz
    have aE:=aC.out hz
    skip
    obtain⟨L,O,K,J,X,Y,U,V,M,N,o,A,Z⟩:=j.out.box
    go_wp2_with fail
    refine (HP.out (.ok (adv H)) S2 (adv H) (-1) d _ (zU _) ((am.out.adv hp).set j.out 1 _) (fun _=>by rw[zw];omega) aq).mono ?_
    rintro e w6 ⟨S6,q6,z6,rfl,i6,m6,s6⟩
    replace j:=zc ((j.out.at1 _).stp s6)
    replace n:=zc ((n.out.set_other (by omega) 1 _).stp s6)
    have an:Hid (SB w.heap.size S w S6 w6):=(ao.out.set (by omega) 1 _).step s6
    clear ao
    have ak:=zc m6
    have ay:=zc i6
    clear i6 m6 s6 am
    clear L O K J X Y U V M N o A Z
    obtain⟨L,O,K,J,X,Y,U,V,M,N,o,A,Z⟩:=j.out.box
    unfold pv
    go_upto_region 9 with fail
    refine zJ (R:=fun W=>Bx gt S6 W (w.heap.size) _∧Bx gt S6 W (w.heap.size+1) _∧Mem C gt I D S6 q6 W∧SB w.heap.size S w S6 W) ⟨(j.out.put ..),(n.out.other (by omega) ..),(ak.out.put j.out ..),(an.out.put (by omega) ..)⟩ ?_
    clear L O K J X Y U V M N o A Z
    clear j n an ak
    rintro w7 ⟨X0,X1,m7,t7⟩
    have j:=zc X0
    have n:=zc X1
    have al:=zc m7
    have ar:=zc t7
    clear m7 t7 X0 X1
    obtain⟨L,O,K,J,X,Y,U,V,M,N,o,A,Z⟩:=j.out.box
    have aA:=al.out.inv.ex
    go_wp2_with fail
    refine (zc3 C gt I D _ S6 q6 z6 d ⟨7,0,sNone,sNone,(H.ex.length:Int)-1,(q6.ex.length:Int)-1⟩ _ ay.out al.out (fun h=>zjh ay.out h)).mono ?_
    rintro e w8 ⟨S8,q8,z8,rfl,i8,m8,s8⟩
    replace j:=zc (j.out.stp s8)
    replace n:=zc (n.out.stp s8)
    have aF:=zc (ar.out.step s8)
    clear ar
    have aG:=zc m8
    have aI:=zc i8
    clear i8 m8 s8 al
    clear L O K J X Y U V M N o A Z
    have HI:Hid (Is (bd (bd (.ok (adv H)) (pE C .prod d)) fun q'=>zM C ⟨7,0,sNone,sNone,(H.ex.length:Int)-1,(q'.ex.length:Int)-1⟩ q') q8 z8):=by rw[←zg0 ay.out (fun q'=>⟨7,0,sNone,sNone,(H.ex.length:Int)-1,(q'.ex.length:Int)-1⟩)];exact aI.out
    have ae:Hid (z8<0→H.pos+1≤q8.pos):=fun h=>zji HI.out h
    obtain⟨L,O,K,J,X,Y,U,V,M,N,o,A,Z⟩:=j.out.box
    unfold pv
    go_wp2
    go_roundg (gk-1)
    case rel=>exact⟨_,S8,q8,z8,HI.out,by rw[←ax.out];exact (zjj (d:=d) (by rw[hs,Bool.or_true]) (show zcH C H.pos=7 by rw[zcH,hs];rfl) hp).symm,fun h=>by have:=ae.out h;omega,fun h=>by have:=ae.out h;omega,(aG.out.put j.out ..),(aF.out.put (by omega) ..),(j.out.put ..),(n.out.other (by omega) ..)⟩
    case measure=>omega
   |false=>
    obtain⟨L,O,K,J,X,Y,U,V,M,N,o,A,Z⟩:=j.out.box
    go_wp2_with fail
    refine (zg C gt I D S2 H z2 d 4 zaT _ ab.out.tok ac (by decide)).mono ?_
    rintro e w4 ⟨rfl,E⟩
    rw[ad]
    replace j:=zc (j.out.below E)
    replace n:=zc (n.out.below E)
    have ai:=zc (ah.out.below E)
    have ag:=zc (ab.out.later E)
    clear E ah ab
    clear L O K J X Y U V M N o A Z
    obtain⟨L,O,K,J,X,Y,U,V,M,N,o,A,Z⟩:=j.out.box
    obtain⟨b0,b1,b2,b3,b4,b5,b6,b7,b8,b9,aN,aO,bf⟩:=n.out.box
    go_wp2
    refine bodyPost_ret (results_cell_row rfl _ _ (w.heap.size+1) 53 _ (0,0) _ rfl ((n.out.put ..)).heap Tryz.underlying53 rfl (by kernel_rfl)) rfl ?_
    exact zW rfl (show Is (bd x (pE C .sum d)) H z2 from by rw[←ax.out];exact zpp aw.out hc ad) (ag.out.put n.out ..) (ai.out.put (by omega) ..)
theorem zpr (C:Cx) (A j h:Nat):zgz C A j h 0:=by
 intro x S q z d w J D I K
 by_cases E:z<0
 ·have:=I E
  omega
 ·obtain⟨e,rfl,rfl⟩:=zcN J E
  rw[zd7]
  obtain⟨H,n,o⟩:=C
  cases o with
  |true=>exact zjd H n A j h S q d w D e
  |false=>exact zje H n A j h S q d w D e
theorem zps (C:Cx) (n j h:Nat) (m:Nat):SumOK C n j h m:=by
 induction m with
 |zero=>exact zjl (zjk (zpr C n j h))
 |succ m o=>exact zjl (zjk (zpi o))
theorem zcE (C:Cx) (n j h:Nat) (x:PR) (S:Sv) (q:PS) (z:Int) (w:World) (A:Is x q z) (o:Mem C n j h S q w):
  Calls Tryz.prog 75 #[pv C n j S q z 0] w (Out C n j h (bd x (pE C .sum 0)) 0 S w):=
 zps C n j h (C.ts.length+1) x S q z 0 w A o (fun _=>by omega) (by omega)
theorem Is2.withN {y:PRN} {q q':PS} {z z':Int} {n:ByteArray} {F:PR→ByteArray→PR} (h:Is2 y q z n) (w: ∀e n,F (.error e) n= .error e) (j:Is (F (zaG y) n) q' z'):Is2 (withN y F) q' z' n:=by
 cases y with
 |ok a=>
  obtain⟨_,_,rfl⟩:=h
  have e:zaG (.ok a)= .ok a.1:=rfl
  rw[e] at j
  show Is2 (bd (F (.ok a.1) a.2) fun q=>.ok (q,a.2)) q' z' a.2
  cases o:F (.ok a.1) a.2 with
  |ok b=>rw[o] at j;exact⟨j.1,j.2,rfl⟩
  |error e=>rw[o] at j;exact j
 |error e=>
  have A:zaG (.error e)= .error e:=rfl
  rw[A,w] at j
  exact j
theorem zjm {C:Cx} {q j h:Nat} {y:PRN} {d:Nat} {S n:Sv} {w o:World} {q':PS} {z':Int} {z:ByteArray} {v:Value} (E:v=pv C q j n q' z' d) (A:Is2 y q' z' z) (H:Mem C q j h n q' o) (D:SB w.heap.size S w n o):zcW C q j h y d S w (.returned (.tuple #[v,.string z])) o:=
 ⟨n,q',z',z,by rw[E],A,H,D.done⟩
theorem zg1 (C:Cx) (D A j:Nat) (S:Sv) (q:PS) (w:World) (hm:Mem C D A j S q w):
  Calls Tryz.prog 72 #[pv C D A S q (-1) 0] w (zcW C D A j (zcm C q) 0 S w):=by
 have HM:=zc hm
 clear hm
 unfold pv
 go_enter Tryz.func72,Tryz.ntmps72
 go_wp2_with fail
 refine (zaC C D A j (.ok q) S q (-1) 0 zA _ (zU q) ((HM.out.alloc _).alloc _)).mono ?_
 rintro e w1 ⟨S1,q1,z1,rfl,i1,m1,s1⟩
 obtain⟨U,X1,t1⟩:=HM.out.two2 s1
 have o:=zc U
 have h:=zc X1
 have ae:=zc m1
 have ag:=zc t1
 have al:=zc i1
 clear U X1 i1 m1 t1 s1
 go_wp2_with fail
 refine (zaU C D A j _ S1 q1 z1 0 false _ al.out ae.out).mono ?_
 rintro e w2 ⟨S2,q2,z2,n2,rfl,i2,m2,s2⟩
 replace o:=zc (o.out.stp s2)
 replace h:=zc (h.out.stp s2)
 have Y:=zc (ag.out.step s2)
 clear ag
 have H:=zc m2
 have aa:=zc i2
 clear i2 m2 s2 ae
 have an:w.heap.size+1<w2.heap.size:=h.out.lt
 unfold pv
 go_wp2_with fail
 refine (zab C D A j _ S2 q2 z2 0 cEq _ aa.out.fst (H.out.alloc _)).mono ?_
 rintro e w3 ⟨S3,q3,z3,rfl,i3,m3,V⟩
 replace o:=zc ((o.out.alloc _).stp V)
 replace h:=zc ((h.out.alloc _).stp V)
 replace z:=zc ((Bx.new H.out _).stp V)
 have ab:Hid (SB w.heap.size S w S3 w3):=(Y.out.alloc _).step V
 clear Y
 have O:=zc m3
 have am:=zc i3
 clear i3 m3 V H
 go_wp2_with fail
 refine (zcE C D A j _ S3 q3 z3 _ am.out O.out).mono ?_
 rintro e w4 ⟨S4,q4,z4,rfl,i4,m4,K⟩
 replace o:=zc (o.out.stp K)
 replace h:=zc (h.out.stp K)
 replace z:=zc (z.out.stp K)
 have ac:=zc (ab.out.step K)
 clear ab
 have M:=zc m4
 have ai:=zc i4
 clear i4 m4 K O
 go_wp2_with fail
 refine (zab C D A j _ S4 q4 z4 0 cSemi _ ai.out M.out).mono ?_
 rintro e w5 ⟨J,q5,z5,rfl,i5,m5,X⟩
 replace o:=zc (o.out.stp X)
 replace h:=zc (h.out.stp X)
 replace z:=zc (z.out.stp X)
 have af:=zc (ac.out.step X)
 clear ac
 have N:=zc m5
 have L:=zc i5
 clear i5 m5 X M
 obtain⟨c0,c1,c2,c3,c4,c5,c6,c7,c8,c9,E,I,cf⟩:=z.out.box
 unfold pv
 go_upto_region 3 with fail
 refine zJ (R:=fun W=>Bx D J W (w.heap.size) _∧Bx D J W (w.heap.size+1) _∧Bx D J W (w2.heap.size) _∧Mem C D A j J q5 W∧SB w.heap.size S w J W) ⟨(o.out.other (by omega) ..),(h.out.other (by omega) ..),(z.out.put ..),(N.out.put z.out ..),(af.out.put (by omega) ..)⟩ ?_
 clear c0 c1 c2 c3 c4 c5 c6 c7 c8 c9 E I cf
 clear o h z af N
 rintro w6 ⟨U,X1,X2,m6,t6⟩
 have o:=zc U
 have h:=zc X1
 have z:=zc X2
 have ad:=zc m6
 have Z:=zc t6
 clear m6 t6 U X1 X2
 obtain⟨c0,c1,c2,c3,c4,c5,c6,c7,c8,c9,E,I,cf⟩:=z.out.box
 go_wp2_with fail
 refine (zc4 C D A j _ J q5 z5 0 1 n2 _ L.out ad.out (zaZ L.out)).mono ?_
 rintro e w7 ⟨S7,q7,z7,rfl,i7,m7,s7⟩
 replace o:=zc (o.out.stp s7)
 replace h:=zc (h.out.stp s7)
 replace z:=zc (z.out.stp s7)
 have aj:=zc (Z.out.step s7)
 clear Z
 have ah:=zc m7
 have ak:=zc i7
 clear i7 m7 s7 ad
 clear c0 c1 c2 c3 c4 c5 c6 c7 c8 c9 E I cf
 obtain⟨b0,b1,b2,b3,b4,b5,b6,b7,b8,b9,ao,ap,bf⟩:=h.out.box
 unfold pv
 go_wp2
 refine bodyPost_ret (za8 rfl _ _ (w.heap.size+1) 53 _ (0,0) _ rfl ((h.out.put ..)).heap Tryz.underlying53 rfl (by kernel_rfl)) rfl ?_
 exact zjm rfl (aa.out.withN (F:=fun x n=>_) (fun _ _=>rfl) ak.out) (ah.out.put h.out ..) (aj.out.put (by omega) ..)
theorem zg2 (C:Cx) (D A z:Nat) (S:Sv) (q:PS) (w:World) (hm:Mem C D A z S q w):
  Calls Tryz.prog 73 #[pv C D A S q (-1) 0] w (zcW C D A z (fnP C q) 0 S w):=by
 have HM:=zc hm
 clear hm
 unfold pv
 go_enter Tryz.func73,Tryz.ntmps73
 go_wp2_with fail
 refine (zaC C D A z (.ok q) S q (-1) 0 zO _ (zU q) ((HM.out.alloc _).alloc _)).mono ?_
 rintro e w1 ⟨S1,q1,z1,rfl,i1,m1,s1⟩
 obtain⟨L,X1,t1⟩:=HM.out.two2 s1
 have o:=zc L
 have j:=zc X1
 have aI:=zc m1
 have aP:=zc t1
 have aV:=zc i1
 clear L X1 i1 m1 t1 s1
 go_wp2_with fail
 refine (zaU C D A z _ S1 q1 z1 0 false _ aV.out aI.out).mono ?_
 rintro e w2 ⟨S2,q2,z2,n2,rfl,i2,m2,s2⟩
 replace o:=zc (o.out.stp s2)
 replace j:=zc (j.out.stp s2)
 have ax:=zc (aP.out.step s2)
 clear aP
 have ai:=zc m2
 have aC:=zc i2
 clear i2 m2 s2 aI
 have a0:w.heap.size+1<w2.heap.size:=j.out.lt
 unfold pv
 go_wp2_with fail
 refine (zab C D A z _ S2 q2 z2 0 zm _ aC.out.fst (ai.out.alloc _)).mono ?_
 rintro e w3 ⟨S3,q3,z3,rfl,i3,m3,s3⟩
 replace o:=zc ((o.out.alloc _).stp s3)
 replace j:=zc ((j.out.alloc _).stp s3)
 replace h:=zc ((Bx.new ai.out _).stp s3)
 have aD:Hid (SB w.heap.size S w S3 w3):=(ax.out.alloc _).step s3
 clear ax
 have aq:=zc m3
 have aY:=zc i3
 clear i3 m3 s3 ai
 go_wp2_with fail
 refine (zab C D A z _ S3 q3 z3 0 zay _ aY.out aq.out).mono ?_
 rintro e w4 ⟨S4,q4,z4,rfl,i4,m4,s4⟩
 replace o:=zc (o.out.stp s4)
 replace j:=zc (j.out.stp s4)
 replace h:=zc (h.out.stp s4)
 have aG:=zc (aD.out.step s4)
 clear aD
 have am:=zc m4
 have aR:=zc i4
 clear i4 m4 s4 aq
 go_wp2_with fail
 refine (zab C D A z _ S4 q4 z4 0 zF _ aR.out am.out).mono ?_
 rintro e w5 ⟨S5,q5,z5,rfl,i5,m5,s5⟩
 replace o:=zc (o.out.stp s5)
 replace j:=zc (j.out.stp s5)
 replace h:=zc (h.out.stp s5)
 have aJ:=zc (aG.out.step s5)
 clear aG
 have ao:=zc m5
 have aQ:=zc i5
 clear i5 m5 s5 am
 obtain⟨c0,c1,X,c3,Z,N,O,M,J,V,E,H,U⟩:=h.out.box
 unfold pv
 go_upto_region 3 with fail
 refine zJ (R:=fun W=>Bx D S5 W (w.heap.size) _∧Bx D S5 W (w.heap.size+1) _∧Bx D S5 W (w2.heap.size) _∧Mem C D A z S5 q5 W∧SB w.heap.size S w S5 W) ⟨(o.out.other (by omega) ..),(j.out.other (by omega) ..),(h.out.put ..),(ao.out.put h.out ..),(aJ.out.put (by omega) ..)⟩ ?_
 clear c0 c1 X c3 Z N O M J V E H U
 clear o j h aJ ao
 rintro w6 ⟨L,X1,X2,m6,t6⟩
 have o:=zc L
 have j:=zc X1
 have h:=zc X2
 have aH:=zc m6
 have aB:=zc t6
 clear m6 t6 L X1 X2
 obtain⟨c0,c1,X,c3,Z,N,O,M,J,V,E,H,U⟩:=h.out.box
 go_wp2_with fail
 refine (zaC C D A z _ S5 q5 z5 0 zd6 _ aQ.out aH.out).mono ?_
 rintro e w7 ⟨S7,q7,z7,rfl,i7,m7,s7⟩
 replace o:=zc (o.out.stp s7)
 replace j:=zc (j.out.stp s7)
 replace h:=zc (h.out.stp s7)
 have aw:=zc (aB.out.step s7)
 clear aB
 have aj:=zc m7
 have aU:=zc i7
 clear i7 m7 s7 aH
 clear c0 c1 X c3 Z N O M J V E H U
 go_wp2_with fail
 refine (zcE C D A z _ S7 q7 z7 _ aU.out aj.out).mono ?_
 rintro e w8 ⟨S8,q8,z8,rfl,i8,m8,s8⟩
 replace o:=zc (o.out.stp s8)
 replace j:=zc (j.out.stp s8)
 replace h:=zc (h.out.stp s8)
 have ar:=zc (aw.out.step s8)
 clear aw
 have au:=zc m8
 have aX:=zc i8
 clear i8 m8 s8 aj
 obtain⟨c0,c1,X,c3,Z,N,O,M,J,V,E,H,U⟩:=h.out.box
 unfold pv
 go_upto_region 4 with fail
 refine zJ (R:=fun W=>Bx D S8 W (w.heap.size) _∧Bx D S8 W (w.heap.size+1) _∧Bx D S8 W (w2.heap.size) _∧Mem C D A z S8 q8 W∧SB w.heap.size S w S8 W) ⟨(o.out.other (by omega) ..),(j.out.other (by omega) ..),(h.out.put ..),(au.out.put h.out ..),(ar.out.put (by omega) ..)⟩ ?_
 clear c0 c1 X c3 Z N O M J V E H U
 clear o j h ar au
 rintro w9 ⟨L,X1,X2,m9,t9⟩
 have o:=zc L
 have j:=zc X1
 have h:=zc X2
 have al:=zc m9
 have av:=zc t9
 clear m9 t9 L X1 X2
 obtain⟨c0,c1,X,c3,Z,N,O,M,J,V,E,H,U⟩:=h.out.box
 go_wp2_with fail
 refine (zab C D A z _ S8 q8 z8 0 cSemi _ aX.out al.out).mono ?_
 rintro e a1 ⟨aT,aS,aZ,rfl,aF,aO,aa⟩
 replace o:=zc (o.out.stp aa)
 replace j:=zc (j.out.stp aa)
 replace h:=zc (h.out.stp aa)
 have ag:=zc (av.out.step aa)
 clear av
 have ab:=zc aO
 have az:=zc aF
 clear aF aO aa al
 clear c0 c1 X c3 Z N O M J V E H U
 go_wp2_with fail
 refine (zab C D A z _ aT aS aZ 0 zbd _ az.out ab.out).mono ?_
 rintro e a6 ⟨I,ak,aW,rfl,ap,aM,Y⟩
 replace o:=zc (o.out.stp Y)
 replace j:=zc (j.out.stp Y)
 replace h:=zc (h.out.stp Y)
 have ae:=zc (ag.out.step Y)
 clear ag
 have ad:=zc aM
 have af:=zc ap
 clear ap aM Y ab
 obtain⟨c0,c1,X,c3,Z,N,O,M,J,V,E,H,U⟩:=h.out.box
 unfold pv
 go_upto_region 5 with fail
 refine zJ (R:=fun W=>Bx D I W (w.heap.size) _∧Bx D I W (w.heap.size+1) _∧Bx D I W (w2.heap.size) _∧Mem C D A z I ak W∧SB w.heap.size S w I W) ⟨(o.out.other (by omega) ..),(j.out.other (by omega) ..),(h.out.put ..),(ad.out.put h.out ..),(ae.out.put (by omega) ..)⟩ ?_
 clear c0 c1 X c3 Z N O M J V E H U
 clear o j h ae ad
 rintro a4 ⟨L,X1,X2,an,ay⟩
 have o:=zc L
 have j:=zc X1
 have h:=zc X2
 have ac:=zc an
 have ah:=zc ay
 clear an ay L X1 X2
 obtain⟨c0,c1,X,c3,Z,N,O,M,J,V,E,H,U⟩:=h.out.box
 go_wp2_with fail
 refine (zc4 C D A z _ I ak aW 0 2 n2 _ af.out ac.out (zaZ af.out)).mono ?_
 rintro e a8 ⟨a2,a7,a9,rfl,aK,aL,K⟩
 replace o:=zc (o.out.stp K)
 replace j:=zc (j.out.stp K)
 replace h:=zc (h.out.stp K)
 have aN:=zc (ah.out.step K)
 clear ah
 have aE:=zc aL
 have aA:=zc aK
 clear aK aL K ac
 clear c0 c1 X c3 Z N O M J V E H U
 obtain⟨b0,b1,b2,b3,b4,b5,b6,b7,b8,b9,a3,a5,bf⟩:=j.out.box
 unfold pv
 go_wp2
 refine bodyPost_ret (za8 rfl _ _ (w.heap.size+1) 53 _ (0,0) _ rfl ((j.out.put ..)).heap Tryz.underlying53 rfl (by kernel_rfl)) rfl ?_
 exact zjm rfl (aC.out.withN (F:=fun x n=>_) (fun _ _=>rfl) aA.out) (aE.out.put j.out ..) (aN.out.put (by omega) ..)
end Go.Proofs.YticdggnnpjachaaGreat
