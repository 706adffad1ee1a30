/-
  A row of pairs of names beside a program under way. No program is spoken of but for the numbers of its types.
  What spec's l4Tail answers: the walk.
  What spec's l4List answers: the walk.
  What spec's l4Part answers,if l4Sum answers so behind it: the walks.
  What spec's l4Part answers where no number and no bracket stands,in a script: the walks.
  What spec's l4Part answers where no number and no bracket stands: the walks.
  What spec's l4Part,l4Product and l4Sum answer: the walks of the two loops,and the three together.
  What spec's l4Let and l4Fn answer: the walks.
-/
import Derived.Deep.DeepCutAuto
import Derived.Test.YticdggnnpjachaaGreatCcModOkImplToSpecBox
namespace Go.Proofs.YticdggnnpjachaaGreat
set_option maxRecDepth 100000
set_option maxHeartbeats 6400000
open Go.RowKit Go.PlainAid
structure Row (S:Sv) (w:World) (base B:Nat) (r:Rw) (l:List Ep):Prop where
 own:OwnR w base 102 4 r l.length (l.flatMap epL)
 free: ∀k,r.blk=some k→¬S.has k
 new: ∀k,r.blk=some k→B≤k
 addr: ∃g,r.a=some ⟨g,0,none⟩
theorem Row.ne {z b:Nat} {S:Sv} {w:World} {j B:Nat} {r:Rw} {l:List Ep} {n:Array Value} (h:Row S w j B r l) (q:Bx z S w b n): ∀k,r.blk=some k→k≠b:=by
 rintro k o rfl
 obtain⟨_,_,c,g⟩:=h.own.typed o
 rw[q.heap] at g
 simp only[Option.some.injEq,Obj.cells.injEq] at g
 exact absurd g.2.1 (by decide)
theorem Row.stp {S o:Sv} {w q:World} {j B:Nat} {r:Rw} {l:List Ep} (h:Row S w j B r l) (s:Stp S w o q):Row o q j B r l:=
 ⟨h.own.keep fun k n=>s.block k (h.own.typed n).2.1 (h.free k n),fun k n g=>(s.sub k g).elim (h.free k n) fun z=>by have:=(h.own.typed n).2.1;omega,h.new,h.addr⟩
theorem Row.below {S:Sv} {w n:World} {j B:Nat} {r:Rw} {l:List Ep} (h:Row S w j B r l) (s:Below w.heap.size w n):Row S n j B r l:=h.stp (Stp.below s)
theorem Row.alloc {S:Sv} {w:World} {j B:Nat} {r:Rw} {l:List Ep} (h:Row S w j B r l) (o:Obj):Row S (w.alloc o) j B r l:=h.below ((Below.refl _ _).alloc (Nat.le_refl _) _)
theorem Row.drew {S:Sv} {w:World} {j B:Nat} {r:Rw} {l:List Ep} (h:Row S w j B r l):Row S w.drew j B r l:=⟨h.own,h.free,h.new,h.addr⟩
theorem Row.set {z b:Nat} {S:Sv} {w:World} {j B:Nat} {r:Rw} {l:List Ep} {n:Array Value} (h:Row S w j B r l) (q:Bx z S w b n) (i:Nat) (u:Value):Row S (w.setCell ⟨b,i,none⟩ u) j B r l:=
 ⟨h.own.keep fun k o=>zp (h.ne q k o),h.free,h.new,h.addr⟩
theorem Row.put {U b:Nat} {S:Sv} {w:World} {j B:Nat} {r:Rw} {l:List Ep} {A:Array Value} (h:Row S w j B r l) (K:Bx U S w b A) (q z O D I J M N L H n o:Value):Row S (set12 w b q z O D I J M N L H n o) j B r l:=
 ⟨h.own.keep fun k E=>ze6 (h.ne K k E) _ _ _ _ _ _ _ _ _ _ _ _,h.free,h.new,h.addr⟩
theorem Row.nil {C:Cx} {z o j B:Nat} {S:Sv} {q:PS} {w:World} (h:Mem C z o j S q w) (A:B≤w.heap.size):Row S (w.alloc (.cells #[] 102 (0,0))) j B ⟨some ⟨w.heap.size,0,none⟩,0⟩ []:=by
 refine⟨World.ownsRow_lit w #[] 0 h.base (by unfold maxLen;omega) rfl,fun k n g=>?_,fun k n=>?_,⟨_,rfl⟩⟩
 ·simp only[Rw.blk,Value.ownBlock,Option.some.injEq] at n
  have:=(h.own.has g).2
  omega
 ·simp only[Rw.blk,Value.ownBlock,Option.some.injEq] at n
  omega
theorem Row.grow {C:Cx} {J A j B:Nat} {S:Sv} {q:PS} {W z:World} {r E:Rw} {l:List Ep} {x:Ep} (h:Row S W j B r l) (w:Mem C J A j S q W) (N:B≤W.heap.size) (K:W.grownBy z r.blk) (L:OwnR z j 102 4 E (l.length+1) (l.flatMap epL++epL x)) (D:E.blk=r.blk∨E.blk=some W.heap.size):
  Row S z j B E (l++[x])∧Mem C J A j S q z:=by
 refine⟨⟨?_,fun k o g=>?_,fun k o=>?_,L.addr.resolve_left (by omega)⟩,?_⟩
 ·have e:(l++[x]).length=l.length+1:=by simp
  rw[e]
  simpa using L
 ·rcases D with e|e
  ·exact h.free k (by rw[←e];exact o) g
  ·have M:W.heap.size=k:=Option.some.inj (e.symm.trans o)
   have:=(w.own.has g).2
   omega
 ·rcases D with e|e
  ·exact h.new k (by rw[←e];exact o)
  ·have M:W.heap.size=k:=Option.some.inj (e.symm.trans o)
   omega
 ·have n: ∀k,k<W.heap.size→r.blk≠some k→z.heap[k]? =W.heap[k]?:=fun k o I=>K.block k o fun e=>I e.symm
  refine⟨w.own.keep fun k o=>n k (w.own.has o).2 fun e=>h.free k e o,w.inv,zbs w.tok (n J (zak w.tok).1 fun e=>?_),w.few,Nat.le_trans w.base K.size⟩
  obtain⟨_,_,c,g⟩:=h.own.typed e
  obtain⟨O,H⟩:=zeN w.tok
  rw[g] at H
  simp only[Option.some.injEq,Obj.cells.injEq] at H
  exact absurd H.2.1 (by decide)
theorem Row.bx {w b:Nat} {S:Sv} {W q:World} {n B:Nat} {r:Rw} {l:List Ep} {o:Array Value} (h:Row S W n B r l) (j:Bx w S W b o) (z:W.grownBy q r.blk):Bx w S q b o:=
 ⟨(z.block b j.lt fun e=>h.ne j b e.symm rfl).trans j.heap,j.free,j.ne⟩
theorem Row.sb {S S0:Sv} {w W q:World} {o:Nat} {B:Nat} {r:Rw} {l:List Ep} (h:Row S W o B r l) (j:SB B S0 w S W) (n:W.grownBy q r.blk):SB B S0 w S q:=
 ⟨n.os.trans j.os,n.tape.trans j.tape,n.output.trans j.output,Nat.le_trans j.size n.size,j.low,fun k z A=>(n.block k (by have:=j.size;have:=j.low;omega) fun e=>by have:=h.new k e.symm;omega).trans (j.block k z A),j.sub⟩
theorem Mem.list3 {C:Cx} {D E j:Nat} {S o:Sv} {q:PS} {w n:World} {z A:Array Value} (h:Mem C D E j S q w) (s:Stp S (((w.alloc (.cells z 53 (0,0))).alloc (.cells A 53 (0,0))).alloc (.cells #[] 102 (0,0))) o n):
  Bx D o n w.heap.size z∧Bx D o n (w.heap.size+1) A∧Row o n j w.heap.size ⟨some ⟨w.heap.size+1+1,0,none⟩,0⟩ []∧SB w.heap.size S w o n:=by
 refine⟨(((Bx.new h _).alloc _).alloc _).stp s,?_,?_,(SB.start (zc2 w _ _ _)).step s⟩
 ·have:=((Bx.new (h.alloc (.cells z 53 (0,0))) A).alloc (.cells #[] 102 (0,0))).stp s
  rw[zj] at this
  exact this
 ·have:=(Row.nil (B:=w.heap.size) ((h.alloc (.cells z 53 (0,0))).alloc (.cells A 53 (0,0))) (zaM w _ _).size).stp s
  rw[zcp] at this
  exact this
def Is3 (y:PRL) (q:PS) (z:Int) (l:List Ep):Prop:=
 match y with
 | .ok a=>q=a.1∧z= -1∧l=a.2
 | .error e=>z=(e:Int)
def zoP (C:Cx) (gt cap base:Nat) (y:PRL) (d:Nat) (S:Sv) (w:World) (e:Ending) (w':World):Prop:=
 ∃S' q' z' r l,e= .returned (.tuple #[pv C gt cap S' q' z' d,.slice r.a l.length r.cap,.bool (za5 l)])∧Is3 y q' z' l∧Mem C gt cap base S' q' w'∧Stp S w S' w'∧Row S' w' base w.heap.size r l∧l.length≤4001
theorem ziW (l:List Ep) (x:Ep):za5 (l++[x])=(za5 l||(x.loc.toList==[100,101,102,97,117,108,116])):=by simp[za5]
theorem zoQ {o:Func} {p u v:Tmp} {n:TypeId} (h:o.results= #[.cell p n,.tmp u,.tmp v]) (tmps:Array Value) (P:Program) (w:World):
  (results o tmps).run P w=((asAddr (tmps.getD p undef)).run P w).andThen fun a q=>((loadVar n a).run P q).andThen fun x j=>.ok (.tuple #[x,tmps.getD u undef,tmps.getD v undef]) j:=by
 simp only[results,h]
 simp[Sem.run_bind,Result.andThen]
theorem ziX {P:Program} {q:Func} {p u v:Tmp} {n:TypeId} (h:q.results= #[.cell p n,.tmp u,.tmp v]) (tmps:Array Value) (w:World) (g:Nat) (t:TypeId) (j:Array Value) (o:Nat×Nat) (d:TypeDesc)
  (D:tmps.getD p undef= .pointer (some ⟨g,0,none⟩)) (A:w.heap[g]? =some (.cells j t o))
  (z:P.underlying n=some d) (E:(match d with| .struct _| .array _ _=>true|_=>false)=true) (H:(P.info? n).map (·.size)=some j.size):
  (results q tmps).run P w= .ok (.tuple #[.agg j,tmps.getD u undef,tmps.getD v undef]) w:=by
 rw[zoQ h,D]
 simp[asAddr,Result.andThen,run_loadVar_row w g t n j o d A z E H]
theorem zaZ {C:Cx} {x:PR} {k:Int} {s:ByteArray} {q:PS} {z:Int} (h:Is (bd x (zd C k s)) q z):z<0→1≤q.pos:=by
 intro n
 obtain⟨e,_⟩:=za7 h n
 obtain⟨a,_,j⟩:=zi e
 obtain⟨rfl,_⟩:=zb0 j
 simp[adv]
theorem zgy (C:Cx) (K o n:Nat) (S:Sv) (q:PS) (d:Nat) (L:ByteArray) (w:World) (hm:Mem C K o n S q w) (hp:1≤q.pos):
  Calls Tryz.prog 191 #[pv C K o S q (-1) d,.string L] w (Out C K o n (zbq C L q) d S w):=by
 have HM:=zc hm
 have z:=hm.tok
 have O:=hm.few
 clear hm
 cases hi:isT C q.pos 4 zm with
 |true=>
  have HV:Hid (zbq C L q=bd (bd (bd (.ok q) (zd C 4 zm)) (zd C 4 zay)) (zM C ⟨3,0,L,sNone,0,0⟩)):=if_pos hi
  unfold pv
  go_enter Tryz.func191,Tryz.ntmps191
  go_wp2_with fail
  refine (zg C K o n S q (-1) d 4 zm _ (zo (zo z _) _) O (by decide)).mono ?_
  rintro e w1 ⟨rfl,E⟩
  rw[hi]
  obtain⟨V,X1,m1,t1⟩:=HM.out.two E
  have j:=zc V
  have h:=zc X1
  have D:=zc m1
  have I:=zc t1
  clear V X1 m1 t1 E
  clear z
  obtain⟨a0,a1,a2,a3,a4,a5,X,a7,a8,a9,A,H,af⟩:=j.out.box
  go_wp2_with fail
  refine (zab C K o n (.ok q) S q (-1) d zm _ (zU q) D.out).mono ?_
  rintro e w2 ⟨S2,q2,z2,rfl,Y,m2,M⟩
  replace j:=zc (j.out.stp M)
  replace h:=zc (h.out.stp M)
  have N:=zc (I.out.step M)
  clear I
  have J:=zc m2
  have U:=zc Y
  clear Y m2 M D
  clear a0 a1 a2 a3 a4 a5 X a7 a8 a9 A H af
  go_wp2_with fail
  refine (zab C K o n _ S2 q2 z2 d zay _ U.out J.out).mono ?_
  rintro e w3 ⟨S3,q3,z3,rfl,i3,m3,s3⟩
  replace j:=zc (j.out.stp s3)
  replace h:=zc (h.out.stp s3)
  have Z:=zc (N.out.step s3)
  clear N
  have ab:=zc m3
  have aa:=zc i3
  clear i3 m3 s3 J
  obtain⟨a0,a1,a2,a3,a4,a5,X,a7,a8,a9,A,H,af⟩:=j.out.box
  unfold pv
  go_wp2_with fail
  refine (zc3 C K o n _ S3 q3 z3 d ⟨3,0,L,sNone,0,0⟩ _ aa.out (ab.out.put j.out ..) (zaZ aa.out)).mono ?_
  rintro e w4 ⟨S4,q4,z4,rfl,i4,m4,s4⟩
  replace j:=zc ((j.out.put ..).stp s4)
  replace h:=zc ((h.out.other (by omega) ..).stp s4)
  have ag:Hid (SB w.heap.size S w S4 w4):=(Z.out.put (by omega) ..).step s4
  clear Z
  have ah:=zc m4
  have ac:=zc i4
  clear i4 m4 s4 ab
  clear a0 a1 a2 a3 a4 a5 X a7 a8 a9 A H af
  obtain⟨b0,b1,b2,b3,b4,b5,b6,b7,b8,b9,ae,ad,bf⟩:=h.out.box
  unfold pv
  go_wp2
  refine bodyPost_ret (results_cell_row rfl _ _ (w.heap.size+1) 53 _ (0,0) _ rfl ((h.out.put ..)).heap Tryz.underlying53 rfl (by kernel_rfl)) rfl ?_
  rw[HV.out]
  exact zW rfl ac.out (ah.out.put h.out ..) (ag.out.put (by omega) ..)
 |false=>
  have HV:Hid (zbq C L q=bd (.ok q) (zM C ⟨2,0,L,sNone,0,0⟩)):=by show zbq C L q=_;rw[zbq,hi];rfl
  unfold pv
  go_enter Tryz.func191,Tryz.ntmps191
  go_wp2_with fail
  refine (zg C K o n S q (-1) d 4 zm _ (zo (zo z _) _) O (by decide)).mono ?_
  rintro e w1 ⟨rfl,E⟩
  rw[hi]
  obtain⟨V,X1,m1,t1⟩:=HM.out.two E
  have j:=zc V
  have h:=zc X1
  have D:=zc m1
  have I:=zc t1
  clear V X1 m1 t1 E
  clear z
  obtain⟨a0,a1,a2,a3,a4,a5,X,a7,a8,a9,A,H,af⟩:=j.out.box
  go_wp2_with fail
  refine (zc3 C K o n (.ok q) S q (-1) d ⟨2,0,L,sNone,0,0⟩ _ (zU q) D.out (fun _=>hp)).mono ?_
  rintro e w2 ⟨S2,q2,z2,rfl,Y,m2,M⟩
  replace j:=zc (j.out.stp M)
  replace h:=zc (h.out.stp M)
  have N:=zc (I.out.step M)
  clear I
  have J:=zc m2
  have U:=zc Y
  clear Y m2 M D
  clear a0 a1 a2 a3 a4 a5 X a7 a8 a9 A H af
  obtain⟨b0,b1,b2,b3,b4,b5,b6,b7,b8,b9,ae,ad,bf⟩:=h.out.box
  unfold pv
  go_wp2
  refine bodyPost_ret (results_cell_row rfl _ _ (w.heap.size+1) 53 _ (0,0) _ rfl ((h.out.put ..)).heap Tryz.underlying53 rfl (by kernel_rfl)) rfl ?_
  rw[HV.out]
  exact zW rfl U.out (J.out.put h.out ..) (N.out.put (by omega) ..)
theorem zoR {C:Cx} {j:Bool} {l:List Ep} {Y:PRN} {I A:ByteArray} {J H w:PS} {L z D:Int} (K:Is2 Y J L I) (n:Is2 (bd Y (asP C j)) H z A) (q:(decide (z<0)&&isT C H.pos 4 zbp)=false) (h:Is (bd (zaG (bd Y (asP C j))) (zd C 4 zbd)) w D):
  Is3 (bd Y fun a=>bd (asP C j a) fun b=>if isT C b.1.pos 4 zbp then zav C j (adv b.1) (l++[⟨0,b.2,a.2,sNone⟩]) else bd (zd C 4 zbd b.1) fun q'=>.ok (q',l++[⟨0,b.2,a.2,sNone⟩])) w D (l++[⟨0,A,I,sNone⟩]):=by
 cases Y with
 |error e=>exact h
 |ok a=>
  obtain⟨_,_,rfl⟩:=K
  rw[zx] at n h ⊢
  cases o:asP C j a with
  |error e=>rw[o] at h;exact h
  |ok b=>
   rw[o] at n h
   obtain⟨rfl,rfl,rfl⟩:=n
   rw[Bool.and_eq_false_iff] at q
   rw[zx,q.resolve_left (by decide)]
   have e:bd (zaG (.ok b)) (zd C 4 zbd)=zd C 4 zbd b.1:=rfl
   rw[e] at h
   show Is3 (bd (zd C 4 zbd b.1) _) _ _ _
   cases E:zd C 4 zbd b.1 with
   |error e=>rw[E] at h;exact h
   |ok c=>rw[E] at h;exact⟨h.1,h.2,rfl⟩
theorem zoS {C:Cx} {j:Bool} {l:List Ep} {n I w:PS} {H E:ByteArray} {K o:Int} (D:Is2 (bd (.ok n) (zh C true)) I K H) (h:Is2 (bd (bd (.ok n) (zh C true)) (asP C j)) w o E) (L:o<0) (J:isT C w.pos 4 zbp=true):
  (bd (.ok n) fun q=>zav C j q l)=(bd (.ok (adv w)) fun q=>zav C j q (l++[⟨0,E,H,sNone⟩]))∧n.pos+1≤w.pos:=by
 rw[zx] at D h ⊢
 rw[zx,zeO]
 cases A:zh C true n with
 |error e=>rw[A] at h;have:o=(e:Int):=h;omega
 |ok a=>
  rw[A] at D h
  obtain⟨_,_,rfl⟩:=D
  rw[zx] at h ⊢
  obtain⟨rfl,_⟩:=zbe A
  cases z:asP C j (adv n,(ze C n.pos).text) with
  |error e=>rw[z] at h;have:o=(e:Int):=h;omega
  |ok b=>
   rw[z] at h
   obtain⟨rfl,rfl,rfl⟩:=h
   have:=zej z
   rw[zx,J]
   exact⟨rfl,this⟩
theorem zoT {C:Cx} {h:Bool} {x:PR} {q j:PS} {z n:Int} {l:List Ep} (A:Is x q z) (o: ¬z<0) (w:Is (bd x (zd C 4 zbd)) j n):Is3 (bd x fun q=>zav C h q l) j n l:=by
 obtain⟨e,rfl,_⟩:=zcN A o
 exact w
theorem zoU {C:Cx} {h:Bool} {Y:PRN} {j o:PS} {n A:Int} {E z:ByteArray} (q:Is2 Y j n E) (w:(decide (n<0)&&isT C j.pos 1 sAs)=true) (D:Is2 (bd (.ok (adv j)) (zh C h)) o A z):Is2 (bd Y (asP C h)) o A z:=by
 rw[Bool.and_eq_true,decide_eq_true_eq] at w
 cases Y with
 |error e=>have:n=(e:Int):=q;omega
 |ok a=>
  obtain⟨rfl,_,_⟩:=q
  rw[zx,asP,if_pos w.2]
  exact D
theorem zoV {C:Cx} {o:Bool} {Y:PRN} {j:PS} {n:Int} {q:ByteArray} (w:Is2 Y j n q) (z:(decide (n<0)&&isT C j.pos 1 sAs)=false) (A:((q.toList==[100,101,102,97,117,108,116])&& !exp)=true):Is2 (bd Y (asP C o)) j (zbi C j.pos n) q:=by
 cases Y with
 |error e=>
  have h:n=(e:Int):=w
  show zbi C j.pos n=(e:Int)
  rw[zbi,if_neg (by omega)]
  exact h
 |ok a=>
  obtain⟨rfl,rfl,rfl⟩:=w
  rw[Bool.and_eq_false_iff] at z
  rw[zx,asP,z.resolve_left (by decide),A]
  rfl
theorem ziY {C:Cx} {n:Bool} {Y:PRN} {h:PS} {j:Int} {o:ByteArray} (q:Is2 Y h j o) (w:(decide (j<0)&&isT C h.pos 1 sAs)=false) (z:((o.toList==[100,101,102,97,117,108,116])&& !exp)=false):Is2 (bd Y (asP C n)) h j o:=by
 cases Y with
 |error e=>exact q
 |ok a=>
  obtain⟨rfl,rfl,rfl⟩:=q
  rw[Bool.and_eq_false_iff] at w
  rw[zx,asP,w.resolve_left (by decide),z]
  exact⟨rfl,rfl,rfl⟩
theorem ziZ (C:Cx) (J I n:Nat) (S:Sv) (q:PS) (d:Nat) (ai:Bool) (w:World) (hm:Mem C J I n S q w):
  Calls Tryz.prog 130 #[pv C J I S q (-1) d,.bool ai] w (zoP C J I n (zcz C ai q) d S w):=by
 obtain⟨i0,hi,aP,aE,aQ⟩:=info_parts Tryz.infoExp
 have HM:=zc hm
 have aj:=hm.few
 clear hm
 unfold pv
 go_enter Tryz.func130,Tryz.ntmps130
 go_wp2_with fail
 refine (zab C J I n (.ok q) S q (-1) d zF _ (zU q) (((HM.out.alloc _).alloc _).alloc _)).mono ?_
 rintro e w1 ⟨S1,q1,z1,rfl,i1,m1,s1⟩
 obtain⟨X0,X1,R0,t1⟩:=HM.out.list3 s1
 have h:=zc X0
 have j:=zc X1
 have z:=zc R0
 have aW:=zc t1
 have aH:=zc m1
 have aK:=zc i1
 clear i1 m1 s1 X0 X1 R0 t1
 obtain⟨Y,a1,a2,Z,a4,a5,U,X,a8,a9,A,D,V⟩:=h.out.box
 unfold pv
 go_wp2
 go_loopg [7,8] (C.ts.length+1) (fun k o an wr=>∃(x':PR) (S':Sv) (q':PS) (z':Int) (r:Rw) (l:List Ep),Is x' q' z'∧bd x' (fun q=>zav C ai q l)=zcz C ai q∧(z'<0→C.ts.length-q'.pos<k)∧(l.length≤q'.pos∨l=[])∧o= .slice r.a l.length r.cap∧an= .bool (za5 l)∧Mem C J I n S' q' wr∧SB w.heap.size S w S' wr∧Bx J S' wr w.heap.size #[.slice (some ⟨J,0,none⟩) C.ts.length I,.int .i64 q'.pos,.int .i64 C.fin,.bool C.scr,.slice S'.rq.a q'.rq.length S'.rq.cap,.slice S'.im.a q'.im.length S'.im.cap,.slice S'.ep.a q'.ep.length S'.ep.cap,.slice S'.st.a q'.st.length S'.st.cap,.slice S'.ex.a q'.ex.length S'.ex.cap,.slice S'.la.a q'.la.length S'.la.cap,.int .i64 z',.int .i64 d]∧Bx J S' wr (w.heap.size+1) #[.slice none 0 0,.int .i64 0,.int .i64 0,.bool false,.slice none 0 0,.slice none 0 0,.slice none 0 0,.slice none 0 0,.slice none 0 0,.slice none 0 0,.int .i64 0,.int .i64 0]∧Row S' wr n w.heap.size r l)
 case atStart=>exact⟨_,S1,q1,z1,_,[],aK.out,rfl,fun _=>by omega,.inr rfl,rfl,rfl,(aH.out.put h.out ..),(aW.out.put (by omega) ..),(h.out.put ..),(j.out.other (by omega) ..),(z.out.put h.out ..)⟩
 case round=>
  obtain⟨x2,S2,q2,z2,r,l,i2,e2,l2,n2,rfl,rfl,m2,t2,X0,X1,R0⟩:=hrel
  have h:=zc X0
  have j:=zc X1
  have am:=zc m2
  have aq:=zc t2
  have aw:=zc i2
  have ax:=zc e2
  have aY:=zc l2
  have z:=zc R0
  have bb:l.length≤4000:=n2.elim (fun g=>by have:=m2.inv.pos;omega) (fun g=>by rw[g];simp)
  have aS:=zc n2
  clear X0 X1 i2 m2 t2 e2 l2 R0 n2
  by_cases hz:z2<0
  ·skip
   obtain⟨rfl,rfl⟩:=za7 aw.out hz
   have be:=aY.out hz
   obtain⟨Y,a1,a2,Z,a4,a5,U,X,a8,a9,A,D,V⟩:=h.out.box
   go_wp2_with fail
   refine (zaU C J I n (.ok q2) S2 q2 (-1) d true _ (zU q2) am.out).mono ?_
   rintro e w3 ⟨O,q3,z3,n3,rfl,i3,m3,s3⟩
   replace h:=zc (h.out.stp s3)
   replace j:=zc (j.out.stp s3)
   have ao:=zc (aq.out.step s3)
   have H:Hid (Row O w3 n w.heap.size r l):=z.out.stp s3
   clear z
   have z:=zc H
   clear H
   clear aq
   have al:=zc m3
   have ac:=zc i3
   clear i3 m3 s3 am
   clear Y a1 a2 Z a4 a5 U X a8 a9 A D V
   have aZ:w.heap.size+1<w3.heap.size:=j.out.lt
   unfold pv
   go_upto_region 6 with fail
   refine zJ (R:=fun W=>Bx J O W (w.heap.size) _∧Bx J O W (w.heap.size+1) _∧Bx J O W (w3.heap.size) _∧Row O W n w.heap.size r l∧Mem C J I n O q3 W∧SB w.heap.size S w O W) ⟨(h.out.alloc _),(j.out.alloc _),(Bx.new al.out _),(z.out.alloc _),(al.out.alloc _),(ao.out.alloc _)⟩ ?_
   clear h j ao al
   clear z
   rintro w4 ⟨X0,X1,X2,R0,m4,t4⟩
   have z:=zc R0
   clear R0
   have h:=zc X0
   have j:=zc X1
   have K:=zc X2
   have az:=zc m4
   have ay:=zc t4
   clear m4 t4 X0 X1 X2
   obtain⟨Y,a1,a2,Z,a4,a5,U,X,a8,a9,A,D,V⟩:=h.out.box
   obtain⟨c0,c1,c2,c3,c4,c5,c6,c7,c8,c9,aL,aT,cf⟩:=K.out.box
   go_upto_region 7 with fail
   refine zJ (R:=fun W=>Bx J O W (w.heap.size) _∧Bx J O W (w.heap.size+1) _∧Bx J O W (w3.heap.size) _∧Row O W n w.heap.size r l∧Mem C J I n O q3 W∧SB w.heap.size S w O W) ⟨(h.out.put ..),(j.out.other (by omega) ..),(K.out.other (by omega) ..),(z.out.put h.out ..),(az.out.put h.out ..),(ay.out.put (by omega) ..)⟩ ?_
   clear Y a1 a2 Z a4 a5 U X a8 a9 A D V c0 c1 c2 c3 c4 c5 c6 c7 c8 c9 aL aT cf
   clear h j K ay az
   clear z
   rintro w5 ⟨X0,X1,X2,R0,m5,t5⟩
   have z:=zc R0
   clear R0
   have h:=zc X0
   have j:=zc X1
   have K:=zc X2
   have ag:=zc m5
   have ak:=zc t5
   clear m5 t5 X0 X1 X2
   skip
   obtain⟨Y,a1,a2,Z,a4,a5,U,X,a8,a9,A,D,V⟩:=h.out.box
   skip
   go_wp2_with fail
   refine (zg C J I n O q3 z3 d 1 sAs _ ag.out.tok aj (by decide)).mono ?_
   rintro e w6 ⟨rfl,ah⟩
   replace h:=zc (h.out.below ah)
   replace j:=zc (j.out.below ah)
   replace K:=zc (K.out.below ah)
   have N:=zc (ak.out.below ah)
   have L:=zc (ag.out.later ah)
   have H:Hid (Row O w6 n w.heap.size r l):=z.out.below ah
   clear z
   have z:=zc H
   clear H
   clear ah ak ag
   clear Y a1 a2 Z a4 a5 U X a8 a9 A D V
   go_upto_if 28 with fail
   go_cut [11] (fun aO wx=>∃(M:Sv) (q5:PS) (z5:Int) (n5:ByteArray),aO= .string n5∧Is2 (bd (bd (.ok q2) (zh C true)) (asP C ai)) q5 z5 n5∧Mem C J I n M q5 wx∧SB w.heap.size S w M wx∧Bx J M wx w.heap.size #[.slice (some ⟨J,0,none⟩) C.ts.length I,.int .i64 q5.pos,.int .i64 C.fin,.bool C.scr,.slice M.rq.a q5.rq.length M.rq.cap,.slice M.im.a q5.im.length M.im.cap,.slice M.ep.a q5.ep.length M.ep.cap,.slice M.st.a q5.st.length M.st.cap,.slice M.ex.a q5.ex.length M.ex.cap,.slice M.la.a q5.la.length M.la.cap,.int .i64 z5,.int .i64 d]∧Bx J M wx (w.heap.size+1) #[.slice none 0 0,.int .i64 0,.int .i64 0,.bool false,.slice none 0 0,.slice none 0 0,.slice none 0 0,.slice none 0 0,.slice none 0 0,.slice none 0 0,.int .i64 0,.int .i64 0]∧Row M wx n w.heap.size r l)
   case first=>
    cases hb:(decide (z3<0)&&isT C q3.pos 1 sAs) with
    |true=>
     have aJ:q3.pos<C.ts.length:=by rw[Bool.and_eq_true] at hb;exact zaz hb.2 (by decide)
     obtain⟨Y,a1,a2,Z,a4,a5,U,X,a8,a9,A,D,V⟩:=h.out.box
     have aX:z3= -1:=by rw[Bool.and_eq_true,decide_eq_true_eq] at hb;exact (za7 ac.out.fst hb.1).2
     subst aX
     go_wp2_with fail
     refine (zaU C J I n (.ok (adv q3)) O (adv q3) (-1) d ai _ (zU _) ((L.out.adv aJ).set h.out 1 _)).mono ?_
     rintro e w7 ⟨S7,q7,z7,n7,rfl,i7,m7,s7⟩
     have ae:Hid (Bx J S7 w7 _ _):=(h.out.at1 _).stp s7
     have ad:Hid (Bx J S7 w7 _ _):=(j.out.set_other (by omega) 1 _).stp s7
     have as:Hid (Bx J S7 w7 _ _):=(K.out.set_other (by omega) 1 _).stp s7
     have ab:Hid (SB w.heap.size S w S7 w7):=(N.out.set (by omega) 1 _).step s7
     replace z:=zc ((z.out.set h.out 1 _).stp s7)
     clear h j K N
     have h:=zc ae
     have j:=zc ad
     have K:=zc as
     clear ae ad as
     have aa:=zc m7
     have aI:=zc i7
     clear i7 m7 s7 L
     clear Y a1 a2 Z a4 a5 U X a8 a9 A D V
     have ba:w.heap.size+1<w7.heap.size:=j.out.lt
     have aD:w3.heap.size<w7.heap.size:=K.out.lt
     unfold pv
     go_upto_region 11 with fail
     refine zJ (R:=fun W=>Bx J S7 W (w.heap.size) _∧Bx J S7 W (w.heap.size+1) _∧Bx J S7 W (w3.heap.size) _∧Bx J S7 W (w7.heap.size) _∧Row S7 W n w.heap.size r l∧Mem C J I n S7 q7 W∧SB w.heap.size S w S7 W) ⟨(h.out.alloc _),(j.out.alloc _),(K.out.alloc _),(Bx.new aa.out _),(z.out.alloc _),(aa.out.alloc _),(ab.out.alloc _)⟩ ?_
     clear h j K ab aa
     clear z
     rintro w8 ⟨X0,X1,X2,X3,R0,m8,t8⟩
     have z:=zc R0
     clear R0
     have h:=zc X0
     have j:=zc X1
     have K:=zc X2
     have aR:=zc X3
     have av:=zc m8
     have au:=zc t8
     clear m8 t8 X0 X1 X2 X3
     obtain⟨Y,a1,a2,Z,a4,a5,U,X,a8,a9,A,D,V⟩:=h.out.box
     obtain⟨d0,d1,d2,d3,d4,d5,d6,d7,d8,d9,bc,bg,df⟩:=aR.out.box
     go_wp2
     go_meet
     case rel=>exact⟨S7,q7,z7,n7,rfl,zoU ac.out hb aI.out,(av.out.put h.out ..),(au.out.put (by omega) ..),(h.out.put ..),(j.out.other (by omega) ..),(z.out.put h.out ..)⟩
    |false=>
     cases e3:(n3.toList==[100,101,102,97,117,108,116]) with
     |true=>
      cases ai with
      |false=>
       obtain⟨Y,a1,a2,Z,a4,a5,U,X,a8,a9,A,D,V⟩:=h.out.box
       go_wp2_with fail
       refine (zcL C J I n O q3 z3 d _ L.out.tok aj).mono ?_
       rintro e w7 ⟨rfl,E⟩
       replace h:=zc (h.out.below E)
       replace j:=zc (j.out.below E)
       replace K:=zc (K.out.below E)
       have ab:=zc (N.out.below E)
       have aa:=zc (L.out.later E)
       have H:Hid (Row O w7 n w.heap.size r l):=z.out.below E
       clear z
       have z:=zc H
       clear H
       clear E N L
       clear Y a1 a2 Z a4 a5 U X a8 a9 A D V
       obtain⟨Y,a1,a2,Z,a4,a5,U,X,a8,a9,A,D,V⟩:=h.out.box
       unfold pv
       go_wp2
       go_meet
       case rel=>exact⟨O,q3,(zbi C q3.pos z3),n3,rfl,zoV ac.out hb (by rw[e3];rfl),(aa.out.put h.out ..),(ab.out.put (by omega) ..),(h.out.put ..),(j.out.other (by omega) ..),(z.out.put h.out ..)⟩
      |true=>
       obtain⟨Y,a1,a2,Z,a4,a5,U,X,a8,a9,A,D,V⟩:=h.out.box
       go_wp2
       go_meet
       case rel=>exact⟨O,q3,z3,n3,rfl,ziY ac.out hb (by rw[e3];rfl),L.out,N.out,h.out,j.out,z.out⟩
     |false=>
      obtain⟨Y,a1,a2,Z,a4,a5,U,X,a8,a9,A,D,V⟩:=h.out.box
      go_wp2
      go_meet
      case rel=>exact⟨O,q3,z3,n3,rfl,ziY ac.out hb (by rw[e3];rfl),L.out,N.out,h.out,j.out,z.out⟩
   case rest=>
    obtain⟨M,q5,z5,n5,rfl,i5,m5,t5,X0,X1,R0⟩:=hcut
    clear h j K z L N
    have h:=zc X0
    have j:=zc X1
    have ag:=zc m5
    have ak:=zc t5
    have ap:=zc i5
    have z:=zc R0
    clear X0 X1 i5 m5 t5 R0
    go_upto_region 15 with fail
    go_cut [8] (fun s8 wx=>s8= .bool (za5 l||(n3.toList==[100,101,102,97,117,108,116]))∧wx=wc)
    case first=>
     cases ha:za5 l with
     |true=>
      go_wp2
      go_meet
      case rel=>exact⟨by rw[ha];rfl,rfl⟩
     |false=>
      cases e3:(n3.toList==[100,101,102,97,117,108,116]) with
      |true=>
       go_wp2
       go_meet
       case rel=>exact⟨by rw[ha,e3];rfl,rfl⟩
      |false=>
       go_wp2
       go_meet
       case rel=>exact⟨by rw[ha,e3];rfl,rfl⟩
    case rest=>
     obtain⟨rfl,rfl⟩:=hcut
     have ar:=fun o=>z.out.own.alloc o
     have aU:=ag.out.base
     go_wp2_with (at_builtin;refine zcl _ rfl _ _ 24 rfl n 102 i0 _ 4 56 Tryz.underlying24 hi aP aE aQ rfl (by decide) (by decide) r l.length _ (by rfl) (ar _) wc.heap.size (epL ⟨0,n5,n3,sNone⟩) (by rfl) (by exact heap_alloc_new wc _) rfl (by intro u hu;simp[epL] at hu;rcases hu with rfl|rfl|rfl|rfl<;>rfl) (by omega) (by rw[zj];omega) ?_)
     intro r' w6 hr hg aA
     obtain⟨R6,m6⟩:=(z.out.alloc _).grow (x:=⟨0,n5,n3,sNone⟩) (ag.out.alloc _) (by rw[zj];have:=ak.out.size;omega) hg hr (by rw[zj];exact aA)
     have ae:Hid (Bx J M w6 _ _):=(z.out.alloc _).bx (h.out.alloc _) hg
     have ad:Hid (Bx J M w6 _ _):=(z.out.alloc _).bx (j.out.alloc _) hg
     have N:Hid (SB w.heap.size S w M w6):=(z.out.alloc _).sb (ak.out.alloc _) hg
     have L:=zc m6
     clear h j z hr hg aA ar aU ag ak m6
     have h:=zc ae
     have j:=zc ad
     have z:=zc R6
     clear ae ad R6
     cases hc:(decide (z5<0)&&isT C q5.pos 4 zbp) with
     |true=>
      obtain⟨Y,a1,a2,Z,a4,a5,U,X,a8,a9,A,D,V⟩:=h.out.box
      go_wp2_with fail
      refine (zg C J I n M q5 z5 d 4 zbp _ L.out.tok aj (by decide)).mono ?_
      rintro e w7 ⟨rfl,E⟩
      rw[hc]
      replace h:=zc (h.out.below E)
      replace j:=zc (j.out.below E)
      have ab:=zc (N.out.below E)
      have aa:=zc (L.out.later E)
      have H:Hid (Row M w7 n w.heap.size r' (l++[⟨0,n5,n3,sNone⟩])):=z.out.below E
      clear z
      have z:=zc H
      clear H
      clear E N L
      clear Y a1 a2 Z a4 a5 U X a8 a9 A D V
      rw[Bool.and_eq_true,decide_eq_true_eq] at hc
      obtain⟨aC,aB⟩:=hc
      have aV:q5.pos<C.ts.length:=zaz aB (by decide)
      obtain⟨E5,P5⟩:=zoS (l:=l) ac.out ap.out aC aB
      have HE:=zc E5
      obtain rfl:z5= -1:=(za7 ap.out.fst aC).2
      have aM:Hid ((l++[(⟨0,n5,n3,sNone⟩:Ep)]).length≤q5.pos+1∨l++[(⟨0,n5,n3,sNone⟩:Ep)]=[]):=.inl (by simp only[List.length_append,List.length_singleton];exact aS.out.elim (fun g=>by omega) (fun g=>by rw[g];simp))
      clear E5
      obtain⟨Y,a1,a2,Z,a4,a5,U,X,a8,a9,A,D,V⟩:=h.out.box
      go_wp2
      go_roundg (gk-1)
      case rel=>exact⟨.ok (adv q5),M,adv q5,-1,r',l++[⟨0,n5,n3,sNone⟩],zU _,by rw[←ax.out];exact HE.out.symm,fun _=>by rw[zw];omega,aM.out,by simp,by rw[ziW],((aa.out.adv aV).set h.out 1 _),(ab.out.set (by omega) 1 _),(h.out.at1 _),(j.out.set_other (by omega) 1 _),(z.out.set h.out 1 _)⟩
      case measure=>omega
     |false=>
      obtain⟨Y,a1,a2,Z,a4,a5,U,X,a8,a9,A,D,V⟩:=h.out.box
      go_wp2_with fail
      refine (zg C J I n M q5 z5 d 4 zbp _ L.out.tok aj (by decide)).mono ?_
      rintro e w7 ⟨rfl,E⟩
      rw[hc]
      replace h:=zc (h.out.below E)
      replace j:=zc (j.out.below E)
      have ab:=zc (N.out.below E)
      have aa:=zc (L.out.later E)
      have H:Hid (Row M w7 n w.heap.size r' (l++[⟨0,n5,n3,sNone⟩])):=z.out.below E
      clear z
      have z:=zc H
      clear H
      clear E N L
      clear Y a1 a2 Z a4 a5 U X a8 a9 A D V
      obtain⟨Y,a1,a2,Z,a4,a5,U,X,a8,a9,A,D,V⟩:=h.out.box
      go_wp2_with fail
      refine (zab C J I n _ M q5 z5 d zbd _ ap.out.fst aa.out).mono ?_
      rintro e w8 ⟨S8,q8,z8,rfl,i8,m8,s8⟩
      replace h:=zc (h.out.stp s8)
      replace j:=zc (j.out.stp s8)
      have au:=zc (ab.out.step s8)
      have H:Hid (Row S8 w8 n w.heap.size r' (l++[⟨0,n5,n3,sNone⟩])):=z.out.stp s8
      clear z
      have z:=zc H
      clear H
      clear ab
      have av:=zc m8
      have aN:=zc i8
      clear i8 m8 s8 aa
      clear Y a1 a2 Z a4 a5 U X a8 a9 A D V
      obtain⟨b0,b1,b2,b3,b4,b5,b6,b7,b8,b9,aG,aF,bf⟩:=j.out.box
      unfold pv
      go_wp2
      refine bodyPost_ret (ziX rfl _ _ (w.heap.size+1) 53 _ (0,0) _ rfl ((j.out.put ..)).heap Tryz.underlying53 rfl (by kernel_rfl)) rfl ?_
      exact⟨S8,q8,z8,r',l++[⟨0,n5,n3,sNone⟩],by simp[pv,ziW],by rw[←ax.out,zx,zeO];exact zoR ac.out ap.out hc aN.out,(av.out.put j.out ..),((au.out.put (by omega) ..)).done,(z.out.put j.out ..),by simp;omega⟩
  ·skip
   obtain⟨Y,a1,a2,Z,a4,a5,U,X,a8,a9,A,D,V⟩:=h.out.box
   go_wp2_with fail
   refine (zab C J I n _ S2 q2 z2 d zbd _ aw.out am.out).mono ?_
   rintro e w3 ⟨O,q3,z3,rfl,i3,m3,s3⟩
   replace h:=zc (h.out.stp s3)
   replace j:=zc (j.out.stp s3)
   have ao:=zc (aq.out.step s3)
   have H:Hid (Row O w3 n w.heap.size r l):=z.out.stp s3
   clear z
   have z:=zc H
   clear H
   clear aq
   have al:=zc m3
   have ac:=zc i3
   clear i3 m3 s3 am
   clear Y a1 a2 Z a4 a5 U X a8 a9 A D V
   obtain⟨b0,b1,b2,b3,b4,b5,b6,b7,b8,b9,aG,aF,bf⟩:=j.out.box
   unfold pv
   go_wp2
   refine bodyPost_ret (ziX rfl _ _ (w.heap.size+1) 53 _ (0,0) _ rfl ((j.out.put ..)).heap Tryz.underlying53 rfl (by kernel_rfl)) rfl ?_
   exact⟨O,q3,z3,r,l,rfl,by rw[←ax.out];exact zoT aw.out (by omega) ac.out,(al.out.put j.out ..),((ao.out.put (by omega) ..)).done,(z.out.put j.out ..),by omega⟩
def SumOK (C:Cx) (gt cap base m:Nat):Prop:=∀(x:PR) (S:Sv) (q:PS) (z:Int) (d:Nat) (w:World),Is x q z→Mem C gt cap base S q w→(z<0→C.ts.length-q.pos<m)→d≤20→
 Calls Tryz.prog 75 #[pv C gt cap S q z d] w (Out C gt cap base (bd x (pE C .sum d)) d S w)
theorem zf0 {C:Cx} {o:Bool} {q j:PS} {w:Int} {n:ByteArray} (h:Is2 (bd (.ok q) (zh C o)) j w n) (z:zB C q.pos o=true):j=adv q∧w= -1∧n=(ze C q.pos).text:=by
 rw[zx,zh,if_pos z] at h
 exact h
theorem zf1 {C:Cx} {o:Bool} {q n:PS} {j:Int} {z:ByteArray} (h:Is2 (bd (.ok q) (zh C o)) n j z) (w:zB C q.pos o=false):j=(zq C q.pos:Int):=by
 rw[zx,zh,w] at h
 exact h
theorem zja {C:Cx} {n:ByteArray} {y:Except Nat (PS×ByteArray)} {q:PS} {z:Int} {f:ByteArray} (h:Is2 y q z f) (j:(decide (z<0)&&isT C q.pos 4 zm)=true):bd (bd (bd (zaG y) (zd C 4 zm)) (zd C 4 zay)) (zM C ⟨5,0,n,f,0,0⟩)=bd y fun a=>zbz C n a.2 a.1:=by
 rw[Bool.and_eq_true,decide_eq_true_eq] at j
 cases y with
 |ok a=>
  obtain⟨rfl,_,rfl⟩:=h
  show _=zbz C n a.2 a.1
  rw[zbz,if_pos j.2]
  rfl
 |error e=>rfl
theorem zjb {C:Cx} {n:ByteArray} {y:Except Nat (PS×ByteArray)} {q:PS} {z:Int} {f:ByteArray} (h:Is2 y q z f) (j:(decide (z<0)&&isT C q.pos 4 zm)=false):bd (zaG y) (zM C ⟨4,0,n,f,0,0⟩)=bd y fun a=>zbz C n a.2 a.1:=by
 cases y with
 |ok a=>
  obtain⟨rfl,rfl,rfl⟩:=h
  rw[Bool.and_eq_false_iff] at j
  show _=zbz C n a.2 a.1
  rw[zbz,j.resolve_left (by decide)]
  rfl
 |error e=>rfl
theorem zjc {C:Cx} {o:Bool} {x:PR} {q:PS} {z:Int} {n:ByteArray} (h:Is2 (bd x (zh C o)) q z n):z<0→1≤q.pos:=by
 intro A
 cases j:bd x (zh C o) with
 |error e=>rw[j] at h;have:z=(e:Int):=h;omega
 |ok a=>
  rw[j] at h
  obtain⟨rfl,_,_⟩:=h
  obtain⟨b,_,w⟩:=zi j
  obtain⟨rfl,_⟩:=zbe w
  simp[adv]
theorem zoW (C:Cx) (H j h:Nat) (S:Sv) (q:PS) (d:Nat) (w:World) (A:Mem C H j h S q w) (M:((ze C q.pos).kind==2)=true):
  Calls Tryz.prog 168 #[pv C H j S q (-1) d] w (Out C H j h (pE C .part d q) d S w):=by
 have HM:=zc A
 have o:=A.tok
 have O:C.ts.length≤4000:=A.few
 have aa:=(zak A.tok).1
 clear A
 have U:q.pos<C.ts.length:=zeI M (by decide)
 have HV:Hid (pE C .part d q=bd (.ok (adv q)) (zM C ⟨1,(ze C q.pos).num,sNone,sNone,0,0⟩)):=by show pE C .part d q=_;rw[zbv,if_pos M];rfl
 obtain⟨c0,_,X,_⟩:=o.cells U (d:=⟨0,sNone,0,C.fin⟩)
 change _=some (Value.int .i64 (ze C q.pos).kind) at c0
 change _=some (Value.int .i64 (ze C q.pos).num) at X
 have E:Hid (Mem C H j h S (adv q) w):=HM.out.adv U
 generalize (ze C q.pos).kind=kd at c0 M
 have HN:Hid (∀n,n=(ze C q.pos).num→pE C .part d q=bd (.ok (adv q)) (zM C ⟨1,n,sNone,sNone,0,0⟩)):=fun n e=>by rw[e];exact HV.out
 generalize D:(ze C q.pos).num=nm at X
 have J:Hid (nm=(ze C q.pos).num):=D.symm
 clear D HV o
 unfold pv
 go_enter Tryz.func168,Tryz.ntmps168
 go_wp2_with fail
 refine (zc3 C H j h (.ok (adv q)) S (adv q) (-1) d ⟨1,nm,sNone,sNone,0,0⟩ _ (zU _) ((E.out.alloc _).alloc _) (fun _=>by simp[adv])).mono ?_
 rintro e w1 ⟨S1,q1,z1,rfl,V,Z,N⟩
 obtain⟨X0,X1,Y⟩:=E.out.two2 N
 have z:=zc X1
 have K:=zc Z
 have L:=zc Y
 have I:=zc V
 clear X0 X1 V Z Y N
 obtain⟨b0,b1,b2,b3,b4,b5,b6,b7,b8,b9,ac,ab,bf⟩:=z.out.box
 unfold pv
 go_wp2
 refine bodyPost_ret (results_cell_row rfl _ _ (w.heap.size+1) 53 _ (0,0) _ rfl ((z.out.put ..)).heap Tryz.underlying53 rfl (by kernel_rfl)) rfl ?_
 rw[HN.out nm J.out]
 exact zW rfl I.out (K.out.put z.out ..) (L.out.put (by omega) ..)
theorem zoX (C:Cx) (J o h:Nat) (S:Sv) (q:PS) (d:Nat) (w:World) (I:Mem C J o h S q w) (X:((ze C q.pos).kind==2)=false) (U:isT C q.pos 4 zm=true) (hd:20≤d) (ad:d≤20):
  Calls Tryz.prog 168 #[pv C J o S q (-1) d] w (Out C J o h (pE C .part d q) d S w):=by
 have HM:=zc I
 have A:=I.tok
 have z:C.ts.length≤4000:=I.few
 have aa:=(zak I.tok).1
 clear I
 have hp:q.pos<C.ts.length:=zaz U (by decide)
 have HV:Hid (pE C .part d q= .error (zq C q.pos)):=by show pE C .part d q=_;rw[zbv,X,U];simp[hd]
 have qd:decide ((20:Int)≤(d:Int))=true:=decide_eq_true (by omega)
 obtain⟨c0,_,_,_⟩:=A.cells hp (d:=⟨0,sNone,0,C.fin⟩)
 change _=some (Value.int .i64 (ze C q.pos).kind) at c0
 generalize (ze C q.pos).kind=kd at c0 X
 unfold pv
 go_enter Tryz.func168,Tryz.ntmps168
 go_wp2_with fail
 refine (zg C J o h S q (-1) d 4 zm _ (zo (zo A _) _) z (by decide)).mono ?_
 rintro e w1 ⟨rfl,H⟩
 rw[U]
 obtain⟨V,X1,Z,Y⟩:=HM.out.two H
 have D:=zc V
 have j:=zc X1
 have E:=zc Z
 have K:=zc Y
 clear V X1 Z Y H
 obtain⟨a0,a1,a2,a3,a4,a5,a6,a7,a8,a9,L,N,af⟩:=D.out.box
 go_wp2_with fail
 refine (zcL C J o h S q (-1) d _ E.out.tok z).mono ?_
 rintro e w2 ⟨rfl,n⟩
 replace D:=zc (D.out.below n)
 replace j:=zc (j.out.below n)
 have O:=zc (K.out.below n)
 have M:=zc (E.out.later n)
 clear n K E
 clear a0 a1 a2 a3 a4 a5 a6 a7 a8 a9 L N af
 obtain⟨b0,b1,b2,b3,b4,b5,b6,b7,b8,b9,ac,ab,bf⟩:=j.out.box
 unfold pv
 go_wp2
 refine bodyPost_ret (results_cell_row rfl _ _ (w.heap.size+1) 53 _ (0,0) _ rfl ((j.out.put ..)).heap Tryz.underlying53 rfl (by kernel_rfl)) rfl ?_
 rw[HV.out]
 exact zW rfl (show Is (.error (zq C q.pos)) q _ from rfl) (M.out.put j.out ..) (O.out.put (by omega) ..)
theorem zoY (C:Cx) (A o n:Nat) (S:Sv) (q:PS) (d:Nat) (w:World) (V:Mem C A o n S q w) (hk:((ze C q.pos).kind==2)=false) (ho:isT C q.pos 4 zm=true) (hd:d<20) (hS:SumOK C A o n (C.ts.length-q.pos)):
  Calls Tryz.prog 168 #[pv C A o S q (-1) d] w (Out C A o n (pE C .part d q) d S w):=by
 have HM:=zc V
 have H:=V.tok
 have K:C.ts.length≤4000:=V.few
 have ae:=(zak V.tok).1
 clear V
 have hp:q.pos<C.ts.length:=zaz ho (by decide)
 have HV:Hid (pE C .part d q=bd (bd (.ok (adv q)) (pE C .sum (d+1))) (zd C 4 zay)):=by show pE C .part d q=_;rw[zbv,hk,ho,if_neg (by decide),if_pos rfl,if_neg (by omega)];rfl
 have HS:=zc hS
 clear hS
 have qd:decide ((20:Int)≤(d:Int))=false:=decide_eq_false (by omega)
 obtain⟨c0,_,_,_⟩:=H.cells hp (d:=⟨0,sNone,0,C.fin⟩)
 change _=some (Value.int .i64 (ze C q.pos).kind) at c0
 generalize (ze C q.pos).kind=kd at c0 hk
 unfold pv
 go_enter Tryz.func168,Tryz.ntmps168
 go_wp2_with fail
 refine (zg C A o n S q (-1) d 4 zm _ (zo (zo H _) _) K (by decide)).mono ?_
 rintro e w1 ⟨rfl,O⟩
 rw[ho]
 obtain⟨I,M,m1,t1⟩:=HM.out.two O
 have h:=zc I
 have j:=zc M
 have N:=zc m1
 have X:=zc t1
 clear I M m1 t1 O
 obtain⟨a0,a1,a2,a3,a4,a5,Z,a7,a8,a9,z,E,af⟩:=h.out.box
 go_wp2_with fail
 refine (HS.out (.ok (adv q)) S (adv q) (-1) (d+1) _ (zU _) (((N.out.adv hp).set h.out 1 _).set (h.out.at1 _) 11 _) (fun _=>by show C.ts.length-(q.pos+1)<_;omega) (by omega)).mono ?_
 rintro e w2 ⟨S2,q2,z2,rfl,i2,m2,s2⟩
 replace h:=zc (((h.out.at1 _).at11 _).stp s2)
 replace j:=zc (((j.out.set_other (by omega) 1 _).set_other (by omega) 11 _).stp s2)
 have Y:Hid (SB w.heap.size S w S2 w2):=((X.out.set (by omega) 1 _).set (by omega) 11 _).step s2
 clear X
 have J:=zc m2
 have aa:=zc i2
 clear i2 m2 s2 N
 clear a0 a1 a2 a3 a4 a5 Z a7 a8 a9 z E af
 go_wp2_with fail
 refine (zab C A o n _ S2 q2 z2 (d+1) zay _ aa.out J.out).mono ?_
 rintro e w3 ⟨S3,q3,z3,rfl,i3,m3,s3⟩
 replace h:=zc (h.out.stp s3)
 replace j:=zc (j.out.stp s3)
 have L:=zc (Y.out.step s3)
 clear Y
 have U:=zc m3
 have ad:=zc i3
 clear i3 m3 s3 J
 obtain⟨a0,a1,a2,a3,a4,a5,Z,a7,a8,a9,z,E,af⟩:=h.out.box
 obtain⟨D,hD⟩: ∃D:Nat,D=d+1:=⟨_,rfl⟩
 rw[←hD]
 have ag:(D:Int)-1=d:=by omega
 have aj:D≤20:=by omega
 clear hD hd qd
 unfold pv
 go_upto_region 11 with fail
 refine zJ (R:=fun W=>Bx A S3 W (w.heap.size) _∧Bx A S3 W (w.heap.size+1) _∧Mem C A o n S3 q3 W∧SB w.heap.size S w S3 W) ⟨(h.out.put ..),(j.out.other (by omega) ..),(U.out.put h.out ..),(L.out.put (by omega) ..)⟩ ?_
 clear a0 a1 a2 a3 a4 a5 Z a7 a8 a9 z E af
 clear h j L U
 rintro w4 ⟨I,M,m4,t4⟩
 have h:=zc I
 have j:=zc M
 have ac:=zc m4
 have ab:=zc t4
 clear m4 t4 I M
 obtain⟨a0,a1,a2,a3,a4,a5,Z,a7,a8,a9,z,E,af⟩:=h.out.box
 obtain⟨b0,b1,b2,b3,b4,b5,b6,b7,b8,b9,ai,ah,bf⟩:=j.out.box
 go_wp2
 refine bodyPost_ret (results_cell_row rfl _ _ (w.heap.size+1) 53 _ (0,0) _ rfl (((j.out.set_other (by omega) 11 _).put ..)).heap Tryz.underlying53 rfl (by kernel_rfl)) rfl ?_
 rw[HV.out]
 exact zW rfl ad.out ((ac.out.set h.out 11 _).put (j.out.set_other (by omega) 11 _) ..) ((ab.out.set (by omega) 11 _).put (by omega) ..)
theorem zoZ (n:List Tk) (h:Nat) (E A o:Nat) (S:Sv) (q:PS) (d:Nat) (w:World) (Y:Mem (Cx.mk n h true) E A o S q w) (hp: ¬q.pos<(Cx.mk n h true).ts.length):
  Calls Tryz.prog 168 #[pv (Cx.mk n h true) E A S q (-1) d] w (Out (Cx.mk n h true) E A o (pE (Cx.mk n h true) .part d q) d S w):=by
 have HM:=zc Y
 have Z:=Y.tok
 have H:(Cx.mk n h true).ts.length≤4000:=Y.few
 have ai:=(zak Y.tok).1
 clear Y
 have hk:((ze (Cx.mk n h true) q.pos).kind==2)=false:=by rw[zdb (by omega)];rfl
 have ho:isT (Cx.mk n h true) q.pos 4 zm=false:=zeo hp (by decide)
 have hu:isT (Cx.mk n h true) q.pos 1 za4=false:=zeo hp (by decide)
 have hn:zB (Cx.mk n h true) q.pos false=false:=zfP hp
 have HV:Hid (pE (Cx.mk n h true) .part d q= .error (zq (Cx.mk n h true) q.pos)):=by show pE (Cx.mk n h true) .part d q=_;rw[zbv,hk,ho,hu,zh,hn];rfl
 have am: ¬q.pos<n.length:=hp
 unfold pv
 go_enter Tryz.func168,Tryz.ntmps168
 go_wp2_with fail
 refine (zg (Cx.mk n h true) E A o S q (-1) d 4 zm _ (zo (zo Z _) _) H (by decide)).mono ?_
 rintro e w1 ⟨rfl,X⟩
 rw[ho]
 obtain⟨M,V,m1,t1⟩:=HM.out.two X
 have z:=zc M
 have j:=zc V
 have J:=zc m1
 have aa:=zc t1
 clear M V m1 t1 X
 obtain⟨a0,a1,a2,a3,a4,a5,a6,a7,a8,a9,I,K,af⟩:=z.out.box
 go_wp2_with fail
 refine (zg (Cx.mk n h true) E A o S q (-1) d 1 za4 _ J.out.tok H (by decide)).mono ?_
 rintro e w2 ⟨rfl,D⟩
 rw[hu]
 replace z:=zc (z.out.below D)
 replace j:=zc (j.out.below D)
 have ab:=zc (aa.out.below D)
 have N:=zc (J.out.later D)
 clear D aa J
 clear a0 a1 a2 a3 a4 a5 a6 a7 a8 a9 I K af
 obtain⟨a0,a1,a2,a3,a4,a5,a6,a7,a8,a9,I,K,af⟩:=z.out.box
 go_wp2_with fail
 refine (zaU (Cx.mk n h true) E A o (.ok q) S q (-1) d false _ (zU q) N.out).mono ?_
 rintro e w3 ⟨O,q3,z3,n3,rfl,i3,m3,s3⟩
 replace z:=zc (z.out.stp s3)
 replace j:=zc (j.out.stp s3)
 have U:=zc (ab.out.step s3)
 clear ab
 have L:=zc m3
 have ag:=zc i3
 clear i3 m3 s3 N
 clear a0 a1 a2 a3 a4 a5 a6 a7 a8 a9 I K af
 obtain rfl:=zf1 ag.out hn
 have dz:decide ((0:Int)≤(zq (Cx.mk n h true) q.pos:Int))=true:=decide_eq_true (by omega)
 have ah:w.heap.size+1<w3.heap.size:=j.out.lt
 unfold pv
 go_upto_region 17 with fail
 refine zJ (R:=fun W=>Bx E O W (w.heap.size) _∧Bx E O W (w.heap.size+1) _∧Bx E O W (w3.heap.size) _∧Mem (Cx.mk n h true) E A o O q3 W∧SB w.heap.size S w O W) ⟨(z.out.alloc _),(j.out.alloc _),(Bx.new L.out _),(L.out.alloc _),(U.out.alloc _)⟩ ?_
 clear z j U L
 rintro w4 ⟨M,V,X2,m4,t4⟩
 have z:=zc M
 have j:=zc V
 have ac:=zc X2
 have ae:=zc m4
 have ad:=zc t4
 clear m4 t4 M V X2
 obtain⟨b0,b1,b2,b3,b4,b5,b6,b7,b8,b9,ak,aj,bf⟩:=j.out.box
 obtain⟨c0,c1,c2,c3,c4,c5,c6,c7,c8,c9,al,an,cf⟩:=ac.out.box
 go_wp2
 refine bodyPost_ret (results_cell_row rfl _ _ (w.heap.size+1) 53 _ (0,0) _ rfl ((j.out.put ..)).heap Tryz.underlying53 rfl (by kernel_rfl)) rfl ?_
 rw[HV.out]
 exact zW rfl (show Is (.error (zq (Cx.mk n h true) q.pos)) q3 _ from rfl) (ae.out.put j.out ..) (ad.out.put (by omega) ..)
theorem zpa (j:List Tk) (h:Nat) (E A o:Nat) (S:Sv) (q:PS) (d:Nat) (w:World) (Z:Mem (Cx.mk j h true) E A o S q w) (hk:((ze (Cx.mk j h true) q.pos).kind==2)=false) (ho:isT (Cx.mk j h true) q.pos 4 zm=false) (hp:q.pos<(Cx.mk j h true).ts.length) (hu:isT (Cx.mk j h true) q.pos 1 za4=false) (hn:zB (Cx.mk j h true) q.pos false=false):
  Calls Tryz.prog 168 #[pv (Cx.mk j h true) E A S q (-1) d] w (Out (Cx.mk j h true) E A o (pE (Cx.mk j h true) .part d q) d S w):=by
 have HM:=zc Z
 have I:=Z.tok
 have H:(Cx.mk j h true).ts.length≤4000:=Z.few
 have ai:=(zak Z.tok).1
 clear Z
 have HV:Hid (pE (Cx.mk j h true) .part d q= .error (zq (Cx.mk j h true) q.pos)):=by show pE (Cx.mk j h true) .part d q=_;rw[zbv,hk,ho,hu,zh,hn];rfl
 have am:q.pos<j.length:=hp
 obtain⟨c0,_,_,_⟩:=I.cells hp (d:=⟨0,sNone,0,(Cx.mk j h true).fin⟩)
 change _=some (Value.int .i64 (ze (Cx.mk j h true) q.pos).kind) at c0
 generalize (ze (Cx.mk j h true) q.pos).kind=kd at c0 hk
 unfold pv
 go_enter Tryz.func168,Tryz.ntmps168
 go_wp2_with fail
 refine (zg (Cx.mk j h true) E A o S q (-1) d 4 zm _ (zo (zo I _) _) H (by decide)).mono ?_
 rintro e w1 ⟨rfl,Y⟩
 rw[ho]
 obtain⟨N,X,m1,t1⟩:=HM.out.two Y
 have z:=zc N
 have n:=zc X
 have K:=zc m1
 have aa:=zc t1
 clear N X m1 t1 Y
 obtain⟨a0,a1,a2,a3,a4,a5,a6,a7,a8,a9,J,L,af⟩:=z.out.box
 go_wp2_with fail
 refine (zg (Cx.mk j h true) E A o S q (-1) d 1 za4 _ K.out.tok H (by decide)).mono ?_
 rintro e w2 ⟨rfl,D⟩
 rw[hu]
 replace z:=zc (z.out.below D)
 replace n:=zc (n.out.below D)
 have ab:=zc (aa.out.below D)
 have O:=zc (K.out.later D)
 clear D aa K
 clear a0 a1 a2 a3 a4 a5 a6 a7 a8 a9 J L af
 obtain⟨a0,a1,a2,a3,a4,a5,a6,a7,a8,a9,J,L,af⟩:=z.out.box
 go_wp2_with fail
 refine (zaU (Cx.mk j h true) E A o (.ok q) S q (-1) d false _ (zU q) O.out).mono ?_
 rintro e w3 ⟨U,q3,z3,n3,rfl,i3,m3,s3⟩
 replace z:=zc (z.out.stp s3)
 replace n:=zc (n.out.stp s3)
 have V:=zc (ab.out.step s3)
 clear ab
 have M:=zc m3
 have ag:=zc i3
 clear i3 m3 s3 O
 clear a0 a1 a2 a3 a4 a5 a6 a7 a8 a9 J L af
 obtain rfl:=zf1 ag.out hn
 have dz:decide ((0:Int)≤(zq (Cx.mk j h true) q.pos:Int))=true:=decide_eq_true (by omega)
 have ah:w.heap.size+1<w3.heap.size:=n.out.lt
 unfold pv
 go_upto_region 17 with fail
 refine zJ (R:=fun W=>Bx E U W (w.heap.size) _∧Bx E U W (w.heap.size+1) _∧Bx E U W (w3.heap.size) _∧Mem (Cx.mk j h true) E A o U q3 W∧SB w.heap.size S w U W) ⟨(z.out.alloc _),(n.out.alloc _),(Bx.new M.out _),(M.out.alloc _),(V.out.alloc _)⟩ ?_
 clear z n V M
 rintro w4 ⟨N,X,X2,m4,t4⟩
 have z:=zc N
 have n:=zc X
 have ac:=zc X2
 have ae:=zc m4
 have ad:=zc t4
 clear m4 t4 N X X2
 obtain⟨b0,b1,b2,b3,b4,b5,b6,b7,b8,b9,ak,aj,bf⟩:=n.out.box
 obtain⟨c0,c1,c2,c3,c4,c5,c6,c7,c8,c9,al,an,cf⟩:=ac.out.box
 go_wp2
 refine bodyPost_ret (results_cell_row rfl _ _ (w.heap.size+1) 53 _ (0,0) _ rfl ((n.out.put ..)).heap Tryz.underlying53 rfl (by kernel_rfl)) rfl ?_
 rw[HV.out]
 exact zW rfl (show Is (.error (zq (Cx.mk j h true) q.pos)) q3 _ from rfl) (ae.out.put n.out ..) (ad.out.put (by omega) ..)
theorem zjd (H:List Tk) (n:Nat) (E z j:Nat) (S:Sv) (q:PS) (d:Nat) (w:World) (Z:Mem (Cx.mk H n true) E z j S q w) (A:Nat):
  Calls Tryz.prog 168 #[pv (Cx.mk H n true) E z S q (A:Int) d] w (Out (Cx.mk H n true) E z j (.error A) d S w):=by
 have HM:=zc Z
 have aa:=Z.tok
 have I:(Cx.mk H n true).ts.length≤4000:=Z.few
 have aj:=(zak Z.tok).1
 clear Z
 have hz: ¬(A:Int)<0:=by omega
 have hs: ∀k s,(decide ((A:Int)<0)&&isT (Cx.mk H n true) q.pos k s)=false:=fun k s=>by rw[decide_eq_false hz];rfl
 unfold pv
 go_enter Tryz.func168,Tryz.ntmps168
 go_wp2_with fail
 refine (zg (Cx.mk H n true) E z j S q (A:Int) d 4 zm _ (zo (zo aa _) _) I (by decide)).mono ?_
 rintro e w1 ⟨rfl,Y⟩
 rw[hs]
 obtain⟨N,X,m1,t1⟩:=HM.out.two Y
 have o:=zc N
 have h:=zc X
 have K:=zc m1
 have ab:=zc t1
 clear N X m1 t1 Y
 obtain⟨a0,a1,a2,a3,a4,a5,a6,a7,a8,a9,J,L,af⟩:=o.out.box
 go_wp2_with fail
 refine (zg (Cx.mk H n true) E z j S q (A:Int) d 1 za4 _ K.out.tok I (by decide)).mono ?_
 rintro e w2 ⟨rfl,D⟩
 rw[hs]
 replace o:=zc (o.out.below D)
 replace h:=zc (h.out.below D)
 have ac:=zc (ab.out.below D)
 have O:=zc (K.out.later D)
 clear D ab K
 clear a0 a1 a2 a3 a4 a5 a6 a7 a8 a9 J L af
 obtain⟨a0,a1,a2,a3,a4,a5,a6,a7,a8,a9,J,L,af⟩:=o.out.box
 go_wp2_with fail
 refine (zaU (Cx.mk H n true) E z j (.error A) S q (A:Int) d false _ (show Is (.error A) q _ from rfl) O.out).mono ?_
 rintro e w3 ⟨U,q3,z3,n3,rfl,i3,m3,s3⟩
 replace o:=zc (o.out.stp s3)
 replace h:=zc (h.out.stp s3)
 have V:=zc (ac.out.step s3)
 clear ac
 have M:=zc m3
 have ah:=zc i3
 clear i3 m3 s3 O
 clear a0 a1 a2 a3 a4 a5 a6 a7 a8 a9 J L af
 obtain rfl:z3=(A:Int):=ah.out
 have dz:decide ((0:Int)≤(A:Int))=true:=decide_eq_true (by omega)
 have ai:w.heap.size+1<w3.heap.size:=h.out.lt
 unfold pv
 go_upto_region 17 with fail
 refine zJ (R:=fun W=>Bx E U W (w.heap.size) _∧Bx E U W (w.heap.size+1) _∧Bx E U W (w3.heap.size) _∧Mem (Cx.mk H n true) E z j U q3 W∧SB w.heap.size S w U W) ⟨(o.out.alloc _),(h.out.alloc _),(Bx.new M.out _),(M.out.alloc _),(V.out.alloc _)⟩ ?_
 clear o h V M
 rintro w4 ⟨N,X,X2,m4,t4⟩
 have o:=zc N
 have h:=zc X
 have ad:=zc X2
 have ag:=zc m4
 have ae:=zc t4
 clear m4 t4 N X X2
 obtain⟨b0,b1,b2,b3,b4,b5,b6,b7,b8,b9,al,ak,bf⟩:=h.out.box
 obtain⟨c0,c1,c2,c3,c4,c5,c6,c7,c8,c9,am,an,cf⟩:=ad.out.box
 go_wp2
 refine bodyPost_ret (results_cell_row rfl _ _ (w.heap.size+1) 53 _ (0,0) _ rfl ((h.out.put ..)).heap Tryz.underlying53 rfl (by kernel_rfl)) rfl ?_
 exact zW rfl (show Is (.error A) q3 _ from rfl) (ag.out.put h.out ..) (ae.out.put (by omega) ..)
theorem zpb (j:List Tk) (h:Nat) (L A n:Nat) (S:Sv) (q:PS) (d:Nat) (w:World) (N:Mem (Cx.mk j h true) L A n S q w) (hk:((ze (Cx.mk j h true) q.pos).kind==2)=false) (ho:isT (Cx.mk j h true) q.pos 4 zm=false) (hp:q.pos<(Cx.mk j h true).ts.length) (hu:isT (Cx.mk j h true) q.pos 1 za4=true):
  Calls Tryz.prog 168 #[pv (Cx.mk j h true) L A S q (-1) d] w (Out (Cx.mk j h true) L A n (pE (Cx.mk j h true) .part d q) d S w):=by
 have HM:=zc N
 have H:=N.tok
 have E:(Cx.mk j h true).ts.length≤4000:=N.few
 have ad:=(zak N.tok).1
 clear N
 have HV:Hid (pE (Cx.mk j h true) .part d q=zbq (Cx.mk j h true) za4 (adv q)):=by show pE (Cx.mk j h true) .part d q=_;rw[zbv,hk,ho,hu];rfl
 have ah:q.pos<j.length:=hp
 obtain⟨c0,_,_,_⟩:=H.cells hp (d:=⟨0,sNone,0,(Cx.mk j h true).fin⟩)
 change _=some (Value.int .i64 (ze (Cx.mk j h true) q.pos).kind) at c0
 generalize (ze (Cx.mk j h true) q.pos).kind=kd at c0 hk
 unfold pv
 go_enter Tryz.func168,Tryz.ntmps168
 go_wp2_with fail
 refine (zg (Cx.mk j h true) L A n S q (-1) d 4 zm _ (zo (zo H _) _) E (by decide)).mono ?_
 rintro e w1 ⟨rfl,M⟩
 rw[ho]
 obtain⟨X0,X1,m1,t1⟩:=HM.out.two M
 have z:=zc X0
 have o:=zc X1
 have K:=zc m1
 have U:=zc t1
 clear X0 X1 m1 t1 M
 obtain⟨a0,a1,a2,a3,a4,Y,Z,a7,a8,a9,I,J,af⟩:=z.out.box
 go_wp2_with fail
 refine (zg (Cx.mk j h true) L A n S q (-1) d 1 za4 _ K.out.tok E (by decide)).mono ?_
 rintro e w2 ⟨rfl,D⟩
 rw[hu]
 replace z:=zc (z.out.below D)
 replace o:=zc (o.out.below D)
 have V:=zc (U.out.below D)
 have O:=zc (K.out.later D)
 clear D U K
 clear a0 a1 a2 a3 a4 Y Z a7 a8 a9 I J af
 obtain⟨a0,a1,a2,a3,a4,Y,Z,a7,a8,a9,I,J,af⟩:=z.out.box
 go_wp2_with fail
 refine (zgy (Cx.mk j h true) L A n S (adv q) d za4 _ ((O.out.adv hp).set z.out 1 _) (by simp[adv])).mono ?_
 rintro e w3 ⟨S3,q3,z3,rfl,i3,m3,X⟩
 replace z:=zc ((z.out.at1 _).stp X)
 replace o:=zc ((o.out.set_other (by omega) 1 _).stp X)
 have aa:Hid (SB w.heap.size S w S3 w3):=(V.out.set (by omega) 1 _).step X
 clear V
 have ac:=zc m3
 have ab:=zc i3
 clear i3 m3 X O
 clear a0 a1 a2 a3 a4 Y Z a7 a8 a9 I J af
 obtain⟨b0,b1,b2,b3,b4,b5,b6,b7,b8,b9,ag,ae,bf⟩:=o.out.box
 unfold pv
 go_wp2
 refine bodyPost_ret (results_cell_row rfl _ _ (w.heap.size+1) 53 _ (0,0) _ rfl ((o.out.put ..)).heap Tryz.underlying53 rfl (by kernel_rfl)) rfl ?_
 rw[HV.out]
 exact zW rfl ab.out (ac.out.put o.out ..) (aa.out.put (by omega) ..)
theorem zpc (j:List Tk) (h:Nat) (I A n:Nat) (S:Sv) (q:PS) (d:Nat) (w:World) (hm:Mem (Cx.mk j h true) I A n S q w) (hk:((ze (Cx.mk j h true) q.pos).kind==2)=false) (ho:isT (Cx.mk j h true) q.pos 4 zm=false) (hp:q.pos<(Cx.mk j h true).ts.length) (hu:isT (Cx.mk j h true) q.pos 1 za4=false) (hn:zB (Cx.mk j h true) q.pos false=true) (hd:isT (Cx.mk j h true) (q.pos+1) 4 cPoint=false):
  Calls Tryz.prog 168 #[pv (Cx.mk j h true) I A S q (-1) d] w (Out (Cx.mk j h true) I A n (pE (Cx.mk j h true) .part d q) d S w):=by
 have HM:=zc hm
 have K:=hm.tok
 have E:(Cx.mk j h true).ts.length≤4000:=hm.few
 have ap:=(zak hm.tok).1
 clear hm
 have HV:Hid (pE (Cx.mk j h true) .part d q=zbq (Cx.mk j h true) (ze (Cx.mk j h true) q.pos).text (adv q)):=by show pE (Cx.mk j h true) .part d q=_;rw[zbv,hk,ho,hu,zh,hn];show (if isT (Cx.mk j h true) (adv q).pos 4 cPoint then _ else _)=_;rw[zw,hd];rfl
 have as:q.pos<j.length:=hp
 obtain⟨c0,_,_,_⟩:=K.cells hp (d:=⟨0,sNone,0,(Cx.mk j h true).fin⟩)
 change _=some (Value.int .i64 (ze (Cx.mk j h true) q.pos).kind) at c0
 generalize (ze (Cx.mk j h true) q.pos).kind=kd at c0 hk
 unfold pv
 go_enter Tryz.func168,Tryz.ntmps168
 go_wp2_with fail
 refine (zg (Cx.mk j h true) I A n S q (-1) d 4 zm _ (zo (zo K _) _) E (by decide)).mono ?_
 rintro e w1 ⟨rfl,Z⟩
 rw[ho]
 obtain⟨X0,X1,m1,t1⟩:=HM.out.two Z
 have z:=zc X0
 have o:=zc X1
 have N:=zc m1
 have ae:=zc t1
 clear X0 X1 m1 t1 Z
 obtain⟨a0,a1,a2,a3,a4,a5,a6,a7,a8,a9,L,O,af⟩:=z.out.box
 go_wp2_with fail
 refine (zg (Cx.mk j h true) I A n S q (-1) d 1 za4 _ N.out.tok E (by decide)).mono ?_
 rintro e w2 ⟨rfl,H⟩
 rw[hu]
 replace z:=zc (z.out.below H)
 replace o:=zc (o.out.below H)
 have ag:=zc (ae.out.below H)
 have V:=zc (N.out.later H)
 clear H ae N
 clear a0 a1 a2 a3 a4 a5 a6 a7 a8 a9 L O af
 obtain⟨a0,a1,a2,a3,a4,a5,a6,a7,a8,a9,L,O,af⟩:=z.out.box
 go_wp2_with fail
 refine (zaU (Cx.mk j h true) I A n (.ok q) S q (-1) d false _ (zU q) V.out).mono ?_
 rintro e w3 ⟨S3,q3,z3,n3,rfl,i3,m3,s3⟩
 replace z:=zc (z.out.stp s3)
 replace o:=zc (o.out.stp s3)
 have X:=zc (ag.out.step s3)
 clear ag
 have J:=zc m3
 have ac:=zc i3
 clear i3 m3 s3 V
 clear a0 a1 a2 a3 a4 a5 a6 a7 a8 a9 L O af
 obtain⟨hq,rfl,ad⟩:=zf0 ac.out hn
 have HQ:=zc hq
 have ak:=zc ad
 have U:q3.pos=q.pos+1:=by rw[hq];rfl
 have ah:isT (Cx.mk j h true) q3.pos 4 cPoint=false:=by rw[U];exact hd
 clear hq ad ac
 have ao:w.heap.size+1<w3.heap.size:=o.out.lt
 unfold pv
 clear U
 go_wp2_with fail
 refine (zg (Cx.mk j h true) I A n S3 q3 (-1) d 4 cPoint _ (J.out.alloc _).tok E (by decide)).mono ?_
 rintro e w4 ⟨rfl,D⟩
 rw[ah]
 replace z:=zc ((z.out.alloc _).below D)
 replace o:=zc ((o.out.alloc _).below D)
 replace M:=zc ((Bx.new J.out _).below D)
 have aa:Hid (SB w.heap.size S w S3 w4):=(X.out.alloc _).below D
 have ab:Hid (Mem (Cx.mk j h true) I A n S3 q3 w4):=(J.out.alloc _).later D
 clear D X J
 obtain⟨c0,c1,c2,c3,c4,c5,c6,c7,c8,c9,aj,an,cf⟩:=M.out.box
 go_wp2_with fail
 refine (zgy (Cx.mk j h true) I A n S3 q3 d n3 _ ab.out (by rw[HQ.out];simp[adv])).mono ?_
 rintro e w5 ⟨S5,q5,z5,rfl,i5,m5,Y⟩
 replace z:=zc (z.out.stp Y)
 replace o:=zc (o.out.stp Y)
 replace M:=zc (M.out.stp Y)
 have al:=zc (aa.out.step Y)
 clear aa
 have ai:=zc m5
 have am:=zc i5
 clear i5 m5 Y ab
 clear c0 c1 c2 c3 c4 c5 c6 c7 c8 c9 aj an cf
 obtain⟨b0,b1,b2,b3,b4,b5,b6,b7,b8,b9,ar,aq,bf⟩:=o.out.box
 unfold pv
 go_wp2
 refine bodyPost_ret (results_cell_row rfl _ _ (w.heap.size+1) 53 _ (0,0) _ rfl ((o.out.put ..)).heap Tryz.underlying53 rfl (by kernel_rfl)) rfl ?_
 rw[HV.out,←HQ.out,←ak.out]
 exact zW rfl am.out (ai.out.put o.out ..) (al.out.put (by omega) ..)
theorem zpd (z:List Tk) (h:Nat) (J D n:Nat) (S:Sv) (q:PS) (d:Nat) (w:World) (hm:Mem (Cx.mk z h true) J D n S q w) (hk:((ze (Cx.mk z h true) q.pos).kind==2)=false) (ho:isT (Cx.mk z h true) q.pos 4 zm=false) (hp:q.pos<(Cx.mk z h true).ts.length) (hu:isT (Cx.mk z h true) q.pos 1 za4=false) (hn:zB (Cx.mk z h true) q.pos false=true) (hd:isT (Cx.mk z h true) (q.pos+1) 4 cPoint=true):
  Calls Tryz.prog 168 #[pv (Cx.mk z h true) J D S q (-1) d] w (Out (Cx.mk z h true) J D n (pE (Cx.mk z h true) .part d q) d S w):=by
 have HM:=zc hm
 have ad:=hm.tok
 have I:(Cx.mk z h true).ts.length≤4000:=hm.few
 have aK:=(zak hm.tok).1
 clear hm
 have HV:Hid (pE (Cx.mk z h true) .part d q=bd (bd (.ok (adv (adv q))) (zh (Cx.mk z h true) true)) fun y=>zbz (Cx.mk z h true) (ze (Cx.mk z h true) q.pos).text y.2 y.1):=by show pE (Cx.mk z h true) .part d q=_;rw[zbv,hk,ho,hu,zh,hn];show (if isT (Cx.mk z h true) (adv q).pos 4 cPoint then _ else _)=_;rw[zw,hd];rfl
 have aM:q.pos<z.length:=hp
 obtain⟨c0,_,_,_⟩:=ad.cells hp (d:=⟨0,sNone,0,(Cx.mk z h true).fin⟩)
 change _=some (Value.int .i64 (ze (Cx.mk z h true) q.pos).kind) at c0
 generalize (ze (Cx.mk z h true) q.pos).kind=kd at c0 hk
 unfold pv
 go_enter Tryz.func168,Tryz.ntmps168
 go_wp2_with fail
 refine (zg (Cx.mk z h true) J D n S q (-1) d 4 zm _ (zo (zo ad _) _) I (by decide)).mono ?_
 rintro e w1 ⟨rfl,ao⟩
 rw[ho]
 obtain⟨X0,X1,m1,t1⟩:=HM.out.two ao
 have o:=zc X0
 have j:=zc X1
 have ag:=zc m1
 have ay:=zc t1
 clear X0 X1 m1 t1 ao
 obtain⟨a0,a1,a2,a3,a4,a5,a6,a7,a8,a9,ae,ai,af⟩:=o.out.box
 go_wp2_with fail
 refine (zg (Cx.mk z h true) J D n S q (-1) d 1 za4 _ ag.out.tok I (by decide)).mono ?_
 rintro e w2 ⟨rfl,X⟩
 rw[hu]
 replace o:=zc (o.out.below X)
 replace j:=zc (j.out.below X)
 have az:=zc (ay.out.below X)
 have ak:=zc (ag.out.later X)
 clear X ay ag
 clear a0 a1 a2 a3 a4 a5 a6 a7 a8 a9 ae ai af
 obtain⟨a0,a1,a2,a3,a4,a5,a6,a7,a8,a9,ae,ai,af⟩:=o.out.box
 go_wp2_with fail
 refine (zaU (Cx.mk z h true) J D n (.ok q) S q (-1) d false _ (zU q) ak.out).mono ?_
 rintro e w3 ⟨S3,q3,z3,n3,rfl,i3,m3,s3⟩
 replace o:=zc (o.out.stp s3)
 replace j:=zc (j.out.stp s3)
 have al:=zc (az.out.step s3)
 clear az
 have aa:=zc m3
 have av:=zc i3
 clear i3 m3 s3 ak
 clear a0 a1 a2 a3 a4 a5 a6 a7 a8 a9 ae ai af
 obtain⟨hq,rfl,aw⟩:=zf0 av.out hn
 have HQ:=zc hq
 have au:=zc aw
 have aj:q3.pos=q.pos+1:=by rw[hq];rfl
 have aq:isT (Cx.mk z h true) q3.pos 4 cPoint=true:=by rw[aj];exact hd
 clear hq aw av
 have aJ:w.heap.size+1<w3.heap.size:=j.out.lt
 unfold pv
 clear aj
 go_wp2_with fail
 refine (zg (Cx.mk z h true) J D n S3 q3 (-1) d 4 cPoint _ (aa.out.alloc _).tok I (by decide)).mono ?_
 rintro e w4 ⟨rfl,L⟩
 rw[aq]
 replace o:=zc ((o.out.alloc _).below L)
 replace j:=zc ((j.out.alloc _).below L)
 replace A:=zc ((Bx.new aa.out _).below L)
 have ap:Hid (SB w.heap.size S w S3 w4):=(al.out.alloc _).below L
 have ar:Hid (Mem (Cx.mk z h true) J D n S3 q3 w4):=(aa.out.alloc _).later L
 clear L al aa
 obtain⟨c0,c1,c2,c3,c4,c5,c6,c7,c8,c9,aG,aH,cf⟩:=A.out.box
 have ax:q3.pos<(Cx.mk z h true).ts.length:=zaz aq (by decide)
 have aI:q3.pos<z.length:=ax
 go_wp2_with fail
 refine (zaU (Cx.mk z h true) J D n (.ok (adv q3)) S3 (adv q3) (-1) d true _ (zU _) ((ar.out.adv ax).set A.out 1 _)).mono ?_
 rintro e w5 ⟨S5,q5,z5,n5,rfl,i5,m5,s5⟩
 replace o:=zc ((o.out.set_other (by omega) 1 _).stp s5)
 replace j:=zc ((j.out.set_other (by omega) 1 _).stp s5)
 replace A:=zc ((A.out.at1 _).stp s5)
 have ac:Hid (SB w.heap.size S w S5 w5):=(ap.out.set (by omega) 1 _).step s5
 clear ap
 have K:=zc m5
 have Y:=zc i5
 clear i5 m5 s5 ar
 clear c0 c1 c2 c3 c4 c5 c6 c7 c8 c9 aG aH cf
 have aL:w.heap.size+1<w5.heap.size:=j.out.lt
 have aA:w3.heap.size<w5.heap.size:=A.out.lt
 cases hc:(decide (z5<0)&&isT (Cx.mk z h true) q5.pos 4 zm) with
 |true=>
  unfold pv
  go_wp2_with fail
  refine (zg (Cx.mk z h true) J D n S5 q5 z5 d 4 zm _ (K.out.alloc _).tok I (by decide)).mono ?_
  rintro e w6 ⟨rfl,E⟩
  rw[hc]
  replace o:=zc ((o.out.alloc _).below E)
  replace j:=zc ((j.out.alloc _).below E)
  replace A:=zc ((A.out.alloc _).below E)
  replace H:=zc ((Bx.new K.out _).below E)
  have V:Hid (SB w.heap.size S w S5 w6):=(ac.out.alloc _).below E
  have O:Hid (Mem (Cx.mk z h true) J D n S5 q5 w6):=(K.out.alloc _).later E
  clear E ac K
  obtain⟨d0,d1,d2,d3,d4,d5,d6,d7,d8,d9,N,U,df⟩:=H.out.box
  go_wp2_with fail
  refine (zab (Cx.mk z h true) J D n _ S5 q5 z5 d zm _ Y.out.fst O.out).mono ?_
  rintro e w7 ⟨S7,q7,z7,rfl,i7,m7,M⟩
  replace o:=zc (o.out.stp M)
  replace j:=zc (j.out.stp M)
  replace A:=zc (A.out.stp M)
  replace H:=zc (H.out.stp M)
  have Z:=zc (V.out.step M)
  clear V
  have ab:=zc m7
  have ah:=zc i7
  clear i7 m7 M O
  clear d0 d1 d2 d3 d4 d5 d6 d7 d8 d9 N U df
  go_wp2_with fail
  refine (zab (Cx.mk z h true) J D n _ S7 q7 z7 d zay _ ah.out ab.out).mono ?_
  rintro e w8 ⟨S8,q8,z8,rfl,i8,m8,s8⟩
  replace o:=zc (o.out.stp s8)
  replace j:=zc (j.out.stp s8)
  replace A:=zc (A.out.stp s8)
  replace H:=zc (H.out.stp s8)
  have am:=zc (Z.out.step s8)
  clear Z
  have an:=zc m8
  have as:=zc i8
  clear i8 m8 s8 ab
  obtain⟨d0,d1,d2,d3,d4,d5,d6,d7,d8,d9,N,U,df⟩:=H.out.box
  unfold pv
  go_wp2_with fail
  refine (zc3 (Cx.mk z h true) J D n _ S8 q8 z8 d ⟨5,0,n3,n5,0,0⟩ _ as.out (an.out.put H.out ..) (zaZ as.out)).mono ?_
  rintro e w9 ⟨S9,q9,z9,rfl,i9,m9,s9⟩
  replace o:=zc ((o.out.other (by omega) ..).stp s9)
  replace j:=zc ((j.out.other (by omega) ..).stp s9)
  replace A:=zc ((A.out.other (by omega) ..).stp s9)
  replace H:=zc ((H.out.put ..).stp s9)
  have aB:Hid (SB w.heap.size S w S9 w9):=(am.out.put (by omega) ..).step s9
  clear am
  have aF:=zc m9
  have aE:=zc i9
  clear i9 m9 s9 an
  clear d0 d1 d2 d3 d4 d5 d6 d7 d8 d9 N U df
  obtain⟨b0,b1,b2,b3,b4,b5,b6,b7,b8,b9,aD,aC,bf⟩:=j.out.box
  unfold pv
  go_wp2
  refine bodyPost_ret (results_cell_row rfl _ _ (w.heap.size+1) 53 _ (0,0) _ rfl ((j.out.put ..)).heap Tryz.underlying53 rfl (by kernel_rfl)) rfl ?_
  rw[HV.out,←HQ.out,←au.out,←zja Y.out hc]
  exact zW rfl aE.out (aF.out.put j.out ..) (aB.out.put (by omega) ..)
 |false=>
  unfold pv
  go_wp2_with fail
  refine (zg (Cx.mk z h true) J D n S5 q5 z5 d 4 zm _ (K.out.alloc _).tok I (by decide)).mono ?_
  rintro e w6 ⟨rfl,E⟩
  rw[hc]
  replace o:=zc ((o.out.alloc _).below E)
  replace j:=zc ((j.out.alloc _).below E)
  replace A:=zc ((A.out.alloc _).below E)
  replace H:=zc ((Bx.new K.out _).below E)
  have V:Hid (SB w.heap.size S w S5 w6):=(ac.out.alloc _).below E
  have O:Hid (Mem (Cx.mk z h true) J D n S5 q5 w6):=(K.out.alloc _).later E
  clear E ac K
  obtain⟨d0,d1,d2,d3,d4,d5,d6,d7,d8,d9,N,U,df⟩:=H.out.box
  go_wp2_with fail
  refine (zc3 (Cx.mk z h true) J D n _ S5 q5 z5 d ⟨4,0,n3,n5,0,0⟩ _ Y.out.fst O.out (zjc Y.out)).mono ?_
  rintro e w7 ⟨S7,q7,z7,rfl,i7,m7,M⟩
  replace o:=zc (o.out.stp M)
  replace j:=zc (j.out.stp M)
  replace A:=zc (A.out.stp M)
  replace H:=zc (H.out.stp M)
  have Z:=zc (V.out.step M)
  clear V
  have ab:=zc m7
  have ah:=zc i7
  clear i7 m7 M O
  clear d0 d1 d2 d3 d4 d5 d6 d7 d8 d9 N U df
  obtain⟨b0,b1,b2,b3,b4,b5,b6,b7,b8,b9,aD,aC,bf⟩:=j.out.box
  unfold pv
  go_wp2
  refine bodyPost_ret (results_cell_row rfl _ _ (w.heap.size+1) 53 _ (0,0) _ rfl ((j.out.put ..)).heap Tryz.underlying53 rfl (by kernel_rfl)) rfl ?_
  rw[HV.out,←HQ.out,←au.out,←zjb Y.out hc]
  exact zW rfl ah.out (ab.out.put j.out ..) (Z.out.put (by omega) ..)
theorem zpe (j:List Tk) (h:Nat) (D z o:Nat) (S:Sv) (q:PS) (d:Nat) (w:World) (N:Mem (Cx.mk j h false) D z o S q w) (X: ¬q.pos<(Cx.mk j h false).ts.length):
  Calls Tryz.prog 168 #[pv (Cx.mk j h false) D z S q (-1) d] w (Out (Cx.mk j h false) D z o (pE (Cx.mk j h false) .part d q) d S w):=by
 have HM:=zc N
 have O:=N.tok
 have I:(Cx.mk j h false).ts.length≤4000:=N.few
 have ah:=(zak N.tok).1
 clear N
 have hk:((ze (Cx.mk j h false) q.pos).kind==2)=false:=by rw[zdb (by omega)];rfl
 have ho:isT (Cx.mk j h false) q.pos 4 zm=false:=zeo X (by decide)
 have hu:isT (Cx.mk j h false) q.pos 1 za4=false:=zeo X (by decide)
 have hn:zB (Cx.mk j h false) q.pos false=false:=zfP X
 have HV:Hid (pE (Cx.mk j h false) .part d q= .error (zq (Cx.mk j h false) q.pos)):=by show pE (Cx.mk j h false) .part d q=_;rw[zbv,hk,ho,zh,hn];rfl
 have al: ¬q.pos<j.length:=X
 unfold pv
 go_enter Tryz.func168,Tryz.ntmps168
 go_wp2_with fail
 refine (zg (Cx.mk j h false) D z o S q (-1) d 4 zm _ (zo (zo O _) _) I (by decide)).mono ?_
 rintro e w1 ⟨rfl,M⟩
 rw[ho]
 obtain⟨H,K,m1,t1⟩:=HM.out.two M
 have A:=zc H
 have n:=zc K
 have L:=zc m1
 have U:=zc t1
 clear H K m1 t1 M
 obtain⟨a0,a1,a2,a3,a4,a5,a6,a7,a8,a9,Z,ad,af⟩:=A.out.box
 go_wp2_with fail
 refine (zaU (Cx.mk j h false) D z o (.ok q) S q (-1) d false _ (zU q) L.out).mono ?_
 rintro e w2 ⟨J,q2,z2,n2,rfl,i2,m2,Y⟩
 replace A:=zc (A.out.stp Y)
 replace n:=zc (n.out.stp Y)
 have V:=zc (U.out.step Y)
 clear U
 have E:=zc m2
 have ac:=zc i2
 clear i2 m2 Y L
 clear a0 a1 a2 a3 a4 a5 a6 a7 a8 a9 Z ad af
 obtain rfl:=zf1 ac.out hn
 have dz:decide ((0:Int)≤(zq (Cx.mk j h false) q.pos:Int))=true:=decide_eq_true (by omega)
 have ag:w.heap.size+1<w2.heap.size:=n.out.lt
 unfold pv
 go_upto_region 17 with fail
 refine zJ (R:=fun W=>Bx D J W (w.heap.size) _∧Bx D J W (w.heap.size+1) _∧Bx D J W (w2.heap.size) _∧Mem (Cx.mk j h false) D z o J q2 W∧SB w.heap.size S w J W) ⟨(A.out.alloc _),(n.out.alloc _),(Bx.new E.out _),(E.out.alloc _),(V.out.alloc _)⟩ ?_
 clear A n V E
 rintro w3 ⟨H,K,X2,m3,t3⟩
 have A:=zc H
 have n:=zc K
 have aa:=zc X2
 have ae:=zc m3
 have ab:=zc t3
 clear m3 t3 H K X2
 obtain⟨b0,b1,b2,b3,b4,b5,b6,b7,b8,b9,aj,ai,bf⟩:=n.out.box
 obtain⟨c0,c1,c2,c3,c4,c5,c6,c7,c8,c9,ak,am,cf⟩:=aa.out.box
 go_wp2
 refine bodyPost_ret (results_cell_row rfl _ _ (w.heap.size+1) 53 _ (0,0) _ rfl ((n.out.put ..)).heap Tryz.underlying53 rfl (by kernel_rfl)) rfl ?_
 rw[HV.out]
 exact zW rfl (show Is (.error (zq (Cx.mk j h false) q.pos)) q2 _ from rfl) (ae.out.put n.out ..) (ab.out.put (by omega) ..)
theorem zpf (j:List Tk) (h:Nat) (D z o:Nat) (S:Sv) (q:PS) (d:Nat) (w:World) (O:Mem (Cx.mk j h false) D z o S q w) (hk:((ze (Cx.mk j h false) q.pos).kind==2)=false) (ho:isT (Cx.mk j h false) q.pos 4 zm=false) (hp:q.pos<(Cx.mk j h false).ts.length) (hn:zB (Cx.mk j h false) q.pos false=false):
  Calls Tryz.prog 168 #[pv (Cx.mk j h false) D z S q (-1) d] w (Out (Cx.mk j h false) D z o (pE (Cx.mk j h false) .part d q) d S w):=by
 have HM:=zc O
 have E:=O.tok
 have J:(Cx.mk j h false).ts.length≤4000:=O.few
 have ag:=(zak O.tok).1
 clear O
 have HV:Hid (pE (Cx.mk j h false) .part d q= .error (zq (Cx.mk j h false) q.pos)):=by show pE (Cx.mk j h false) .part d q=_;rw[zbv,hk,ho,zh,hn];rfl
 have ak:q.pos<j.length:=hp
 obtain⟨c0,_,_,_⟩:=E.cells hp (d:=⟨0,sNone,0,(Cx.mk j h false).fin⟩)
 change _=some (Value.int .i64 (ze (Cx.mk j h false) q.pos).kind) at c0
 generalize (ze (Cx.mk j h false) q.pos).kind=kd at c0 hk
 unfold pv
 go_enter Tryz.func168,Tryz.ntmps168
 go_wp2_with fail
 refine (zg (Cx.mk j h false) D z o S q (-1) d 4 zm _ (zo (zo E _) _) J (by decide)).mono ?_
 rintro e w1 ⟨rfl,N⟩
 rw[ho]
 obtain⟨I,L,m1,t1⟩:=HM.out.two N
 have A:=zc I
 have n:=zc L
 have M:=zc m1
 have U:=zc t1
 clear I L m1 t1 N
 obtain⟨a0,a1,a2,a3,a4,a5,a6,a7,a8,a9,Y,ac,af⟩:=A.out.box
 go_wp2_with fail
 refine (zaU (Cx.mk j h false) D z o (.ok q) S q (-1) d false _ (zU q) M.out).mono ?_
 rintro e w2 ⟨K,q2,z2,n2,rfl,i2,m2,X⟩
 replace A:=zc (A.out.stp X)
 replace n:=zc (n.out.stp X)
 have V:=zc (U.out.step X)
 clear U
 have H:=zc m2
 have ab:=zc i2
 clear i2 m2 X M
 clear a0 a1 a2 a3 a4 a5 a6 a7 a8 a9 Y ac af
 obtain rfl:=zf1 ab.out hn
 have dz:decide ((0:Int)≤(zq (Cx.mk j h false) q.pos:Int))=true:=decide_eq_true (by omega)
 have ae:w.heap.size+1<w2.heap.size:=n.out.lt
 unfold pv
 go_upto_region 17 with fail
 refine zJ (R:=fun W=>Bx D K W (w.heap.size) _∧Bx D K W (w.heap.size+1) _∧Bx D K W (w2.heap.size) _∧Mem (Cx.mk j h false) D z o K q2 W∧SB w.heap.size S w K W) ⟨(A.out.alloc _),(n.out.alloc _),(Bx.new H.out _),(H.out.alloc _),(V.out.alloc _)⟩ ?_
 clear A n V H
 rintro w3 ⟨I,L,X2,m3,t3⟩
 have A:=zc I
 have n:=zc L
 have Z:=zc X2
 have ad:=zc m3
 have aa:=zc t3
 clear m3 t3 I L X2
 obtain⟨b0,b1,b2,b3,b4,b5,b6,b7,b8,b9,ai,ah,bf⟩:=n.out.box
 obtain⟨c0,c1,c2,c3,c4,c5,c6,c7,c8,c9,aj,al,cf⟩:=Z.out.box
 go_wp2
 refine bodyPost_ret (results_cell_row rfl _ _ (w.heap.size+1) 53 _ (0,0) _ rfl ((n.out.put ..)).heap Tryz.underlying53 rfl (by kernel_rfl)) rfl ?_
 rw[HV.out]
 exact zW rfl (show Is (.error (zq (Cx.mk j h false) q.pos)) q2 _ from rfl) (ad.out.put n.out ..) (aa.out.put (by omega) ..)
theorem zje (E:List Tk) (j:Nat) (D o n:Nat) (S:Sv) (q:PS) (d:Nat) (w:World) (O:Mem (Cx.mk E j false) D o n S q w) (A:Nat):
  Calls Tryz.prog 168 #[pv (Cx.mk E j false) D o S q (A:Int) d] w (Out (Cx.mk E j false) D o n (.error A) d S w):=by
 have HM:=zc O
 have U:=O.tok
 have J:(Cx.mk E j false).ts.length≤4000:=O.few
 have ah:=(zak O.tok).1
 clear O
 have hz: ¬(A:Int)<0:=by omega
 have hs: ∀k s,(decide ((A:Int)<0)&&isT (Cx.mk E j false) q.pos k s)=false:=fun k s=>by rw[decide_eq_false hz];rfl
 unfold pv
 go_enter Tryz.func168,Tryz.ntmps168
 go_wp2_with fail
 refine (zg (Cx.mk E j false) D o n S q (A:Int) d 4 zm _ (zo (zo U _) _) J (by decide)).mono ?_
 rintro e w1 ⟨rfl,N⟩
 rw[hs]
 obtain⟨I,L,m1,t1⟩:=HM.out.two N
 have z:=zc I
 have h:=zc L
 have M:=zc m1
 have V:=zc t1
 clear I L m1 t1 N
 obtain⟨a0,a1,a2,a3,a4,a5,a6,a7,a8,a9,Z,ad,af⟩:=z.out.box
 go_wp2_with fail
 refine (zaU (Cx.mk E j false) D o n (.error A) S q (A:Int) d false _ (show Is (.error A) q _ from rfl) M.out).mono ?_
 rintro e w2 ⟨K,q2,z2,n2,rfl,i2,m2,Y⟩
 replace z:=zc (z.out.stp Y)
 replace h:=zc (h.out.stp Y)
 have X:=zc (V.out.step Y)
 clear V
 have H:=zc m2
 have ac:=zc i2
 clear i2 m2 Y M
 clear a0 a1 a2 a3 a4 a5 a6 a7 a8 a9 Z ad af
 obtain rfl:z2=(A:Int):=ac.out
 have dz:decide ((0:Int)≤(A:Int))=true:=decide_eq_true (by omega)
 have ag:w.heap.size+1<w2.heap.size:=h.out.lt
 unfold pv
 go_upto_region 17 with fail
 refine zJ (R:=fun W=>Bx D K W (w.heap.size) _∧Bx D K W (w.heap.size+1) _∧Bx D K W (w2.heap.size) _∧Mem (Cx.mk E j false) D o n K q2 W∧SB w.heap.size S w K W) ⟨(z.out.alloc _),(h.out.alloc _),(Bx.new H.out _),(H.out.alloc _),(X.out.alloc _)⟩ ?_
 clear z h X H
 rintro w3 ⟨I,L,X2,m3,t3⟩
 have z:=zc I
 have h:=zc L
 have aa:=zc X2
 have ae:=zc m3
 have ab:=zc t3
 clear m3 t3 I L X2
 obtain⟨b0,b1,b2,b3,b4,b5,b6,b7,b8,b9,aj,ai,bf⟩:=h.out.box
 obtain⟨c0,c1,c2,c3,c4,c5,c6,c7,c8,c9,ak,al,cf⟩:=aa.out.box
 go_wp2
 refine bodyPost_ret (results_cell_row rfl _ _ (w.heap.size+1) 53 _ (0,0) _ rfl ((h.out.put ..)).heap Tryz.underlying53 rfl (by kernel_rfl)) rfl ?_
 exact zW rfl (show Is (.error A) q2 _ from rfl) (ae.out.put h.out ..) (ab.out.put (by omega) ..)
theorem zpg (j:List Tk) (h:Nat) (I z n:Nat) (S:Sv) (q:PS) (d:Nat) (w:World) (Y:Mem (Cx.mk j h false) I z n S q w) (hk:((ze (Cx.mk j h false) q.pos).kind==2)=false) (ho:isT (Cx.mk j h false) q.pos 4 zm=false) (hp:q.pos<(Cx.mk j h false).ts.length) (hn:zB (Cx.mk j h false) q.pos false=true) (hd:isT (Cx.mk j h false) (q.pos+1) 4 cPoint=false):
  Calls Tryz.prog 168 #[pv (Cx.mk j h false) I z S q (-1) d] w (Out (Cx.mk j h false) I z n (pE (Cx.mk j h false) .part d q) d S w):=by
 have HM:=zc Y
 have J:=Y.tok
 have H:(Cx.mk j h false).ts.length≤4000:=Y.few
 have an:=(zak Y.tok).1
 clear Y
 have HV:Hid (pE (Cx.mk j h false) .part d q=zbq (Cx.mk j h false) (ze (Cx.mk j h false) q.pos).text (adv q)):=by show pE (Cx.mk j h false) .part d q=_;rw[zbv,hk,ho,zh,hn];show (if isT (Cx.mk j h false) (adv q).pos 4 cPoint then _ else _)=_;rw[zw,hd];rfl
 have aq:q.pos<j.length:=hp
 obtain⟨c0,_,_,_⟩:=J.cells hp (d:=⟨0,sNone,0,(Cx.mk j h false).fin⟩)
 change _=some (Value.int .i64 (ze (Cx.mk j h false) q.pos).kind) at c0
 generalize (ze (Cx.mk j h false) q.pos).kind=kd at c0 hk
 unfold pv
 go_enter Tryz.func168,Tryz.ntmps168
 go_wp2_with fail
 refine (zg (Cx.mk j h false) I z n S q (-1) d 4 zm _ (zo (zo J _) _) H (by decide)).mono ?_
 rintro e w1 ⟨rfl,U⟩
 rw[ho]
 obtain⟨X0,X1,m1,t1⟩:=HM.out.two U
 have A:=zc X0
 have o:=zc X1
 have N:=zc m1
 have aa:=zc t1
 clear X0 X1 m1 t1 U
 obtain⟨a0,a1,a2,a3,a4,a5,a6,a7,a8,a9,ad,ah,af⟩:=A.out.box
 go_wp2_with fail
 refine (zaU (Cx.mk j h false) I z n (.ok q) S q (-1) d false _ (zU q) N.out).mono ?_
 rintro e w2 ⟨S2,V,z2,n2,rfl,i2,m2,s2⟩
 replace A:=zc (A.out.stp s2)
 replace o:=zc (o.out.stp s2)
 have ab:=zc (aa.out.step s2)
 clear aa
 have E:=zc m2
 have O:=zc i2
 clear i2 m2 s2 N
 clear a0 a1 a2 a3 a4 a5 a6 a7 a8 a9 ad ah af
 obtain⟨hq,rfl,Z⟩:=zf0 O.out hn
 have HQ:=zc hq
 have ak:=zc Z
 have L:V.pos=q.pos+1:=by rw[hq];rfl
 have ag:isT (Cx.mk j h false) V.pos 4 cPoint=false:=by rw[L];exact hd
 clear hq Z O
 have am:w.heap.size+1<w2.heap.size:=o.out.lt
 unfold pv
 clear L
 go_wp2_with fail
 refine (zg (Cx.mk j h false) I z n S2 V (-1) d 4 cPoint _ (E.out.alloc _).tok H (by decide)).mono ?_
 rintro e w3 ⟨rfl,D⟩
 rw[ag]
 replace A:=zc ((A.out.alloc _).below D)
 replace o:=zc ((o.out.alloc _).below D)
 replace K:=zc ((Bx.new E.out _).below D)
 have M:Hid (SB w.heap.size S w S2 w3):=(ab.out.alloc _).below D
 have X:Hid (Mem (Cx.mk j h false) I z n S2 V w3):=(E.out.alloc _).later D
 clear D ab E
 obtain⟨c0,c1,c2,c3,c4,c5,c6,c7,c8,c9,ai,al,cf⟩:=K.out.box
 go_wp2_with fail
 refine (zgy (Cx.mk j h false) I z n S2 V d n2 _ X.out (by rw[HQ.out];simp[adv])).mono ?_
 rintro e w4 ⟨S4,q4,z4,rfl,i4,m4,s4⟩
 replace A:=zc (A.out.stp s4)
 replace o:=zc (o.out.stp s4)
 replace K:=zc (K.out.stp s4)
 have ae:=zc (M.out.step s4)
 clear M
 have aj:=zc m4
 have ac:=zc i4
 clear i4 m4 s4 X
 clear c0 c1 c2 c3 c4 c5 c6 c7 c8 c9 ai al cf
 obtain⟨b0,b1,b2,b3,b4,b5,b6,b7,b8,b9,ap,ao,bf⟩:=o.out.box
 unfold pv
 go_wp2
 refine bodyPost_ret (results_cell_row rfl _ _ (w.heap.size+1) 53 _ (0,0) _ rfl ((o.out.put ..)).heap Tryz.underlying53 rfl (by kernel_rfl)) rfl ?_
 rw[HV.out,←HQ.out,←ak.out]
 exact zW rfl ac.out (aj.out.put o.out ..) (ae.out.put (by omega) ..)
theorem zph (z:List Tk) (h:Nat) (J D n:Nat) (S:Sv) (q:PS) (d:Nat) (w:World) (hm:Mem (Cx.mk z h false) J D n S q w) (hk:((ze (Cx.mk z h false) q.pos).kind==2)=false) (ho:isT (Cx.mk z h false) q.pos 4 zm=false) (hp:q.pos<(Cx.mk z h false).ts.length) (hn:zB (Cx.mk z h false) q.pos false=true) (hd:isT (Cx.mk z h false) (q.pos+1) 4 cPoint=true):
  Calls Tryz.prog 168 #[pv (Cx.mk z h false) J D S q (-1) d] w (Out (Cx.mk z h false) J D n (pE (Cx.mk z h false) .part d q) d S w):=by
 have HM:=zc hm
 have ac:=hm.tok
 have K:(Cx.mk z h false).ts.length≤4000:=hm.few
 have aH:=(zak hm.tok).1
 clear hm
 have HV:Hid (pE (Cx.mk z h false) .part d q=bd (bd (.ok (adv (adv q))) (zh (Cx.mk z h false) true)) fun y=>zbz (Cx.mk z h false) (ze (Cx.mk z h false) q.pos).text y.2 y.1):=by show pE (Cx.mk z h false) .part d q=_;rw[zbv,hk,ho,zh,hn];show (if isT (Cx.mk z h false) (adv q).pos 4 cPoint then _ else _)=_;rw[zw,hd];rfl
 have aJ:q.pos<z.length:=hp
 obtain⟨c0,_,_,_⟩:=ac.cells hp (d:=⟨0,sNone,0,(Cx.mk z h false).fin⟩)
 change _=some (Value.int .i64 (ze (Cx.mk z h false) q.pos).kind) at c0
 generalize (ze (Cx.mk z h false) q.pos).kind=kd at c0 hk
 unfold pv
 go_enter Tryz.func168,Tryz.ntmps168
 go_wp2_with fail
 refine (zg (Cx.mk z h false) J D n S q (-1) d 4 zm _ (zo (zo ac _) _) K (by decide)).mono ?_
 rintro e w1 ⟨rfl,al⟩
 rw[ho]
 obtain⟨X0,X1,m1,t1⟩:=HM.out.two al
 have o:=zc X0
 have j:=zc X1
 have ah:=zc m1
 have as:=zc t1
 clear X0 X1 m1 t1 al
 obtain⟨a0,a1,a2,a3,a4,a5,a6,a7,a8,a9,aw,aB,af⟩:=o.out.box
 go_wp2_with fail
 refine (zaU (Cx.mk z h false) J D n (.ok q) S q (-1) d false _ (zU q) ah.out).mono ?_
 rintro e w2 ⟨S2,q2,z2,n2,rfl,i2,m2,s2⟩
 replace o:=zc (o.out.stp s2)
 replace j:=zc (j.out.stp s2)
 have au:=zc (as.out.step s2)
 clear as
 have Y:=zc m2
 have ak:=zc i2
 clear i2 m2 s2 ah
 clear a0 a1 a2 a3 a4 a5 a6 a7 a8 a9 aw aB af
 obtain⟨hq,rfl,aq⟩:=zf0 ak.out hn
 have HQ:=zc hq
 have an:=zc aq
 have ae:q2.pos=q.pos+1:=by rw[hq];rfl
 have am:isT (Cx.mk z h false) q2.pos 4 cPoint=true:=by rw[ae];exact hd
 clear hq aq ak
 have aG:w.heap.size+1<w2.heap.size:=j.out.lt
 unfold pv
 clear ae
 go_wp2_with fail
 refine (zg (Cx.mk z h false) J D n S2 q2 (-1) d 4 cPoint _ (Y.out.alloc _).tok K (by decide)).mono ?_
 rintro e w3 ⟨rfl,L⟩
 rw[am]
 replace o:=zc ((o.out.alloc _).below L)
 replace j:=zc ((j.out.alloc _).below L)
 replace A:=zc ((Bx.new Y.out _).below L)
 have ag:Hid (SB w.heap.size S w S2 w3):=(au.out.alloc _).below L
 have ao:Hid (Mem (Cx.mk z h false) J D n S2 q2 w3):=(Y.out.alloc _).later L
 clear L au Y
 obtain⟨c0,c1,c2,c3,c4,c5,c6,c7,c8,c9,aC,aE,cf⟩:=A.out.box
 have ar:q2.pos<(Cx.mk z h false).ts.length:=zaz am (by decide)
 have aF:q2.pos<z.length:=ar
 go_wp2_with fail
 refine (zaU (Cx.mk z h false) J D n (.ok (adv q2)) S2 (adv q2) (-1) d true _ (zU _) ((ao.out.adv ar).set A.out 1 _)).mono ?_
 rintro e w4 ⟨S4,q4,z4,n4,rfl,i4,m4,s4⟩
 replace o:=zc ((o.out.set_other (by omega) 1 _).stp s4)
 replace j:=zc ((j.out.set_other (by omega) 1 _).stp s4)
 replace A:=zc ((A.out.at1 _).stp s4)
 have aa:Hid (SB w.heap.size S w S4 w4):=(ag.out.set (by omega) 1 _).step s4
 clear ag
 have I:=zc m4
 have N:=zc i4
 clear i4 m4 s4 ao
 clear c0 c1 c2 c3 c4 c5 c6 c7 c8 c9 aC aE cf
 have aI:w.heap.size+1<w4.heap.size:=j.out.lt
 have av:w2.heap.size<w4.heap.size:=A.out.lt
 cases hc:(decide (z4<0)&&isT (Cx.mk z h false) q4.pos 4 zm) with
 |true=>
  unfold pv
  go_wp2_with fail
  refine (zg (Cx.mk z h false) J D n S4 q4 z4 d 4 zm _ (I.out.alloc _).tok K (by decide)).mono ?_
  rintro e w5 ⟨rfl,E⟩
  rw[hc]
  replace o:=zc ((o.out.alloc _).below E)
  replace j:=zc ((j.out.alloc _).below E)
  replace A:=zc ((A.out.alloc _).below E)
  replace H:=zc ((Bx.new I.out _).below E)
  have X:Hid (SB w.heap.size S w S4 w5):=(aa.out.alloc _).below E
  have U:Hid (Mem (Cx.mk z h false) J D n S4 q4 w5):=(I.out.alloc _).later E
  clear E aa I
  obtain⟨d0,d1,d2,d3,d4,d5,d6,d7,d8,d9,O,V,df⟩:=H.out.box
  go_wp2_with fail
  refine (zab (Cx.mk z h false) J D n _ S4 q4 z4 d zm _ N.out.fst U.out).mono ?_
  rintro e w6 ⟨S6,q6,z6,rfl,i6,m6,M⟩
  replace o:=zc (o.out.stp M)
  replace j:=zc (j.out.stp M)
  replace A:=zc (A.out.stp M)
  replace H:=zc (H.out.stp M)
  have ab:=zc (X.out.step M)
  clear X
  have Z:=zc m6
  have ad:=zc i6
  clear i6 m6 M U
  clear d0 d1 d2 d3 d4 d5 d6 d7 d8 d9 O V df
  go_wp2_with fail
  refine (zab (Cx.mk z h false) J D n _ S6 q6 z6 d zay _ ad.out Z.out).mono ?_
  rintro e w7 ⟨S7,q7,z7,rfl,i7,m7,s7⟩
  replace o:=zc (o.out.stp s7)
  replace j:=zc (j.out.stp s7)
  replace A:=zc (A.out.stp s7)
  replace H:=zc (H.out.stp s7)
  have ai:=zc (ab.out.step s7)
  clear ab
  have ap:=zc m7
  have aj:=zc i7
  clear i7 m7 s7 Z
  obtain⟨d0,d1,d2,d3,d4,d5,d6,d7,d8,d9,O,V,df⟩:=H.out.box
  unfold pv
  go_wp2_with fail
  refine (zc3 (Cx.mk z h false) J D n _ S7 q7 z7 d ⟨5,0,n2,n4,0,0⟩ _ aj.out (ap.out.put H.out ..) (zaZ aj.out)).mono ?_
  rintro e w8 ⟨S8,q8,z8,rfl,i8,m8,s8⟩
  replace o:=zc ((o.out.other (by omega) ..).stp s8)
  replace j:=zc ((j.out.other (by omega) ..).stp s8)
  replace A:=zc ((A.out.other (by omega) ..).stp s8)
  replace H:=zc ((H.out.put ..).stp s8)
  have az:Hid (SB w.heap.size S w S8 w8):=(ai.out.put (by omega) ..).step s8
  clear ai
  have aA:=zc m8
  have aD:=zc i8
  clear i8 m8 s8 ap
  clear d0 d1 d2 d3 d4 d5 d6 d7 d8 d9 O V df
  obtain⟨b0,b1,b2,b3,b4,b5,b6,b7,b8,b9,ay,ax,bf⟩:=j.out.box
  unfold pv
  go_wp2
  refine bodyPost_ret (results_cell_row rfl _ _ (w.heap.size+1) 53 _ (0,0) _ rfl ((j.out.put ..)).heap Tryz.underlying53 rfl (by kernel_rfl)) rfl ?_
  rw[HV.out,←HQ.out,←an.out,←zja N.out hc]
  exact zW rfl aD.out (aA.out.put j.out ..) (az.out.put (by omega) ..)
 |false=>
  unfold pv
  go_wp2_with fail
  refine (zg (Cx.mk z h false) J D n S4 q4 z4 d 4 zm _ (I.out.alloc _).tok K (by decide)).mono ?_
  rintro e w5 ⟨rfl,E⟩
  rw[hc]
  replace o:=zc ((o.out.alloc _).below E)
  replace j:=zc ((j.out.alloc _).below E)
  replace A:=zc ((A.out.alloc _).below E)
  replace H:=zc ((Bx.new I.out _).below E)
  have X:Hid (SB w.heap.size S w S4 w5):=(aa.out.alloc _).below E
  have U:Hid (Mem (Cx.mk z h false) J D n S4 q4 w5):=(I.out.alloc _).later E
  clear E aa I
  obtain⟨d0,d1,d2,d3,d4,d5,d6,d7,d8,d9,O,V,df⟩:=H.out.box
  go_wp2_with fail
  refine (zc3 (Cx.mk z h false) J D n _ S4 q4 z4 d ⟨4,0,n2,n4,0,0⟩ _ N.out.fst U.out (zjc N.out)).mono ?_
  rintro e w6 ⟨S6,q6,z6,rfl,i6,m6,M⟩
  replace o:=zc (o.out.stp M)
  replace j:=zc (j.out.stp M)
  replace A:=zc (A.out.stp M)
  replace H:=zc (H.out.stp M)
  have ab:=zc (X.out.step M)
  clear X
  have Z:=zc m6
  have ad:=zc i6
  clear i6 m6 M U
  clear d0 d1 d2 d3 d4 d5 d6 d7 d8 d9 O V df
  obtain⟨b0,b1,b2,b3,b4,b5,b6,b7,b8,b9,ay,ax,bf⟩:=j.out.box
  unfold pv
  go_wp2
  refine bodyPost_ret (results_cell_row rfl _ _ (w.heap.size+1) 53 _ (0,0) _ rfl ((j.out.put ..)).heap Tryz.underlying53 rfl (by kernel_rfl)) rfl ?_
  rw[HV.out,←HQ.out,←an.out,←zjb N.out hc]
  exact zW rfl ad.out (Z.out.put j.out ..) (ab.out.put (by omega) ..)
def zgz (C:Cx) (gt cap base m:Nat):Prop:=∀(x:PR) (S:Sv) (q:PS) (z:Int) (d:Nat) (w:World),Is x q z→Mem C gt cap base S q w→(z<0→C.ts.length-q.pos<m)→d≤20→
 Calls Tryz.prog 168 #[pv C gt cap S q z d] w (Out C gt cap base (bd x (pE C .part d)) d S w)
def zjf (C:Cx) (gt cap base m:Nat):Prop:=∀(x:PR) (S:Sv) (q:PS) (z:Int) (d:Nat) (w:World),Is x q z→Mem C gt cap base S q w→(z<0→C.ts.length-q.pos<m)→d≤20→
 Calls Tryz.prog 136 #[pv C gt cap S q z d] w (Out C gt cap base (bd x (pE C .prod d)) d S w)
theorem SumOK.mono {C:Cx} {o n j m k:Nat} (h:SumOK C o n j m) (A:k≤m):SumOK C o n j k:=fun x S q z d w D I H E=>h x S q z d w D I (fun g=>Nat.lt_of_lt_of_le (H g) A) E
theorem zpi {C:Cx} {A n h m:Nat} (X:SumOK C A n h m):zgz C A n h (m+1):=by
 intro x S q z d w V D Y J
 by_cases N:z<0
 ·obtain⟨rfl,rfl⟩:=za7 V N
  rw[zx]
  have O:SumOK C A n h (C.ts.length-q.pos):=X.mono (by have:=Y N;omega)
  cases E:((ze C q.pos).kind==2) with
  |true=>exact zoW C A n h S q d w D E
  |false=>
   cases I:isT C q.pos 4 zm with
   |true=>
    by_cases U:20≤d
    ·exact zoX C A n h S q d w D E I U J
    ·exact zoY C A n h S q d w D E I (by omega) O
   |false=>
    obtain⟨o,j,L⟩:=C
    cases L with
    |true=>
     by_cases H:q.pos<o.length
     ·cases M:isT (Cx.mk o j true) q.pos 1 za4 with
      |true=>exact zpb o j A n h S q d w D E I H M
      |false=>
       cases K:zB (Cx.mk o j true) q.pos false with
       |false=>exact zpa o j A n h S q d w D E I H M K
       |true=>
        cases J:isT (Cx.mk o j true) (q.pos+1) 4 cPoint with
        |false=>exact zpc o j A n h S q d w D E I H M K J
        |true=>exact zpd o j A n h S q d w D E I H M K J
     ·exact zoZ o j A n h S q d w D H
    |false=>
     by_cases H:q.pos<o.length
     ·cases K:zB (Cx.mk o j false) q.pos false with
      |false=>exact zpf o j A n h S q d w D E I H K
      |true=>
       cases J:isT (Cx.mk o j false) (q.pos+1) 4 cPoint with
       |false=>exact zpg o j A n h S q d w D E I H K J
       |true=>exact zph o j A n h S q d w D E I H K J
     ·exact zpe o j A n h S q d w D H
 ·obtain⟨e,rfl,rfl⟩:=zcN V N
  rw[zd7]
  obtain⟨o,j,L⟩:=C
  cases L with
  |true=>exact zjd o j A n h S q d w D e
  |false=>exact zje o j A n h S q d w D e
theorem zg0 {C:Cx} {x:PR} {q:PS} {z:Int} (h:Is x q z) (F:PS→Ex):bd x (zM C (F q))=bd x fun q'=>zM C (F q') q':=by
 cases x with
 |ok a=>obtain⟨rfl,_⟩:=h;rfl
 |error e=>rfl
theorem zjg {C:Cx} {y:PS→Ex} {x:PR} {q:PS} {n:Nat} (w: ∀a,x= .ok a→n≤a.pos) (h:(bd x fun q'=>zM C (y q') q')= .ok q):n≤q.pos:=by
 obtain⟨a,o,j⟩:=zi h
 obtain⟨rfl,_⟩:=zb1 j
 exact w a o
theorem zpj {C:Cx} {d m:Nat} {x:PR} {q h:PS} {z j:Int} (E:Is x q z) (w:Is (bd x (pE C .part d)) h j) (D:z<0→C.ts.length-q.pos<m) (o:j<0):C.ts.length-h.pos<m:=by
 obtain⟨e,_⟩:=za7 w o
 obtain⟨a,A,n⟩:=zi e
 subst A
 obtain⟨rfl,rfl⟩:=E
 have:=zaP n
 have:=D (by decide)
 omega
theorem zpk {C:Cx} {d m:Nat} {x:PR} {q h:PS} {z j:Int} (E:Is x q z) (w:Is (bd x (pE C .prod d)) h j) (D:z<0→C.ts.length-q.pos<m) (o:j<0):C.ts.length-h.pos<m:=by
 obtain⟨e,_⟩:=za7 w o
 obtain⟨a,A,n⟩:=zi e
 subst A
 obtain⟨rfl,rfl⟩:=E
 have:=zaP n
 have:=D (by decide)
 omega
theorem zpl {C:Cx} {d:Nat} {j q:PS} {z:Int} (h:Is (bd (.ok (adv j)) (pE C .part d)) q z) (n:z<0):1≤q.pos:=by
 obtain⟨e,_⟩:=za7 h n
 have:=zaP (show pE C .part d (adv j)= .ok q from e)
 rw[zw] at this
 omega
theorem zjh {C:Cx} {d:Nat} {j q:PS} {z:Int} (h:Is (bd (.ok (adv j)) (pE C .prod d)) q z) (n:z<0):1≤q.pos:=by
 obtain⟨e,_⟩:=za7 h n
 have:=zaP (show pE C .prod d (adv j)= .ok q from e)
 rw[zw] at this
 omega
theorem zpm {C:Cx} {d:Nat} {F:PS→Ex} {j q:PS} {z:Int} (h:Is (bd (bd (.ok (adv j)) (pE C .part d)) fun q'=>zM C (F q') q') q z) (o:z<0):j.pos+1≤q.pos:=by
 obtain⟨e,_⟩:=za7 h o
 exact zjg (fun a n=>by have:=zaP (show pE C .part d (adv j)= .ok a from n);rw[zw] at this;exact this) e
theorem zji {C:Cx} {d:Nat} {F:PS→Ex} {j q:PS} {z:Int} (h:Is (bd (bd (.ok (adv j)) (pE C .prod d)) fun q'=>zM C (F q') q') q z) (o:z<0):j.pos+1≤q.pos:=by
 obtain⟨e,_⟩:=za7 h o
 exact zjg (fun a n=>by have:=zaP (show pE C .prod d (adv j)= .ok a from n);rw[zw] at this;exact this) e
theorem zpn {C:Cx} {d:Nat} {q:PS} (h:isT C q.pos 4 zv=true) (_:q.pos<C.ts.length):
  bd (.ok q) (pE C .prodT d)=bd (bd (bd (.ok (adv q)) (pE C .part d)) fun q'=>zM C ⟨8,0,sNone,sNone,(q.ex.length:Int)-1,(q'.ex.length:Int)-1⟩ q') (pE C .prodT d):=by
 show pE C .prodT d q=_
 rw[zeJ,if_pos h]
 rfl
theorem zjj {C:Cx} {d:Nat} {q:PS} {k:Int} (h:(isT C q.pos 4 zbN||isT C q.pos 4 zaT)=true) (j:zcH C q.pos=k) (_:q.pos<C.ts.length):
  bd (.ok q) (pE C .sumT d)=bd (bd (bd (.ok (adv q)) (pE C .prod d)) fun q'=>zM C ⟨k,0,sNone,sNone,(q.ex.length:Int)-1,(q'.ex.length:Int)-1⟩ q') (pE C .sumT d):=by
 show pE C .sumT d q=_
 rw[zeg,if_pos h,j]
 rfl
theorem zpo {C:Cx} {d:Nat} {x:PR} {q:PS} {z:Int} (j:Is x q z) (h:(decide (z<0)&&isT C q.pos 4 zv)=false):Is (bd x (pE C .prodT d)) q z:=by
 cases x with
 |ok a=>
  obtain⟨rfl,rfl⟩:=j
  rw[Bool.and_eq_false_iff] at h
  rw[zx,zeJ,h.resolve_left (by decide)]
  exact⟨rfl,rfl⟩
 |error e=>exact j
theorem zpp {C:Cx} {d:Nat} {x:PR} {q:PS} {z:Int} (n:Is x q z) (j:(decide (z<0)&&isT C q.pos 4 zbN)=false) (h:(decide (z<0)&&isT C q.pos 4 zaT)=false):Is (bd x (pE C .sumT d)) q z:=by
 cases x with
 |ok a=>
  obtain⟨rfl,rfl⟩:=n
  rw[Bool.and_eq_false_iff] at j h
  rw[zx,zeg,j.resolve_left (by decide),h.resolve_left (by decide)]
  exact⟨rfl,rfl⟩
 |error e=>exact n
theorem zpq {C:Cx} {i:Nat} (h:isT C i 4 zbN=true):isT C i 4 zaT=false:=by
 simp only[isT,Bool.and_eq_true,beq_iff_eq] at h
 simp only[isT,h.2]
 rw[Bool.and_eq_false_iff]
 exact .inr (by simp)
theorem zjk {C:Cx} {M H D m:Nat} (hP:zgz C M H D m):zjf C M H D m:=by
 intro x S q z d w hx hm hl ag
 have HP:=zc hP
 have HM:=zc hm
 have HX:=zc hx
 have HL:=zc hl
 have ad:=hm.few
 clear hP hm hx hl
 unfold pv
 go_enter Tryz.func136,Tryz.ntmps136
 go_wp2_with fail
 refine (HP.out x S q z d _ HX.out ((HM.out.alloc _).alloc _) HL.out ag).mono ?_
 rintro e w1 ⟨S1,q1,z1,rfl,i1,m1,s1⟩
 obtain⟨X0,X1,t1⟩:=HM.out.two2 s1
 have j:=zc X0
 have n:=zc X1
 have aq:=zc m1
 have av:=zc t1
 have al:=zc i1
 clear X0 X1 i1 m1 t1 s1
 obtain⟨V,Y,Z,X,a4,a5,L,U,a8,a9,o,A,O⟩:=j.out.box
 unfold pv
 go_wp2
 go_loopg [] (C.ts.length+1) (fun k wr=>∃(x':PR) (I:Sv) (J:PS) (z':Int),Is x' J z'∧bd x' (pE C .prodT d)=bd x (pE C .prod d)∧(z'<0→C.ts.length-J.pos<k)∧(z'<0→C.ts.length-J.pos<m)∧Mem C M H D I J wr∧SB w.heap.size S w I wr∧Bx M I wr w.heap.size #[.slice (some ⟨M,0,none⟩) C.ts.length H,.int .i64 J.pos,.int .i64 C.fin,.bool C.scr,.slice I.rq.a J.rq.length I.rq.cap,.slice I.im.a J.im.length I.im.cap,.slice I.ep.a J.ep.length I.ep.cap,.slice I.st.a J.st.length I.st.cap,.slice I.ex.a J.ex.length I.ex.cap,.slice I.la.a J.la.length I.la.cap,.int .i64 z',.int .i64 d]∧Bx M I wr (w.heap.size+1) #[.slice none 0 0,.int .i64 0,.int .i64 0,.bool false,.slice none 0 0,.slice none 0 0,.slice none 0 0,.slice none 0 0,.slice none 0 0,.slice none 0 0,.int .i64 0,.int .i64 0])
 case atStart=>exact⟨_,S1,q1,z1,al.out,by rw[zK];exact zZ fun a _=>(zgI C d a).symm,fun _=>by omega,fun hz=>zpj HX.out al.out HL.out hz,(aq.out.put j.out ..),(av.out.put (by omega) ..),(j.out.put ..),(n.out.other (by omega) ..)⟩
 case round=>
  obtain⟨x2,S2,N,z2,i2,e2,l2,b2,m2,t2,X0,X1⟩:=hrel
  have j:=zc X0
  have n:=zc X1
  have K:=zc m2
  have ac:=zc t2
  have aj:=zc i2
  have an:=zc e2
  have aw:=zc l2
  have au:=zc b2
  have az:=m2.inv.ex
  clear X0 X1 i2 m2 t2 e2 l2 b2
  cases hc:(decide (z2<0)&&isT C N.pos 4 zv) with
  |true=>
   obtain⟨V,Y,Z,X,a4,a5,L,U,a8,a9,o,A,O⟩:=j.out.box
   go_wp2_with fail
   refine (zg C M H D S2 N z2 d 4 zv _ K.out.tok ad (by decide)).mono ?_
   rintro e w3 ⟨rfl,E⟩
   rw[hc]
   replace j:=zc (j.out.below E)
   replace n:=zc (n.out.below E)
   have aa:=zc (ac.out.below E)
   have ab:=zc (K.out.later E)
   clear E ac K
   clear V Y Z X a4 a5 L U a8 a9 o A O
   rw[Bool.and_eq_true,decide_eq_true_eq] at hc
   obtain⟨hz,hs⟩:=hc
   have hp:N.pos<C.ts.length:=zaz hs (by decide)
   obtain⟨rfl,rfl⟩:=za7 aj.out hz
   have ay:=aw.out hz
   have aC:=au.out hz
   skip
   obtain⟨V,Y,Z,X,a4,a5,L,U,a8,a9,o,A,O⟩:=j.out.box
   go_wp2_with fail
   refine (HP.out (.ok (adv N)) S2 (adv N) (-1) d _ (zU _) ((ab.out.adv hp).set j.out 1 _) (fun _=>by rw[zw];omega) ag).mono ?_
   rintro e w4 ⟨S4,q4,z4,rfl,i4,m4,s4⟩
   replace j:=zc ((j.out.at1 _).stp s4)
   replace n:=zc ((n.out.set_other (by omega) 1 _).stp s4)
   have ak:Hid (SB w.heap.size S w S4 w4):=(aa.out.set (by omega) 1 _).step s4
   clear aa
   have am:=zc m4
   have ah:=zc i4
   clear i4 m4 s4 ab
   clear V Y Z X a4 a5 L U a8 a9 o A O
   obtain⟨V,Y,Z,X,a4,a5,L,U,a8,a9,o,A,O⟩:=j.out.box
   unfold pv
   go_upto_region 6 with fail
   refine zJ (R:=fun W=>Bx M S4 W (w.heap.size) _∧Bx M S4 W (w.heap.size+1) _∧Mem C M H D S4 q4 W∧SB w.heap.size S w S4 W) ⟨(j.out.put ..),(n.out.other (by omega) ..),(am.out.put j.out ..),(ak.out.put (by omega) ..)⟩ ?_
   clear V Y Z X a4 a5 L U a8 a9 o A O
   clear j n ak am
   rintro w5 ⟨X0,X1,m5,t5⟩
   have j:=zc X0
   have n:=zc X1
   have ai:=zc m5
   have ao:=zc t5
   clear m5 t5 X0 X1
   obtain⟨V,Y,Z,X,a4,a5,L,U,a8,a9,o,A,O⟩:=j.out.box
   have ax:=ai.out.inv.ex
   go_wp2_with fail
   refine (zc3 C M H D _ S4 q4 z4 d ⟨8,0,sNone,sNone,(N.ex.length:Int)-1,(q4.ex.length:Int)-1⟩ _ ah.out ai.out (fun h=>zpl ah.out h)).mono ?_
   rintro e w6 ⟨S6,q6,z6,rfl,i6,m6,s6⟩
   replace j:=zc (j.out.stp s6)
   replace n:=zc (n.out.stp s6)
   have as:=zc (ao.out.step s6)
   clear ao
   have ap:=zc m6
   have ar:=zc i6
   clear i6 m6 s6 ai
   clear V Y Z X a4 a5 L U a8 a9 o A O
   have HI:Hid (Is (bd (bd (.ok (adv N)) (pE C .part d)) fun J=>zM C ⟨8,0,sNone,sNone,(N.ex.length:Int)-1,(J.ex.length:Int)-1⟩ J) q6 z6):=by rw[←zg0 ah.out (fun J=>⟨8,0,sNone,sNone,(N.ex.length:Int)-1,(J.ex.length:Int)-1⟩)];exact ar.out
   have ae:Hid (z6<0→N.pos+1≤q6.pos):=fun h=>zpm HI.out h
   obtain⟨V,Y,Z,X,a4,a5,L,U,a8,a9,o,A,O⟩:=j.out.box
   unfold pv
   go_wp2
   go_roundg (gk-1)
   case rel=>exact⟨_,S6,q6,z6,HI.out,by rw[←an.out];exact (zpn (d:=d) hs hp).symm,fun h=>by have:=ae.out h;omega,fun h=>by have:=ae.out h;omega,(ap.out.put j.out ..),(as.out.put (by omega) ..),(j.out.put ..),(n.out.other (by omega) ..)⟩
   case measure=>omega
  |false=>
   obtain⟨V,Y,Z,X,a4,a5,L,U,a8,a9,o,A,O⟩:=j.out.box
   go_wp2_with fail
   refine (zg C M H D S2 N z2 d 4 zv _ K.out.tok ad (by decide)).mono ?_
   rintro e w3 ⟨rfl,E⟩
   rw[hc]
   replace j:=zc (j.out.below E)
   replace n:=zc (n.out.below E)
   have aa:=zc (ac.out.below E)
   have ab:=zc (K.out.later E)
   clear E ac K
   clear V Y Z X a4 a5 L U a8 a9 o A O
   obtain⟨V,Y,Z,X,a4,a5,L,U,a8,a9,o,A,O⟩:=j.out.box
   obtain⟨b0,b1,b2,b3,b4,b5,b6,b7,b8,b9,aB,aA,bf⟩:=n.out.box
   go_wp2
   refine bodyPost_ret (results_cell_row rfl _ _ (w.heap.size+1) 53 _ (0,0) _ rfl ((n.out.put ..)).heap Tryz.underlying53 rfl (by kernel_rfl)) rfl ?_
   exact zW rfl (show Is (bd x (pE C .prod d)) N z2 from by rw[←an.out];exact zpo aj.out hc) (ab.out.put n.out ..) (aa.out.put (by omega) ..)
theorem zjl {C:Cx} {gt I D m:Nat} (hP:zjf C gt I D m):SumOK C gt I D m:=by
 intro x S q z d w hx hm hl aq
 have HP:=zc hP
 have HM:=zc hm
 have HX:=zc hx
 have HL:=zc hl
 have ac:=hm.few
 clear hP hm hx hl
 unfold pv
 go_enter Tryz.func75,Tryz.ntmps75
 go_wp2_with fail
 refine (HP.out x S q z d _ HX.out ((HM.out.alloc _).alloc _) HL.out aq).mono ?_
 rintro e w1 ⟨S1,q1,z1,rfl,i1,m1,s1⟩
 obtain⟨X0,X1,t1⟩:=HM.out.two2 s1
 have j:=zc X0
 have n:=zc X1
 have aF:=zc m1
 have aK:=zc t1
 have aA:=zc i1
 clear X0 X1 i1 m1 t1 s1
 obtain⟨M,O,U,N,Y,V,J,L,X,Z,o,A,K⟩:=j.out.box
 unfold pv
 go_wp2
 go_loopg [] (C.ts.length+1) (fun k wr=>∃(x':PR) (S':Sv) (q':PS) (z':Int),Is x' q' z'∧bd x' (pE C .sumT d)=bd x (pE C .sum d)∧(z'<0→C.ts.length-q'.pos<k)∧(z'<0→C.ts.length-q'.pos<m)∧Mem C gt I D S' q' wr∧SB w.heap.size S w S' wr∧Bx gt S' wr w.heap.size #[.slice (some ⟨gt,0,none⟩) C.ts.length I,.int .i64 q'.pos,.int .i64 C.fin,.bool C.scr,.slice S'.rq.a q'.rq.length S'.rq.cap,.slice S'.im.a q'.im.length S'.im.cap,.slice S'.ep.a q'.ep.length S'.ep.cap,.slice S'.st.a q'.st.length S'.st.cap,.slice S'.ex.a q'.ex.length S'.ex.cap,.slice S'.la.a q'.la.length S'.la.cap,.int .i64 z',.int .i64 d]∧Bx gt S' wr (w.heap.size+1) #[.slice none 0 0,.int .i64 0,.int .i64 0,.bool false,.slice none 0 0,.slice none 0 0,.slice none 0 0,.slice none 0 0,.slice none 0 0,.slice none 0 0,.int .i64 0,.int .i64 0])
 case atStart=>exact⟨_,S1,q1,z1,aA.out,by rw[zK];exact zZ fun a _=>(zgH C d a).symm,fun _=>by omega,fun hz=>zpk HX.out aA.out HL.out hz,(aF.out.put j.out ..),(aK.out.put (by omega) ..),(j.out.put ..),(n.out.other (by omega) ..)⟩
 case round=>
  obtain⟨x2,S2,H,z2,i2,e2,l2,b2,m2,t2,X0,X1⟩:=hrel
  have j:=zc X0
  have n:=zc X1
  have aj:=zc m2
  have as:=zc t2
  have au:=zc i2
  have aw:=zc e2
  have aC:=zc l2
  have aB:=zc b2
  have aL:=m2.inv.ex
  clear X0 X1 i2 m2 t2 e2 l2 b2
  cases hc:(decide (z2<0)&&isT C H.pos 4 zbN) with
  |true=>
   obtain⟨M,O,U,N,Y,V,J,L,X,Z,o,A,K⟩:=j.out.box
   go_wp2_with fail
   refine (zg C gt I D S2 H z2 d 4 zbN _ aj.out.tok ac (by decide)).mono ?_
   rintro e w3 ⟨rfl,aa⟩
   rw[hc]
   replace j:=zc (j.out.below aa)
   replace n:=zc (n.out.below aa)
   have ah:=zc (as.out.below aa)
   have ab:=zc (aj.out.later aa)
   clear aa as aj
   clear M O U N Y V J L X Z o A K
   rw[Bool.and_eq_true,decide_eq_true_eq] at hc
   obtain⟨hz,hs⟩:=hc
   have az:isT C H.pos 4 zaT=false:=zpq hs
   have ad:(decide (z2<0)&&isT C H.pos 4 zaT)=false:=by rw[az,Bool.and_false]
   obtain⟨M,O,U,N,Y,V,J,L,X,Z,o,A,K⟩:=j.out.box
   go_wp2_with fail
   refine (zg C gt I D S2 H z2 d 4 zaT _ ab.out.tok ac (by decide)).mono ?_
   rintro e w4 ⟨rfl,E⟩
   rw[ad]
   replace j:=zc (j.out.below E)
   replace n:=zc (n.out.below E)
   have ai:=zc (ah.out.below E)
   have ag:=zc (ab.out.later E)
   clear E ah ab
   clear M O U N Y V J L X Z o A K
   clear ad
   have hp:H.pos<C.ts.length:=zaz hs (by decide)
   obtain⟨rfl,rfl⟩:=za7 au.out hz
   have aD:=aC.out hz
   have aI:=aB.out hz
   skip
   obtain⟨M,O,U,N,Y,V,J,L,X,Z,o,A,K⟩:=j.out.box
   go_wp2_with fail
   refine (HP.out (.ok (adv H)) S2 (adv H) (-1) d _ (zU _) ((ag.out.adv hp).set j.out 1 _) (fun _=>by rw[zw];omega) aq).mono ?_
   rintro e w5 ⟨S5,q5,z5,rfl,i5,m5,s5⟩
   replace j:=zc ((j.out.at1 _).stp s5)
   replace n:=zc ((n.out.set_other (by omega) 1 _).stp s5)
   have ap:Hid (SB w.heap.size S w S5 w5):=(ai.out.set (by omega) 1 _).step s5
   clear ai
   have al:=zc m5
   have ax:=zc i5
   clear i5 m5 s5 ag
   clear M O U N Y V J L X Z o A K
   obtain⟨M,O,U,N,Y,V,J,L,X,Z,o,A,K⟩:=j.out.box
   unfold pv
   go_upto_region 9 with fail
   refine zJ (R:=fun W=>Bx gt S5 W (w.heap.size) _∧Bx gt S5 W (w.heap.size+1) _∧Mem C gt I D S5 q5 W∧SB w.heap.size S w S5 W) ⟨(j.out.put ..),(n.out.other (by omega) ..),(al.out.put j.out ..),(ap.out.put (by omega) ..)⟩ ?_
   clear M O U N Y V J L X Z o A K
   clear j n ap al
   rintro w6 ⟨X0,X1,m6,t6⟩
   have j:=zc X0
   have n:=zc X1
   have ak:=zc m6
   have an:=zc t6
   clear m6 t6 X0 X1
   obtain⟨M,O,U,N,Y,V,J,L,X,Z,o,A,K⟩:=j.out.box
   have ay:=ak.out.inv.ex
   go_wp2_with fail
   refine (zc3 C gt I D _ S5 q5 z5 d ⟨6,0,sNone,sNone,(H.ex.length:Int)-1,(q5.ex.length:Int)-1⟩ _ ax.out ak.out (fun h=>zjh ax.out h)).mono ?_
   rintro e w7 ⟨S7,q7,z7,rfl,i7,m7,s7⟩
   replace j:=zc (j.out.stp s7)
   replace n:=zc (n.out.stp s7)
   have ar:=zc (an.out.step s7)
   clear an
   have ao:=zc m7
   have aH:=zc i7
   clear i7 m7 s7 ak
   clear M O U N Y V J L X Z o A K
   have HI:Hid (Is (bd (bd (.ok (adv H)) (pE C .prod d)) fun q'=>zM C ⟨6,0,sNone,sNone,(H.ex.length:Int)-1,(q'.ex.length:Int)-1⟩ q') q7 z7):=by rw[←zg0 ax.out (fun q'=>⟨6,0,sNone,sNone,(H.ex.length:Int)-1,(q'.ex.length:Int)-1⟩)];exact aH.out
   have ae:Hid (z7<0→H.pos+1≤q7.pos):=fun h=>zji HI.out h
   obtain⟨M,O,U,N,Y,V,J,L,X,Z,o,A,K⟩:=j.out.box
   unfold pv
   go_wp2
   go_roundg (gk-1)
   case rel=>exact⟨_,S7,q7,z7,HI.out,by rw[←aw.out];exact (zjj (d:=d) (by rw[hs];rfl) (show zcH C H.pos=6 by rw[zcH,az];rfl) hp).symm,fun h=>by have:=ae.out h;omega,fun h=>by have:=ae.out h;omega,(ao.out.put j.out ..),(ar.out.put (by omega) ..),(j.out.put ..),(n.out.other (by omega) ..)⟩
   case measure=>omega
  |false=>
   obtain⟨M,O,U,N,Y,V,J,L,X,Z,o,A,K⟩:=j.out.box
   go_wp2_with fail
   refine (zg C gt I D S2 H z2 d 4 zbN _ aj.out.tok ac (by decide)).mono ?_
   rintro e w3 ⟨rfl,aa⟩
   rw[hc]
   replace j:=zc (j.out.below aa)
   replace n:=zc (n.out.below aa)
   have ah:=zc (as.out.below aa)
   have ab:=zc (aj.out.later aa)
   clear aa as aj
   clear M O U N Y V J L X Z o A K
   cases ad:(decide (z2<0)&&isT C H.pos 4 zaT) with
   |true=>
    obtain⟨M,O,U,N,Y,V,J,L,X,Z,o,A,K⟩:=j.out.box
    go_wp2_with fail
    refine (zg C gt I D S2 H z2 d 4 zaT _ ab.out.tok ac (by decide)).mono ?_
    rintro e w4 ⟨rfl,E⟩
    rw[ad]
    replace j:=zc (j.out.below E)
    replace n:=zc (n.out.below E)
    have ai:=zc (ah.out.below E)
    have ag:=zc (ab.out.later E)
    clear E ah ab
    clear M O U N Y V J L X Z o A K
    obtain⟨M,O,U,N,Y,V,J,L,X,Z,o,A,K⟩:=j.out.box
    go_wp2_with fail
    refine (zg C gt I D S2 H z2 d 4 zaT _ ag.out.tok ac (by decide)).mono ?_
    rintro e w5 ⟨rfl,am⟩
    rw[ad]
    replace j:=zc (j.out.below am)
    replace n:=zc (n.out.below am)
    have ap:=zc (ai.out.below am)
    have al:=zc (ag.out.later am)
    clear am ai ag
    clear M O U N Y V J L X Z o A K
    rw[Bool.and_eq_true,decide_eq_true_eq] at ad
    obtain⟨hz,hs⟩:=ad
    have hp:H.pos<C.ts.length:=zaz hs (by decide)
    obtain⟨rfl,rfl⟩:=za7 au.out hz
    have aD:=aC.out hz
    have aI:=aB.out hz
    skip
    obtain⟨M,O,U,N,Y,V,J,L,X,Z,o,A,K⟩:=j.out.box
    go_wp2_with fail
    refine (HP.out (.ok (adv H)) S2 (adv H) (-1) d _ (zU _) ((al.out.adv hp).set j.out 1 _) (fun _=>by rw[zw];omega) aq).mono ?_
    rintro e w6 ⟨S6,q6,z6,rfl,i6,m6,s6⟩
    replace j:=zc ((j.out.at1 _).stp s6)
    replace n:=zc ((n.out.set_other (by omega) 1 _).stp s6)
    have an:Hid (SB w.heap.size S w S6 w6):=(ap.out.set (by omega) 1 _).step s6
    clear ap
    have ak:=zc m6
    have av:=zc i6
    clear i6 m6 s6 al
    clear M O U N Y V J L X Z o A K
    obtain⟨M,O,U,N,Y,V,J,L,X,Z,o,A,K⟩:=j.out.box
    unfold pv
    go_upto_region 9 with fail
    refine zJ (R:=fun W=>Bx gt S6 W (w.heap.size) _∧Bx gt S6 W (w.heap.size+1) _∧Mem C gt I D S6 q6 W∧SB w.heap.size S w S6 W) ⟨(j.out.put ..),(n.out.other (by omega) ..),(ak.out.put j.out ..),(an.out.put (by omega) ..)⟩ ?_
    clear M O U N Y V J L X Z o A K
    clear j n an ak
    rintro w7 ⟨X0,X1,m7,t7⟩
    have j:=zc X0
    have n:=zc X1
    have ao:=zc m7
    have ar:=zc t7
    clear m7 t7 X0 X1
    obtain⟨M,O,U,N,Y,V,J,L,X,Z,o,A,K⟩:=j.out.box
    have ay:=ao.out.inv.ex
    go_wp2_with fail
    refine (zc3 C gt I D _ S6 q6 z6 d ⟨7,0,sNone,sNone,(H.ex.length:Int)-1,(q6.ex.length:Int)-1⟩ _ av.out ao.out (fun h=>zjh av.out h)).mono ?_
    rintro e w8 ⟨S8,q8,z8,rfl,i8,m8,s8⟩
    replace j:=zc (j.out.stp s8)
    replace n:=zc (n.out.stp s8)
    have aE:=zc (ar.out.step s8)
    clear ar
    have aG:=zc m8
    have aJ:=zc i8
    clear i8 m8 s8 ao
    clear M O U N Y V J L X Z o A K
    have HI:Hid (Is (bd (bd (.ok (adv H)) (pE C .prod d)) fun q'=>zM C ⟨7,0,sNone,sNone,(H.ex.length:Int)-1,(q'.ex.length:Int)-1⟩ q') q8 z8):=by rw[←zg0 av.out (fun q'=>⟨7,0,sNone,sNone,(H.ex.length:Int)-1,(q'.ex.length:Int)-1⟩)];exact aJ.out
    have ae:Hid (z8<0→H.pos+1≤q8.pos):=fun h=>zji HI.out h
    obtain⟨M,O,U,N,Y,V,J,L,X,Z,o,A,K⟩:=j.out.box
    unfold pv
    go_wp2
    go_roundg (gk-1)
    case rel=>exact⟨_,S8,q8,z8,HI.out,by rw[←aw.out];exact (zjj (d:=d) (by rw[hs,Bool.or_true]) (show zcH C H.pos=7 by rw[zcH,hs];rfl) hp).symm,fun h=>by have:=ae.out h;omega,fun h=>by have:=ae.out h;omega,(aG.out.put j.out ..),(aE.out.put (by omega) ..),(j.out.put ..),(n.out.other (by omega) ..)⟩
    case measure=>omega
   |false=>
    obtain⟨M,O,U,N,Y,V,J,L,X,Z,o,A,K⟩:=j.out.box
    go_wp2_with fail
    refine (zg C gt I D S2 H z2 d 4 zaT _ ab.out.tok ac (by decide)).mono ?_
    rintro e w4 ⟨rfl,E⟩
    rw[ad]
    replace j:=zc (j.out.below E)
    replace n:=zc (n.out.below E)
    have ai:=zc (ah.out.below E)
    have ag:=zc (ab.out.later E)
    clear E ah ab
    clear M O U N Y V J L X Z o A K
    obtain⟨M,O,U,N,Y,V,J,L,X,Z,o,A,K⟩:=j.out.box
    obtain⟨b0,b1,b2,b3,b4,b5,b6,b7,b8,b9,aN,aM,bf⟩:=n.out.box
    go_wp2
    refine bodyPost_ret (results_cell_row rfl _ _ (w.heap.size+1) 53 _ (0,0) _ rfl ((n.out.put ..)).heap Tryz.underlying53 rfl (by kernel_rfl)) rfl ?_
    exact zW rfl (show Is (bd x (pE C .sum d)) H z2 from by rw[←aw.out];exact zpp au.out hc ad) (ag.out.put n.out ..) (ai.out.put (by omega) ..)
theorem zpr (C:Cx) (A j h:Nat):zgz C A j h 0:=by
 intro x S q z d w I H J K
 by_cases E:z<0
 ·have:=J E
  omega
 ·obtain⟨e,rfl,rfl⟩:=zcN I E
  rw[zd7]
  obtain⟨D,n,o⟩:=C
  cases o with
  |true=>exact zjd D n A j h S q d w H e
  |false=>exact zje D n A j h S q d w H e
theorem zps (C:Cx) (n j h:Nat) (m:Nat):SumOK C n j h m:=by
 induction m with
 |zero=>exact zjl (zjk (zpr C n j h))
 |succ m o=>exact zjl (zjk (zpi o))
theorem zcE (C:Cx) (n j h:Nat) (x:PR) (S:Sv) (q:PS) (z:Int) (w:World) (A:Is x q z) (o:Mem C n j h S q w):
  Calls Tryz.prog 75 #[pv C n j S q z 0] w (Out C n j h (bd x (pE C .sum 0)) 0 S w):=
 zps C n j h (C.ts.length+1) x S q z 0 w A o (fun _=>by omega) (by omega)
theorem Is2.withN {y:PRN} {q q':PS} {z z':Int} {n:ByteArray} {F:PR→ByteArray→PR} (h:Is2 y q z n) (A: ∀e n,F (.error e) n= .error e) (j:Is (F (zaG y) n) q' z'):Is2 (withN y F) q' z' n:=by
 cases y with
 |ok a=>
  obtain⟨_,_,rfl⟩:=h
  have e:zaG (.ok a)= .ok a.1:=rfl
  rw[e] at j
  show Is2 (bd (F (.ok a.1) a.2) fun q=>.ok (q,a.2)) q' z' a.2
  cases o:F (.ok a.1) a.2 with
  |ok b=>rw[o] at j;exact⟨j.1,j.2,rfl⟩
  |error e=>rw[o] at j;exact j
 |error e=>
  have w:zaG (.error e)= .error e:=rfl
  rw[w,A] at j
  exact j
theorem zjm {C:Cx} {q j h:Nat} {y:PRN} {d:Nat} {S n:Sv} {w o:World} {q':PS} {z':Int} {z:ByteArray} {v:Value} (A:v=pv C q j n q' z' d) (H:Is2 y q' z' z) (D:Mem C q j h n q' o) (E:SB w.heap.size S w n o):zcW C q j h y d S w (.returned (.tuple #[v,.string z])) o:=
 ⟨n,q',z',z,by rw[A],H,D,E.done⟩
theorem zg1 (C:Cx) (D A j:Nat) (S:Sv) (q:PS) (w:World) (hm:Mem C D A j S q w):
  Calls Tryz.prog 72 #[pv C D A S q (-1) 0] w (zcW C D A j (zcm C q) 0 S w):=by
 have HM:=zc hm
 clear hm
 unfold pv
 go_enter Tryz.func72,Tryz.ntmps72
 go_wp2_with fail
 refine (zaC C D A j (.ok q) S q (-1) 0 zA _ (zU q) ((HM.out.alloc _).alloc _)).mono ?_
 rintro e w1 ⟨S1,q1,z1,rfl,i1,m1,s1⟩
 obtain⟨K,O,t1⟩:=HM.out.two2 s1
 have o:=zc K
 have h:=zc O
 have U:=zc m1
 have ae:=zc t1
 have aj:=zc i1
 clear K O i1 m1 t1 s1
 go_wp2_with fail
 refine (zaU C D A j _ S1 q1 z1 0 false _ aj.out U.out).mono ?_
 rintro e w2 ⟨S2,q2,z2,n2,rfl,i2,m2,s2⟩
 replace o:=zc (o.out.stp s2)
 replace h:=zc (h.out.stp s2)
 have af:=zc (ae.out.step s2)
 clear ae
 have E:=zc m2
 have V:=zc i2
 clear i2 m2 s2 U
 have am:w.heap.size+1<w2.heap.size:=h.out.lt
 unfold pv
 go_wp2_with fail
 refine (zab C D A j _ S2 q2 z2 0 cEq _ V.out.fst (E.out.alloc _)).mono ?_
 rintro e w3 ⟨S3,q3,z3,rfl,i3,m3,s3⟩
 replace o:=zc ((o.out.alloc _).stp s3)
 replace h:=zc ((h.out.alloc _).stp s3)
 replace z:=zc ((Bx.new E.out _).stp s3)
 have L:Hid (SB w.heap.size S w S3 w3):=(af.out.alloc _).step s3
 clear af
 have aa:=zc m3
 have ak:=zc i3
 clear i3 m3 s3 E
 go_wp2_with fail
 refine (zcE C D A j _ S3 q3 z3 _ ak.out aa.out).mono ?_
 rintro e w4 ⟨S4,q4,z4,rfl,i4,m4,s4⟩
 replace o:=zc (o.out.stp s4)
 replace h:=zc (h.out.stp s4)
 replace z:=zc (z.out.stp s4)
 have X:=zc (L.out.step s4)
 clear L
 have Z:=zc m4
 have ag:=zc i4
 clear i4 m4 s4 aa
 go_wp2_with fail
 refine (zab C D A j _ S4 q4 z4 0 cSemi _ ag.out Z.out).mono ?_
 rintro e w5 ⟨J,q5,z5,rfl,i5,m5,N⟩
 replace o:=zc (o.out.stp N)
 replace h:=zc (h.out.stp N)
 replace z:=zc (z.out.stp N)
 have ac:=zc (X.out.step N)
 clear X
 have Y:=zc m5
 have ad:=zc i5
 clear i5 m5 N Z
 obtain⟨c0,c1,c2,c3,c4,c5,c6,c7,c8,c9,H,I,cf⟩:=z.out.box
 unfold pv
 go_upto_region 3 with fail
 refine zJ (R:=fun W=>Bx D J W (w.heap.size) _∧Bx D J W (w.heap.size+1) _∧Bx D J W (w2.heap.size) _∧Mem C D A j J q5 W∧SB w.heap.size S w J W) ⟨(o.out.other (by omega) ..),(h.out.other (by omega) ..),(z.out.put ..),(Y.out.put z.out ..),(ac.out.put (by omega) ..)⟩ ?_
 clear c0 c1 c2 c3 c4 c5 c6 c7 c8 c9 H I cf
 clear o h z ac Y
 rintro w6 ⟨K,O,X2,m6,t6⟩
 have o:=zc K
 have h:=zc O
 have z:=zc X2
 have M:=zc m6
 have ab:=zc t6
 clear m6 t6 K O X2
 obtain⟨c0,c1,c2,c3,c4,c5,c6,c7,c8,c9,H,I,cf⟩:=z.out.box
 go_wp2_with fail
 refine (zc4 C D A j _ J q5 z5 0 1 n2 _ ad.out M.out (zaZ ad.out)).mono ?_
 rintro e w7 ⟨S7,q7,z7,rfl,i7,m7,s7⟩
 replace o:=zc (o.out.stp s7)
 replace h:=zc (h.out.stp s7)
 replace z:=zc (z.out.stp s7)
 have ah:=zc (ab.out.step s7)
 clear ab
 have al:=zc m7
 have ai:=zc i7
 clear i7 m7 s7 M
 clear c0 c1 c2 c3 c4 c5 c6 c7 c8 c9 H I cf
 obtain⟨b0,b1,b2,b3,b4,b5,b6,b7,b8,b9,ao,an,bf⟩:=h.out.box
 unfold pv
 go_wp2
 refine bodyPost_ret (za8 rfl _ _ (w.heap.size+1) 53 _ (0,0) _ rfl ((h.out.put ..)).heap Tryz.underlying53 rfl (by kernel_rfl)) rfl ?_
 exact zjm rfl (V.out.withN (F:=fun x n=>_) (fun _ _=>rfl) ai.out) (al.out.put h.out ..) (ah.out.put (by omega) ..)
theorem zg2 (C:Cx) (D A z:Nat) (S:Sv) (q:PS) (w:World) (hm:Mem C D A z S q w):
  Calls Tryz.prog 73 #[pv C D A S q (-1) 0] w (zcW C D A z (fnP C q) 0 S w):=by
 have HM:=zc hm
 clear hm
 unfold pv
 go_enter Tryz.func73,Tryz.ntmps73
 go_wp2_with fail
 refine (zaC C D A z (.ok q) S q (-1) 0 zO _ (zU q) ((HM.out.alloc _).alloc _)).mono ?_
 rintro e w1 ⟨S1,q1,z1,rfl,i1,m1,s1⟩
 obtain⟨J,M,t1⟩:=HM.out.two2 s1
 have o:=zc J
 have j:=zc M
 have aq:=zc m1
 have aO:=zc t1
 have aS:=zc i1
 clear J M i1 m1 t1 s1
 go_wp2_with fail
 refine (zaU C D A z _ S1 q1 z1 0 false _ aS.out aq.out).mono ?_
 rintro e w2 ⟨S2,q2,z2,n2,rfl,i2,m2,s2⟩
 replace o:=zc (o.out.stp s2)
 replace j:=zc (j.out.stp s2)
 have aP:=zc (aO.out.step s2)
 clear aO
 have aj:=zc m2
 have av:=zc i2
 clear i2 m2 s2 aq
 have a0:w.heap.size+1<w2.heap.size:=j.out.lt
 unfold pv
 go_wp2_with fail
 refine (zab C D A z _ S2 q2 z2 0 zm _ av.out.fst (aj.out.alloc _)).mono ?_
 rintro e w3 ⟨S3,q3,z3,rfl,i3,m3,s3⟩
 replace o:=zc ((o.out.alloc _).stp s3)
 replace j:=zc ((j.out.alloc _).stp s3)
 replace h:=zc ((Bx.new aj.out _).stp s3)
 have al:Hid (SB w.heap.size S w S3 w3):=(aP.out.alloc _).step s3
 clear aP
 have aD:=zc m3
 have aU:=zc i3
 clear i3 m3 s3 aj
 go_wp2_with fail
 refine (zab C D A z _ S3 q3 z3 0 zay _ aU.out aD.out).mono ?_
 rintro e w4 ⟨S4,q4,z4,rfl,i4,m4,s4⟩
 replace o:=zc (o.out.stp s4)
 replace j:=zc (j.out.stp s4)
 replace h:=zc (h.out.stp s4)
 have aw:=zc (al.out.step s4)
 clear al
 have aA:=zc m4
 have aQ:=zc i4
 clear i4 m4 s4 aD
 go_wp2_with fail
 refine (zab C D A z _ S4 q4 z4 0 zF _ aQ.out aA.out).mono ?_
 rintro e w5 ⟨S5,q5,z5,rfl,i5,m5,s5⟩
 replace o:=zc (o.out.stp s5)
 replace j:=zc (j.out.stp s5)
 replace h:=zc (h.out.stp s5)
 have aI:=zc (aw.out.step s5)
 clear aw
 have ay:=zc m5
 have aY:=zc i5
 clear i5 m5 s5 aA
 obtain⟨V,X,c2,K,O,L,N,c7,Y,c9,E,H,Z⟩:=h.out.box
 unfold pv
 go_upto_region 3 with fail
 refine zJ (R:=fun W=>Bx D S5 W (w.heap.size) _∧Bx D S5 W (w.heap.size+1) _∧Bx D S5 W (w2.heap.size) _∧Mem C D A z S5 q5 W∧SB w.heap.size S w S5 W) ⟨(o.out.other (by omega) ..),(j.out.other (by omega) ..),(h.out.put ..),(ay.out.put h.out ..),(aI.out.put (by omega) ..)⟩ ?_
 clear V X c2 K O L N c7 Y c9 E H Z
 clear o j h aI ay
 rintro w6 ⟨J,M,X2,m6,t6⟩
 have o:=zc J
 have j:=zc M
 have h:=zc X2
 have an:=zc m6
 have aE:=zc t6
 clear m6 t6 J M X2
 obtain⟨V,X,c2,K,O,L,N,c7,Y,c9,E,H,Z⟩:=h.out.box
 go_wp2_with fail
 refine (zaC C D A z _ S5 q5 z5 0 zd6 _ aY.out an.out).mono ?_
 rintro e w7 ⟨S7,q7,z7,rfl,i7,m7,s7⟩
 replace o:=zc (o.out.stp s7)
 replace j:=zc (j.out.stp s7)
 replace h:=zc (h.out.stp s7)
 have au:=zc (aE.out.step s7)
 clear aE
 have aF:=zc m7
 have aR:=zc i7
 clear i7 m7 s7 an
 clear V X c2 K O L N c7 Y c9 E H Z
 go_wp2_with fail
 refine (zcE C D A z _ S7 q7 z7 _ aR.out aF.out).mono ?_
 rintro e w8 ⟨S8,q8,z8,rfl,i8,m8,s8⟩
 replace o:=zc (o.out.stp s8)
 replace j:=zc (j.out.stp s8)
 replace h:=zc (h.out.stp s8)
 have ao:=zc (au.out.step s8)
 clear au
 have ar:=zc m8
 have aT:=zc i8
 clear i8 m8 s8 aF
 obtain⟨V,X,c2,K,O,L,N,c7,Y,c9,E,H,Z⟩:=h.out.box
 unfold pv
 go_upto_region 4 with fail
 refine zJ (R:=fun W=>Bx D S8 W (w.heap.size) _∧Bx D S8 W (w.heap.size+1) _∧Bx D S8 W (w2.heap.size) _∧Mem C D A z S8 q8 W∧SB w.heap.size S w S8 W) ⟨(o.out.other (by omega) ..),(j.out.other (by omega) ..),(h.out.put ..),(ar.out.put h.out ..),(ao.out.put (by omega) ..)⟩ ?_
 clear V X c2 K O L N c7 Y c9 E H Z
 clear o j h ao ar
 rintro w9 ⟨J,M,X2,m9,t9⟩
 have o:=zc J
 have j:=zc M
 have h:=zc X2
 have az:=zc m9
 have ak:=zc t9
 clear m9 t9 J M X2
 obtain⟨V,X,c2,K,O,L,N,c7,Y,c9,E,H,Z⟩:=h.out.box
 go_wp2_with fail
 refine (zab C D A z _ S8 q8 z8 0 cSemi _ aT.out az.out).mono ?_
 rintro e a5 ⟨aW,aV,aX,rfl,aG,aL,ab⟩
 replace o:=zc (o.out.stp ab)
 replace j:=zc (j.out.stp ab)
 replace h:=zc (h.out.stp ab)
 have ac:=zc (ak.out.step ab)
 clear ak
 have ai:=zc aL
 have aK:=zc aG
 clear aG aL ab az
 clear V X c2 K O L N c7 Y c9 E H Z
 go_wp2_with fail
 refine (zab C D A z _ aW aV aX 0 zbd _ aK.out ai.out).mono ?_
 rintro e a9 ⟨I,aJ,aZ,rfl,aM,aH,U⟩
 replace o:=zc (o.out.stp U)
 replace j:=zc (j.out.stp U)
 replace h:=zc (h.out.stp U)
 have ad:=zc (ac.out.step U)
 clear ac
 have ag:=zc aH
 have af:=zc aM
 clear aM aH U ai
 obtain⟨V,X,c2,K,O,L,N,c7,Y,c9,E,H,Z⟩:=h.out.box
 unfold pv
 go_upto_region 5 with fail
 refine zJ (R:=fun W=>Bx D I W (w.heap.size) _∧Bx D I W (w.heap.size+1) _∧Bx D I W (w2.heap.size) _∧Mem C D A z I aJ W∧SB w.heap.size S w I W) ⟨(o.out.other (by omega) ..),(j.out.other (by omega) ..),(h.out.put ..),(ag.out.put h.out ..),(ad.out.put (by omega) ..)⟩ ?_
 clear V X c2 K O L N c7 Y c9 E H Z
 clear o j h ad ag
 rintro a4 ⟨J,M,X2,am,ap⟩
 have o:=zc J
 have j:=zc M
 have h:=zc X2
 have ae:=zc am
 have ah:=zc ap
 clear am ap J M X2
 obtain⟨V,X,c2,K,O,L,N,c7,Y,c9,E,H,Z⟩:=h.out.box
 go_wp2_with fail
 refine (zc4 C D A z _ I aJ aZ 0 2 n2 _ af.out ae.out (zaZ af.out)).mono ?_
 rintro e a7 ⟨a3,a6,a8,rfl,ax,aN,aa⟩
 replace o:=zc (o.out.stp aa)
 replace j:=zc (j.out.stp aa)
 replace h:=zc (h.out.stp aa)
 have aB:=zc (ah.out.step aa)
 clear ah
 have aC:=zc aN
 have as:=zc ax
 clear ax aN aa ae
 clear V X c2 K O L N c7 Y c9 E H Z
 obtain⟨b0,b1,b2,b3,b4,b5,b6,b7,b8,b9,a2,a1,bf⟩:=j.out.box
 unfold pv
 go_wp2
 refine bodyPost_ret (za8 rfl _ _ (w.heap.size+1) 53 _ (0,0) _ rfl ((j.out.put ..)).heap Tryz.underlying53 rfl (by kernel_rfl)) rfl ?_
 exact zjm rfl (av.out.withN (F:=fun x n=>_) (fun _ _=>rfl) as.out) (aC.out.put j.out ..) (aB.out.put (by omega) ..)
end Go.Proofs.YticdggnnpjachaaGreat
