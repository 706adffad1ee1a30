/-
  A row of pairs of names beside a program under way. No program is spoken of but for the numbers of its types.
  What spec's l4Tail answers: the walk.
  What spec's l4List answers: the walk.
  What spec's l4Part answers,if l4Sum answers so behind it: the walks.
  What spec's l4Part answers where no number and no bracket stands,in a script: the walks.
  What spec's l4Part answers where no number and no bracket stands: the walks.
  What spec's l4Part,l4Product and l4Sum answer: the walks of the two loops,and the three together.
  What spec's l4Let and l4Fn answer: the walks.
-/
import Derived.Deep.DeepCutAuto
import Derived.Test.YticdggnnpjachaaGreatCcModOkImplToSpecBox
namespace Go.Proofs.YticdggnnpjachaaGreat
set_option maxRecDepth 100000
set_option maxHeartbeats 6400000
open Go.RowKit Go.PlainAid
structure Row (S:Sv) (w:World) (base B:Nat) (r:Rw) (l:List Ep):Prop where
 own:OwnR w base 102 4 r l.length (l.flatMap epL)
 free: ∀k,r.blk=some k→¬S.has k
 new: ∀k,r.blk=some k→B≤k
 addr: ∃g,r.a=some ⟨g,0,none⟩
theorem Row.ne {z b:Nat} {S:Sv} {w:World} {j B:Nat} {r:Rw} {l:List Ep} {o:Array Value} (h:Row S w j B r l) (n:Bx z S w b o): ∀k,r.blk=some k→k≠b:=by
 rintro k q rfl
 obtain⟨_,_,c,g⟩:=h.own.typed q
 rw[n.heap] at g
 simp only[Option.some.injEq,Obj.cells.injEq] at g
 exact absurd g.2.1 (by decide)
theorem Row.stp {S q:Sv} {w o:World} {j B:Nat} {r:Rw} {l:List Ep} (h:Row S w j B r l) (s:Stp S w q o):Row q o j B r l:=
 ⟨h.own.keep fun k n=>s.block k (h.own.typed n).2.1 (h.free k n),fun k n g=>(s.sub k g).elim (h.free k n) fun z=>by have:=(h.own.typed n).2.1;omega,h.new,h.addr⟩
theorem Row.below {S:Sv} {w n:World} {j B:Nat} {r:Rw} {l:List Ep} (h:Row S w j B r l) (s:Below w.heap.size w n):Row S n j B r l:=h.stp (Stp.below s)
theorem Row.alloc {S:Sv} {w:World} {j B:Nat} {r:Rw} {l:List Ep} (h:Row S w j B r l) (o:Obj):Row S (w.alloc o) j B r l:=h.below ((Below.refl _ _).alloc (Nat.le_refl _) _)
theorem Row.drew {S:Sv} {w:World} {j B:Nat} {r:Rw} {l:List Ep} (h:Row S w j B r l):Row S w.drew j B r l:=⟨h.own,h.free,h.new,h.addr⟩
theorem Row.set {z b:Nat} {S:Sv} {w:World} {j B:Nat} {r:Rw} {l:List Ep} {o:Array Value} (h:Row S w j B r l) (n:Bx z S w b o) (i:Nat) (u:Value):Row S (w.setCell ⟨b,i,none⟩ u) j B r l:=
 ⟨h.own.keep fun k q=>zp (h.ne n k q),h.free,h.new,h.addr⟩
theorem Row.put {U b:Nat} {S:Sv} {w:World} {j B:Nat} {r:Rw} {l:List Ep} {z:Array Value} (h:Row S w j B r l) (q:Bx U S w b z) (O D A K I N L J H E n o:Value):Row S (set12 w b O D A K I N L J H E n o) j B r l:=
 ⟨h.own.keep fun k M=>ze6 (h.ne q k M) _ _ _ _ _ _ _ _ _ _ _ _,h.free,h.new,h.addr⟩
theorem Row.nil {C:Cx} {z n j B:Nat} {S:Sv} {q:PS} {w:World} (h:Mem C z n j S q w) (A:B≤w.heap.size):Row S (w.alloc (.cells #[] 102 (0,0))) j B ⟨some ⟨w.heap.size,0,none⟩,0⟩ []:=by
 refine⟨World.ownsRow_lit w #[] 0 h.base (by unfold maxLen;omega) rfl,fun k o g=>?_,fun k o=>?_,⟨_,rfl⟩⟩
 ·simp only[Rw.blk,Value.ownBlock,Option.some.injEq] at o
  have:=(h.own.has g).2
  omega
 ·simp only[Rw.blk,Value.ownBlock,Option.some.injEq] at o
  omega
theorem Row.grow {C:Cx} {J A j B:Nat} {S:Sv} {q:PS} {W z:World} {r E:Rw} {l:List Ep} {x:Ep} (h:Row S W j B r l) (w:Mem C J A j S q W) (N:B≤W.heap.size) (K:W.grownBy z r.blk) (L:OwnR z j 102 4 E (l.length+1) (l.flatMap epL++epL x)) (D:E.blk=r.blk∨E.blk=some W.heap.size):
  Row S z j B E (l++[x])∧Mem C J A j S q z:=by
 refine⟨⟨?_,fun k o g=>?_,fun k o=>?_,L.addr.resolve_left (by omega)⟩,?_⟩
 ·have e:(l++[x]).length=l.length+1:=by simp
  rw[e]
  simpa using L
 ·rcases D with e|e
  ·exact h.free k (by rw[←e];exact o) g
  ·have M:W.heap.size=k:=Option.some.inj (e.symm.trans o)
   have:=(w.own.has g).2
   omega
 ·rcases D with e|e
  ·exact h.new k (by rw[←e];exact o)
  ·have M:W.heap.size=k:=Option.some.inj (e.symm.trans o)
   omega
 ·have n: ∀k,k<W.heap.size→r.blk≠some k→z.heap[k]? =W.heap[k]?:=fun k o I=>K.block k o fun e=>I e.symm
  refine⟨w.own.keep fun k o=>n k (w.own.has o).2 fun e=>h.free k e o,w.inv,zbs w.tok (n J (zak w.tok).1 fun e=>?_),w.few,Nat.le_trans w.base K.size⟩
  obtain⟨_,_,c,g⟩:=h.own.typed e
  obtain⟨O,H⟩:=zeN w.tok
  rw[g] at H
  simp only[Option.some.injEq,Obj.cells.injEq] at H
  exact absurd H.2.1 (by decide)
theorem Row.bx {w b:Nat} {S:Sv} {W o:World} {j B:Nat} {r:Rw} {l:List Ep} {q:Array Value} (h:Row S W j B r l) (n:Bx w S W b q) (z:W.grownBy o r.blk):Bx w S o b q:=
 ⟨(z.block b n.lt fun e=>h.ne n b e.symm rfl).trans n.heap,n.free,n.ne⟩
theorem Row.sb {S S0:Sv} {w W q:World} {n:Nat} {B:Nat} {r:Rw} {l:List Ep} (h:Row S W n B r l) (j:SB B S0 w S W) (o:W.grownBy q r.blk):SB B S0 w S q:=
 ⟨o.os.trans j.os,o.tape.trans j.tape,o.output.trans j.output,Nat.le_trans j.size o.size,j.low,fun k A z=>(o.block k (by have:=j.size;have:=j.low;omega) fun e=>by have:=h.new k e.symm;omega).trans (j.block k A z),j.sub⟩
theorem Mem.list3 {C:Cx} {E D j:Nat} {S n:Sv} {q:PS} {w o:World} {A z:Array Value} (h:Mem C E D j S q w) (s:Stp S (((w.alloc (.cells A 53 (0,0))).alloc (.cells z 53 (0,0))).alloc (.cells #[] 102 (0,0))) n o):
  Bx E n o w.heap.size A∧Bx E n o (w.heap.size+1) z∧Row n o j w.heap.size ⟨some ⟨w.heap.size+1+1,0,none⟩,0⟩ []∧SB w.heap.size S w n o:=by
 refine⟨(((Bx.new h _).alloc _).alloc _).stp s,?_,?_,(SB.start (zc2 w _ _ _)).step s⟩
 ·have:=((Bx.new (h.alloc (.cells A 53 (0,0))) z).alloc (.cells #[] 102 (0,0))).stp s
  rw[zj] at this
  exact this
 ·have:=(Row.nil (B:=w.heap.size) ((h.alloc (.cells A 53 (0,0))).alloc (.cells z 53 (0,0))) (zaM w _ _).size).stp s
  rw[zcp] at this
  exact this
def Is3 (y:PRL) (q:PS) (z:Int) (l:List Ep):Prop:=
 match y with
 | .ok a=>q=a.1∧z= -1∧l=a.2
 | .error e=>z=(e:Int)
def zoP (C:Cx) (gt cap base:Nat) (y:PRL) (d:Nat) (S:Sv) (w:World) (e:Ending) (w':World):Prop:=
 ∃S' q' z' r l,e= .returned (.tuple #[pv C gt cap S' q' z' d,.slice r.a l.length r.cap,.bool (za5 l)])∧Is3 y q' z' l∧Mem C gt cap base S' q' w'∧Stp S w S' w'∧Row S' w' base w.heap.size r l∧l.length≤4001
theorem ziW (l:List Ep) (x:Ep):za5 (l++[x])=(za5 l||(x.loc.toList==[100,101,102,97,117,108,116])):=by simp[za5]
theorem zoQ {n:Func} {p u v:Tmp} {o:TypeId} (h:n.results= #[.cell p o,.tmp u,.tmp v]) (tmps:Array Value) (P:Program) (w:World):
  (results n tmps).run P w=((asAddr (tmps.getD p undef)).run P w).andThen fun a q=>((loadVar o a).run P q).andThen fun x j=>.ok (.tuple #[x,tmps.getD u undef,tmps.getD v undef]) j:=by
 simp only[results,h]
 simp[Sem.run_bind,Result.andThen]
theorem ziX {P:Program} {q:Func} {p u v:Tmp} {j:TypeId} (h:q.results= #[.cell p j,.tmp u,.tmp v]) (tmps:Array Value) (w:World) (g:Nat) (t:TypeId) (n:Array Value) (o:Nat×Nat) (d:TypeDesc)
  (H:tmps.getD p undef= .pointer (some ⟨g,0,none⟩)) (A:w.heap[g]? =some (.cells n t o))
  (E:P.underlying j=some d) (z:(match d with| .struct _| .array _ _=>true|_=>false)=true) (D:(P.info? j).map (·.size)=some n.size):
  (results q tmps).run P w= .ok (.tuple #[.agg n,tmps.getD u undef,tmps.getD v undef]) w:=by
 rw[zoQ h,H]
 simp[asAddr,Result.andThen,run_loadVar_row w g t j n o d A E z D]
theorem zaZ {C:Cx} {x:PR} {k:Int} {s:ByteArray} {q:PS} {z:Int} (h:Is (bd x (zd C k s)) q z):z<0→1≤q.pos:=by
 intro n
 obtain⟨e,_⟩:=za7 h n
 obtain⟨a,_,j⟩:=zi e
 obtain⟨rfl,_⟩:=zb0 j
 simp[adv]
theorem zgy (C:Cx) (L o n:Nat) (S:Sv) (q:PS) (d:Nat) (K:ByteArray) (w:World) (hm:Mem C L o n S q w) (hp:1≤q.pos):
  Calls Tryz.prog 191 #[pv C L o S q (-1) d,.string K] w (Out C L o n (zbq C K q) d S w):=by
 have HM:=zc hm
 have z:=hm.tok
 have O:=hm.few
 clear hm
 cases hi:isT C q.pos 4 zm with
 |true=>
  have HV:Hid (zbq C K q=bd (bd (bd (.ok q) (zd C 4 zm)) (zd C 4 zay)) (zM C ⟨3,0,K,sNone,0,0⟩)):=if_pos hi
  unfold pv
  go_enter Tryz.func191,Tryz.ntmps191
  go_wp2_with fail
  refine (zg C L o n S q (-1) d 4 zm _ (zo (zo z _) _) O (by decide)).mono ?_
  rintro e w1 ⟨rfl,E⟩
  rw[hi]
  obtain⟨X0,X1,V,t1⟩:=HM.out.two E
  have j:=zc X0
  have h:=zc X1
  have A:=zc V
  have I:=zc t1
  clear X0 X1 V t1 E
  clear z
  obtain⟨a0,a1,a2,a3,Z,a5,a6,X,a8,Y,H,D,af⟩:=j.out.box
  go_wp2_with fail
  refine (zab C L o n (.ok q) S q (-1) d zm _ (zU q) A.out).mono ?_
  rintro e w2 ⟨S2,q2,z2,rfl,i2,m2,N⟩
  replace j:=zc (j.out.stp N)
  replace h:=zc (h.out.stp N)
  have J:=zc (I.out.step N)
  clear I
  have M:=zc m2
  have U:=zc i2
  clear i2 m2 N A
  clear a0 a1 a2 a3 Z a5 a6 X a8 Y H D af
  go_wp2_with fail
  refine (zab C L o n _ S2 q2 z2 d zay _ U.out M.out).mono ?_
  rintro e w3 ⟨S3,q3,z3,rfl,i3,m3,s3⟩
  replace j:=zc (j.out.stp s3)
  replace h:=zc (h.out.stp s3)
  have ac:=zc (J.out.step s3)
  clear J
  have ab:=zc m3
  have aa:=zc i3
  clear i3 m3 s3 M
  obtain⟨a0,a1,a2,a3,Z,a5,a6,X,a8,Y,H,D,af⟩:=j.out.box
  unfold pv
  go_wp2_with fail
  refine (zc3 C L o n _ S3 q3 z3 d ⟨3,0,K,sNone,0,0⟩ _ aa.out (ab.out.put j.out ..) (zaZ aa.out)).mono ?_
  rintro e w4 ⟨S4,q4,z4,rfl,i4,m4,s4⟩
  replace j:=zc ((j.out.put ..).stp s4)
  replace h:=zc ((h.out.other (by omega) ..).stp s4)
  have ae:Hid (SB w.heap.size S w S4 w4):=(ac.out.put (by omega) ..).step s4
  clear ac
  have ad:=zc m4
  have ai:=zc i4
  clear i4 m4 s4 ab
  clear a0 a1 a2 a3 Z a5 a6 X a8 Y H D af
  obtain⟨b0,b1,b2,b3,b4,b5,b6,b7,b8,b9,ah,ag,bf⟩:=h.out.box
  unfold pv
  go_wp2
  refine bodyPost_ret (results_cell_row rfl _ _ (w.heap.size+1) 53 _ (0,0) _ rfl ((h.out.put ..)).heap Tryz.underlying53 rfl (by kernel_rfl)) rfl ?_
  rw[HV.out]
  exact zW rfl ai.out (ad.out.put h.out ..) (ae.out.put (by omega) ..)
 |false=>
  have HV:Hid (zbq C K q=bd (.ok q) (zM C ⟨2,0,K,sNone,0,0⟩)):=by show zbq C K q=_;rw[zbq,hi];rfl
  unfold pv
  go_enter Tryz.func191,Tryz.ntmps191
  go_wp2_with fail
  refine (zg C L o n S q (-1) d 4 zm _ (zo (zo z _) _) O (by decide)).mono ?_
  rintro e w1 ⟨rfl,E⟩
  rw[hi]
  obtain⟨X0,X1,V,t1⟩:=HM.out.two E
  have j:=zc X0
  have h:=zc X1
  have A:=zc V
  have I:=zc t1
  clear X0 X1 V t1 E
  clear z
  obtain⟨a0,a1,a2,a3,Z,a5,a6,X,a8,Y,H,D,af⟩:=j.out.box
  go_wp2_with fail
  refine (zc3 C L o n (.ok q) S q (-1) d ⟨2,0,K,sNone,0,0⟩ _ (zU q) A.out (fun _=>hp)).mono ?_
  rintro e w2 ⟨S2,q2,z2,rfl,i2,m2,N⟩
  replace j:=zc (j.out.stp N)
  replace h:=zc (h.out.stp N)
  have J:=zc (I.out.step N)
  clear I
  have M:=zc m2
  have U:=zc i2
  clear i2 m2 N A
  clear a0 a1 a2 a3 Z a5 a6 X a8 Y H D af
  obtain⟨b0,b1,b2,b3,b4,b5,b6,b7,b8,b9,ah,ag,bf⟩:=h.out.box
  unfold pv
  go_wp2
  refine bodyPost_ret (results_cell_row rfl _ _ (w.heap.size+1) 53 _ (0,0) _ rfl ((h.out.put ..)).heap Tryz.underlying53 rfl (by kernel_rfl)) rfl ?_
  rw[HV.out]
  exact zW rfl U.out (M.out.put h.out ..) (J.out.put (by omega) ..)
theorem zoR {C:Cx} {j:Bool} {l:List Ep} {Y:PRN} {o I:ByteArray} {J z E:PS} {L H A:Int} (K:Is2 Y J L o) (n:Is2 (bd Y (asP C j)) z H I) (D:(decide (H<0)&&isT C z.pos 4 zbp)=false) (h:Is (bd (zaG (bd Y (asP C j))) (zd C 4 zbd)) E A):
  Is3 (bd Y fun a=>bd (asP C j a) fun b=>if isT C b.1.pos 4 zbp then zav C j (adv b.1) (l++[⟨0,b.2,a.2,sNone⟩]) else bd (zd C 4 zbd b.1) fun q'=>.ok (q',l++[⟨0,b.2,a.2,sNone⟩])) E A (l++[⟨0,I,o,sNone⟩]):=by
 cases Y with
 |error e=>exact h
 |ok a=>
  obtain⟨_,_,rfl⟩:=K
  rw[zx] at n h ⊢
  cases q:asP C j a with
  |error e=>rw[q] at h;exact h
  |ok b=>
   rw[q] at n h
   obtain⟨rfl,rfl,rfl⟩:=n
   rw[Bool.and_eq_false_iff] at D
   rw[zx,D.resolve_left (by decide)]
   have e:bd (zaG (.ok b)) (zd C 4 zbd)=zd C 4 zbd b.1:=rfl
   rw[e] at h
   show Is3 (bd (zd C 4 zbd b.1) _) _ _ _
   cases w:zd C 4 zbd b.1 with
   |error e=>rw[w] at h;exact h
   |ok c=>rw[w] at h;exact⟨h.1,h.2,rfl⟩
theorem zoS {C:Cx} {j:Bool} {l:List Ep} {n I o:PS} {E H:ByteArray} {K w:Int} (D:Is2 (bd (.ok n) (zh C true)) I K E) (h:Is2 (bd (bd (.ok n) (zh C true)) (asP C j)) o w H) (L:w<0) (J:isT C o.pos 4 zbp=true):
  (bd (.ok n) fun q=>zav C j q l)=(bd (.ok (adv o)) fun q=>zav C j q (l++[⟨0,H,E,sNone⟩]))∧n.pos+1≤o.pos:=by
 rw[zx] at D h ⊢
 rw[zx,zeO]
 cases z:zh C true n with
 |error e=>rw[z] at h;have:w=(e:Int):=h;omega
 |ok a=>
  rw[z] at D h
  obtain⟨_,_,rfl⟩:=D
  rw[zx] at h ⊢
  obtain⟨rfl,_⟩:=zbe z
  cases A:asP C j (adv n,(ze C n.pos).text) with
  |error e=>rw[A] at h;have:w=(e:Int):=h;omega
  |ok b=>
   rw[A] at h
   obtain⟨rfl,rfl,rfl⟩:=h
   have:=zej A
   rw[zx,J]
   exact⟨rfl,this⟩
theorem zoT {C:Cx} {h:Bool} {x:PR} {q n:PS} {z j:Int} {l:List Ep} (w:Is x q z) (A: ¬z<0) (o:Is (bd x (zd C 4 zbd)) n j):Is3 (bd x fun q=>zav C h q l) n j l:=by
 obtain⟨e,rfl,_⟩:=zcN w A
 exact o
theorem zoU {C:Cx} {h:Bool} {Y:PRN} {j A:PS} {n w:Int} {D o:ByteArray} (z:Is2 Y j n D) (q:(decide (n<0)&&isT C j.pos 1 sAs)=true) (E:Is2 (bd (.ok (adv j)) (zh C h)) A w o):Is2 (bd Y (asP C h)) A w o:=by
 rw[Bool.and_eq_true,decide_eq_true_eq] at q
 cases Y with
 |error e=>have:n=(e:Int):=z;omega
 |ok a=>
  obtain⟨rfl,_,_⟩:=z
  rw[zx,asP,if_pos q.2]
  exact E
theorem zoV {C:Cx} {o:Bool} {Y:PRN} {j:PS} {n:Int} {q:ByteArray} (z:Is2 Y j n q) (w:(decide (n<0)&&isT C j.pos 1 sAs)=false) (A:((q.toList==[100,101,102,97,117,108,116])&& !o)=true):Is2 (bd Y (asP C o)) j (zbi C j.pos n) q:=by
 cases Y with
 |error e=>
  have h:n=(e:Int):=z
  show zbi C j.pos n=(e:Int)
  rw[zbi,if_neg (by omega)]
  exact h
 |ok a=>
  obtain⟨rfl,rfl,rfl⟩:=z
  rw[Bool.and_eq_false_iff] at w
  rw[zx,asP,w.resolve_left (by decide),A]
  rfl
theorem ziY {C:Cx} {h:Bool} {Y:PRN} {n:PS} {o:Int} {j:ByteArray} (w:Is2 Y n o j) (q:(decide (o<0)&&isT C n.pos 1 sAs)=false) (z:((j.toList==[100,101,102,97,117,108,116])&& !h)=false):Is2 (bd Y (asP C h)) n o j:=by
 cases Y with
 |error e=>exact w
 |ok a=>
  obtain⟨rfl,rfl,rfl⟩:=w
  rw[Bool.and_eq_false_iff] at q
  rw[zx,asP,q.resolve_left (by decide),z]
  exact⟨rfl,rfl,rfl⟩
theorem ziZ (C:Cx) (J I n:Nat) (S:Sv) (q:PS) (d:Nat) (ah:Bool) (w:World) (hm:Mem C J I n S q w):
  Calls Tryz.prog 130 #[pv C J I S q (-1) d,.bool ah] w (zoP C J I n (zcz C ah q) d S w):=by
 obtain⟨i0,hi,aI,aV,aN⟩:=info_parts Tryz.infoExp
 have HM:=zc hm
 have aj:=hm.few
 clear hm
 unfold pv
 go_enter Tryz.func130,Tryz.ntmps130
 go_wp2_with fail
 refine (zab C J I n (.ok q) S q (-1) d zF _ (zU q) (((HM.out.alloc _).alloc _).alloc _)).mono ?_
 rintro e w1 ⟨S1,q1,z1,rfl,i1,m1,s1⟩
 obtain⟨X0,X1,R0,t1⟩:=HM.out.list3 s1
 have h:=zc X0
 have j:=zc X1
 have z:=zc R0
 have aX:=zc t1
 have aF:=zc m1
 have aK:=zc i1
 clear i1 m1 s1 X0 X1 R0 t1
 obtain⟨Z,a1,a2,Y,X,a5,a6,U,a8,V,D,A,af⟩:=h.out.box
 unfold pv
 go_wp2
 go_loopg [7,8] (C.ts.length+1) (fun k o an wr=>∃(x':PR) (S':Sv) (q':PS) (z':Int) (r:Rw) (l:List Ep),Is x' q' z'∧bd x' (fun q=>zav C ah q l)=zcz C ah q∧(z'<0→C.ts.length-q'.pos<k)∧(l.length≤q'.pos∨l=[])∧o= .slice r.a l.length r.cap∧an= .bool (za5 l)∧Mem C J I n S' q' wr∧SB w.heap.size S w S' wr∧Bx J S' wr w.heap.size #[.slice (some ⟨J,0,none⟩) C.ts.length I,.int .i64 q'.pos,.int .i64 C.fin,.bool C.scr,.slice S'.rq.a q'.rq.length S'.rq.cap,.slice S'.im.a q'.im.length S'.im.cap,.slice S'.ep.a q'.ep.length S'.ep.cap,.slice S'.st.a q'.st.length S'.st.cap,.slice S'.ex.a q'.ex.length S'.ex.cap,.slice S'.la.a q'.la.length S'.la.cap,.int .i64 z',.int .i64 d]∧Bx J S' wr (w.heap.size+1) #[.slice none 0 0,.int .i64 0,.int .i64 0,.bool false,.slice none 0 0,.slice none 0 0,.slice none 0 0,.slice none 0 0,.slice none 0 0,.slice none 0 0,.int .i64 0,.int .i64 0]∧Row S' wr n w.heap.size r l)
 case atStart=>exact⟨_,S1,q1,z1,_,[],aK.out,rfl,fun _=>by omega,.inr rfl,rfl,rfl,(aF.out.put h.out ..),(aX.out.put (by omega) ..),(h.out.put ..),(j.out.other (by omega) ..),(z.out.put h.out ..)⟩
 case round=>
  obtain⟨x2,S2,q2,z2,r,l,i2,e2,l2,n2,rfl,rfl,m2,t2,X0,X1,R0⟩:=hrel
  have h:=zc X0
  have j:=zc X1
  have aq:=zc m2
  have am:=zc t2
  have av:=zc i2
  have ay:=zc e2
  have aL:=zc l2
  have z:=zc R0
  have bh:l.length≤4000:=n2.elim (fun g=>by have:=m2.inv.pos;omega) (fun g=>by rw[g];simp)
  have aR:=zc n2
  clear X0 X1 i2 m2 t2 e2 l2 R0 n2
  by_cases hz:z2<0
  ·skip
   obtain⟨rfl,rfl⟩:=za7 av.out hz
   have bg:=aL.out hz
   obtain⟨Z,a1,a2,Y,X,a5,a6,U,a8,V,D,A,af⟩:=h.out.box
   go_wp2_with fail
   refine (zaU C J I n (.ok q2) S2 q2 (-1) d true _ (zU q2) aq.out).mono ?_
   rintro e w3 ⟨O,q3,z3,n3,rfl,i3,m3,s3⟩
   replace h:=zc (h.out.stp s3)
   replace j:=zc (j.out.stp s3)
   have ap:=zc (am.out.step s3)
   have H:Hid (Row O w3 n w.heap.size r l):=z.out.stp s3
   clear z
   have z:=zc H
   clear H
   clear am
   have al:=zc m3
   have ac:=zc i3
   clear i3 m3 s3 aq
   clear Z a1 a2 Y X a5 a6 U a8 V D A af
   have bb:w.heap.size+1<w3.heap.size:=j.out.lt
   unfold pv
   go_upto_region 6 with fail
   refine zJ (R:=fun W=>Bx J O W (w.heap.size) _∧Bx J O W (w.heap.size+1) _∧Bx J O W (w3.heap.size) _∧Row O W n w.heap.size r l∧Mem C J I n O q3 W∧SB w.heap.size S w O W) ⟨(h.out.alloc _),(j.out.alloc _),(Bx.new al.out _),(z.out.alloc _),(al.out.alloc _),(ap.out.alloc _)⟩ ?_
   clear h j ap al
   clear z
   rintro w4 ⟨X0,X1,X2,R0,m4,t4⟩
   have z:=zc R0
   clear R0
   have h:=zc X0
   have j:=zc X1
   have K:=zc X2
   have az:=zc m4
   have aB:=zc t4
   clear m4 t4 X0 X1 X2
   obtain⟨Z,a1,a2,Y,X,a5,a6,U,a8,V,D,A,af⟩:=h.out.box
   obtain⟨c0,c1,c2,c3,c4,c5,c6,c7,c8,c9,aT,aS,cf⟩:=K.out.box
   go_upto_region 7 with fail
   refine zJ (R:=fun W=>Bx J O W (w.heap.size) _∧Bx J O W (w.heap.size+1) _∧Bx J O W (w3.heap.size) _∧Row O W n w.heap.size r l∧Mem C J I n O q3 W∧SB w.heap.size S w O W) ⟨(h.out.put ..),(j.out.other (by omega) ..),(K.out.other (by omega) ..),(z.out.put h.out ..),(az.out.put h.out ..),(aB.out.put (by omega) ..)⟩ ?_
   clear Z a1 a2 Y X a5 a6 U a8 V D A af c0 c1 c2 c3 c4 c5 c6 c7 c8 c9 aT aS cf
   clear h j K aB az
   clear z
   rintro w5 ⟨X0,X1,X2,R0,m5,t5⟩
   have z:=zc R0
   clear R0
   have h:=zc X0
   have j:=zc X1
   have K:=zc X2
   have ai:=zc m5
   have ak:=zc t5
   clear m5 t5 X0 X1 X2
   skip
   obtain⟨Z,a1,a2,Y,X,a5,a6,U,a8,V,D,A,af⟩:=h.out.box
   skip
   go_wp2_with fail
   refine (zg C J I n O q3 z3 d 1 sAs _ ai.out.tok aj (by decide)).mono ?_
   rintro e w6 ⟨rfl,ag⟩
   replace h:=zc (h.out.below ag)
   replace j:=zc (j.out.below ag)
   replace K:=zc (K.out.below ag)
   have N:=zc (ak.out.below ag)
   have L:=zc (ai.out.later ag)
   have H:Hid (Row O w6 n w.heap.size r l):=z.out.below ag
   clear z
   have z:=zc H
   clear H
   clear ag ak ai
   clear Z a1 a2 Y X a5 a6 U a8 V D A af
   go_upto_if 28 with fail
   go_cut [11] (fun aP wx=>∃(M:Sv) (q5:PS) (z5:Int) (n5:ByteArray),aP= .string n5∧Is2 (bd (bd (.ok q2) (zh C true)) (asP C ah)) q5 z5 n5∧Mem C J I n M q5 wx∧SB w.heap.size S w M wx∧Bx J M wx w.heap.size #[.slice (some ⟨J,0,none⟩) C.ts.length I,.int .i64 q5.pos,.int .i64 C.fin,.bool C.scr,.slice M.rq.a q5.rq.length M.rq.cap,.slice M.im.a q5.im.length M.im.cap,.slice M.ep.a q5.ep.length M.ep.cap,.slice M.st.a q5.st.length M.st.cap,.slice M.ex.a q5.ex.length M.ex.cap,.slice M.la.a q5.la.length M.la.cap,.int .i64 z5,.int .i64 d]∧Bx J M wx (w.heap.size+1) #[.slice none 0 0,.int .i64 0,.int .i64 0,.bool false,.slice none 0 0,.slice none 0 0,.slice none 0 0,.slice none 0 0,.slice none 0 0,.slice none 0 0,.int .i64 0,.int .i64 0]∧Row M wx n w.heap.size r l)
   case first=>
    cases hb:(decide (z3<0)&&isT C q3.pos 1 sAs) with
    |true=>
     have aU:q3.pos<C.ts.length:=by rw[Bool.and_eq_true] at hb;exact zaz hb.2 (by decide)
     obtain⟨Z,a1,a2,Y,X,a5,a6,U,a8,V,D,A,af⟩:=h.out.box
     have aJ:z3= -1:=by rw[Bool.and_eq_true,decide_eq_true_eq] at hb;exact (za7 ac.out.fst hb.1).2
     subst aJ
     go_wp2_with fail
     refine (zaU C J I n (.ok (adv q3)) O (adv q3) (-1) d ah _ (zU _) ((L.out.adv aU).set h.out 1 _)).mono ?_
     rintro e w7 ⟨S7,q7,z7,n7,rfl,i7,m7,s7⟩
     have ae:Hid (Bx J S7 w7 _ _):=(h.out.at1 _).stp s7
     have ad:Hid (Bx J S7 w7 _ _):=(j.out.set_other (by omega) 1 _).stp s7
     have au:Hid (Bx J S7 w7 _ _):=(K.out.set_other (by omega) 1 _).stp s7
     have ab:Hid (SB w.heap.size S w S7 w7):=(N.out.set (by omega) 1 _).step s7
     replace z:=zc ((z.out.set h.out 1 _).stp s7)
     clear h j K N
     have h:=zc ae
     have j:=zc ad
     have K:=zc au
     clear ae ad au
     have aa:=zc m7
     have aQ:=zc i7
     clear i7 m7 s7 L
     clear Z a1 a2 Y X a5 a6 U a8 V D A af
     have ba:w.heap.size+1<w7.heap.size:=j.out.lt
     have aE:w3.heap.size<w7.heap.size:=K.out.lt
     unfold pv
     go_upto_region 11 with fail
     refine zJ (R:=fun W=>Bx J S7 W (w.heap.size) _∧Bx J S7 W (w.heap.size+1) _∧Bx J S7 W (w3.heap.size) _∧Bx J S7 W (w7.heap.size) _∧Row S7 W n w.heap.size r l∧Mem C J I n S7 q7 W∧SB w.heap.size S w S7 W) ⟨(h.out.alloc _),(j.out.alloc _),(K.out.alloc _),(Bx.new aa.out _),(z.out.alloc _),(aa.out.alloc _),(ab.out.alloc _)⟩ ?_
     clear h j K ab aa
     clear z
     rintro w8 ⟨X0,X1,X2,X3,R0,m8,t8⟩
     have z:=zc R0
     clear R0
     have h:=zc X0
     have j:=zc X1
     have K:=zc X2
     have aZ:=zc X3
     have aw:=zc m8
     have ax:=zc t8
     clear m8 t8 X0 X1 X2 X3
     obtain⟨Z,a1,a2,Y,X,a5,a6,U,a8,V,D,A,af⟩:=h.out.box
     obtain⟨d0,d1,d2,d3,d4,d5,d6,d7,d8,d9,bc,be,df⟩:=aZ.out.box
     go_wp2
     go_meet
     case rel=>exact⟨S7,q7,z7,n7,rfl,zoU ac.out hb aQ.out,(aw.out.put h.out ..),(ax.out.put (by omega) ..),(h.out.put ..),(j.out.other (by omega) ..),(z.out.put h.out ..)⟩
    |false=>
     cases e3:(n3.toList==[100,101,102,97,117,108,116]) with
     |true=>
      cases ah with
      |false=>
       obtain⟨Z,a1,a2,Y,X,a5,a6,U,a8,V,D,A,af⟩:=h.out.box
       go_wp2_with fail
       refine (zcL C J I n O q3 z3 d _ L.out.tok aj).mono ?_
       rintro e w7 ⟨rfl,E⟩
       replace h:=zc (h.out.below E)
       replace j:=zc (j.out.below E)
       replace K:=zc (K.out.below E)
       have ab:=zc (N.out.below E)
       have aa:=zc (L.out.later E)
       have H:Hid (Row O w7 n w.heap.size r l):=z.out.below E
       clear z
       have z:=zc H
       clear H
       clear E N L
       clear Z a1 a2 Y X a5 a6 U a8 V D A af
       obtain⟨Z,a1,a2,Y,X,a5,a6,U,a8,V,D,A,af⟩:=h.out.box
       unfold pv
       go_wp2
       go_meet
       case rel=>exact⟨O,q3,(zbi C q3.pos z3),n3,rfl,zoV ac.out hb (by rw[e3];rfl),(aa.out.put h.out ..),(ab.out.put (by omega) ..),(h.out.put ..),(j.out.other (by omega) ..),(z.out.put h.out ..)⟩
      |true=>
       obtain⟨Z,a1,a2,Y,X,a5,a6,U,a8,V,D,A,af⟩:=h.out.box
       go_wp2
       go_meet
       case rel=>exact⟨O,q3,z3,n3,rfl,ziY ac.out hb (by rw[e3];rfl),L.out,N.out,h.out,j.out,z.out⟩
     |false=>
      obtain⟨Z,a1,a2,Y,X,a5,a6,U,a8,V,D,A,af⟩:=h.out.box
      go_wp2
      go_meet
      case rel=>exact⟨O,q3,z3,n3,rfl,ziY ac.out hb (by rw[e3];rfl),L.out,N.out,h.out,j.out,z.out⟩
   case rest=>
    obtain⟨M,q5,z5,n5,rfl,i5,m5,t5,X0,X1,R0⟩:=hcut
    clear h j K z L N
    have h:=zc X0
    have j:=zc X1
    have ai:=zc m5
    have ak:=zc t5
    have ao:=zc i5
    have z:=zc R0
    clear X0 X1 i5 m5 t5 R0
    go_upto_region 15 with fail
    go_cut [8] (fun s8 wx=>s8= .bool (za5 l||(n3.toList==[100,101,102,97,117,108,116]))∧wx=wc)
    case first=>
     cases ha:za5 l with
     |true=>
      go_wp2
      go_meet
      case rel=>exact⟨by rw[ha];rfl,rfl⟩
     |false=>
      cases e3:(n3.toList==[100,101,102,97,117,108,116]) with
      |true=>
       go_wp2
       go_meet
       case rel=>exact⟨by rw[ha,e3];rfl,rfl⟩
      |false=>
       go_wp2
       go_meet
       case rel=>exact⟨by rw[ha,e3];rfl,rfl⟩
    case rest=>
     obtain⟨rfl,rfl⟩:=hcut
     have ar:=fun o=>z.out.own.alloc o
     have aM:=ai.out.base
     go_wp2_with (at_builtin;refine zcl _ rfl _ _ 24 rfl n 102 i0 _ 4 56 Tryz.underlying24 hi aI aV aN rfl (by decide) (by decide) r l.length _ (by rfl) (ar _) wc.heap.size (epL ⟨0,n5,n3,sNone⟩) (by rfl) (by exact heap_alloc_new wc _) rfl (by intro u hu;simp[epL] at hu;rcases hu with rfl|rfl|rfl|rfl<;>rfl) (by omega) (by rw[zj];omega) ?_)
     intro r' w6 hr hg aC
     obtain⟨R6,m6⟩:=(z.out.alloc _).grow (x:=⟨0,n5,n3,sNone⟩) (ai.out.alloc _) (by rw[zj];have:=ak.out.size;omega) hg hr (by rw[zj];exact aC)
     have ae:Hid (Bx J M w6 _ _):=(z.out.alloc _).bx (h.out.alloc _) hg
     have ad:Hid (Bx J M w6 _ _):=(z.out.alloc _).bx (j.out.alloc _) hg
     have N:Hid (SB w.heap.size S w M w6):=(z.out.alloc _).sb (ak.out.alloc _) hg
     have L:=zc m6
     clear h j z hr hg aC ar aM ai ak m6
     have h:=zc ae
     have j:=zc ad
     have z:=zc R6
     clear ae ad R6
     cases hc:(decide (z5<0)&&isT C q5.pos 4 zbp) with
     |true=>
      obtain⟨Z,a1,a2,Y,X,a5,a6,U,a8,V,D,A,af⟩:=h.out.box
      go_wp2_with fail
      refine (zg C J I n M q5 z5 d 4 zbp _ L.out.tok aj (by decide)).mono ?_
      rintro e w7 ⟨rfl,E⟩
      rw[hc]
      replace h:=zc (h.out.below E)
      replace j:=zc (j.out.below E)
      have ab:=zc (N.out.below E)
      have aa:=zc (L.out.later E)
      have H:Hid (Row M w7 n w.heap.size r' (l++[⟨0,n5,n3,sNone⟩])):=z.out.below E
      clear z
      have z:=zc H
      clear H
      clear E N L
      clear Z a1 a2 Y X a5 a6 U a8 V D A af
      rw[Bool.and_eq_true,decide_eq_true_eq] at hc
      obtain⟨aA,aD⟩:=hc
      have aY:q5.pos<C.ts.length:=zaz aD (by decide)
      obtain⟨E5,P5⟩:=zoS (l:=l) ac.out ao.out aA aD
      have HE:=zc E5
      obtain rfl:z5= -1:=(za7 ao.out.fst aA).2
      have aH:Hid ((l++[(⟨0,n5,n3,sNone⟩:Ep)]).length≤q5.pos+1∨l++[(⟨0,n5,n3,sNone⟩:Ep)]=[]):=.inl (by simp only[List.length_append,List.length_singleton];exact aR.out.elim (fun g=>by omega) (fun g=>by rw[g];simp))
      clear E5
      obtain⟨Z,a1,a2,Y,X,a5,a6,U,a8,V,D,A,af⟩:=h.out.box
      go_wp2
      go_roundg (gk-1)
      case rel=>exact⟨.ok (adv q5),M,adv q5,-1,r',l++[⟨0,n5,n3,sNone⟩],zU _,by rw[←ay.out];exact HE.out.symm,fun _=>by rw[zw];omega,aH.out,by simp,by rw[ziW],((aa.out.adv aY).set h.out 1 _),(ab.out.set (by omega) 1 _),(h.out.at1 _),(j.out.set_other (by omega) 1 _),(z.out.set h.out 1 _)⟩
      case measure=>omega
     |false=>
      obtain⟨Z,a1,a2,Y,X,a5,a6,U,a8,V,D,A,af⟩:=h.out.box
      go_wp2_with fail
      refine (zg C J I n M q5 z5 d 4 zbp _ L.out.tok aj (by decide)).mono ?_
      rintro e w7 ⟨rfl,E⟩
      rw[hc]
      replace h:=zc (h.out.below E)
      replace j:=zc (j.out.below E)
      have ab:=zc (N.out.below E)
      have aa:=zc (L.out.later E)
      have H:Hid (Row M w7 n w.heap.size r' (l++[⟨0,n5,n3,sNone⟩])):=z.out.below E
      clear z
      have z:=zc H
      clear H
      clear E N L
      clear Z a1 a2 Y X a5 a6 U a8 V D A af
      obtain⟨Z,a1,a2,Y,X,a5,a6,U,a8,V,D,A,af⟩:=h.out.box
      go_wp2_with fail
      refine (zab C J I n _ M q5 z5 d zbd _ ao.out.fst aa.out).mono ?_
      rintro e w8 ⟨S8,q8,z8,rfl,i8,m8,s8⟩
      replace h:=zc (h.out.stp s8)
      replace j:=zc (j.out.stp s8)
      have ax:=zc (ab.out.step s8)
      have H:Hid (Row S8 w8 n w.heap.size r' (l++[⟨0,n5,n3,sNone⟩])):=z.out.stp s8
      clear z
      have z:=zc H
      clear H
      clear ab
      have aw:=zc m8
      have aG:=zc i8
      clear i8 m8 s8 aa
      clear Z a1 a2 Y X a5 a6 U a8 V D A af
      obtain⟨b0,b1,b2,b3,b4,b5,b6,b7,b8,b9,aW,aO,bf⟩:=j.out.box
      unfold pv
      go_wp2
      refine bodyPost_ret (ziX rfl _ _ (w.heap.size+1) 53 _ (0,0) _ rfl ((j.out.put ..)).heap Tryz.underlying53 rfl (by kernel_rfl)) rfl ?_
      exact⟨S8,q8,z8,r',l++[⟨0,n5,n3,sNone⟩],by simp[pv,ziW],by rw[←ay.out,zx,zeO];exact zoR ac.out ao.out hc aG.out,(aw.out.put j.out ..),((ax.out.put (by omega) ..)).done,(z.out.put j.out ..),by simp;omega⟩
  ·skip
   obtain⟨Z,a1,a2,Y,X,a5,a6,U,a8,V,D,A,af⟩:=h.out.box
   go_wp2_with fail
   refine (zab C J I n _ S2 q2 z2 d zbd _ av.out aq.out).mono ?_
   rintro e w3 ⟨O,q3,z3,rfl,i3,m3,s3⟩
   replace h:=zc (h.out.stp s3)
   replace j:=zc (j.out.stp s3)
   have ap:=zc (am.out.step s3)
   have H:Hid (Row O w3 n w.heap.size r l):=z.out.stp s3
   clear z
   have z:=zc H
   clear H
   clear am
   have al:=zc m3
   have ac:=zc i3
   clear i3 m3 s3 aq
   clear Z a1 a2 Y X a5 a6 U a8 V D A af
   obtain⟨b0,b1,b2,b3,b4,b5,b6,b7,b8,b9,aW,aO,bf⟩:=j.out.box
   unfold pv
   go_wp2
   refine bodyPost_ret (ziX rfl _ _ (w.heap.size+1) 53 _ (0,0) _ rfl ((j.out.put ..)).heap Tryz.underlying53 rfl (by kernel_rfl)) rfl ?_
   exact⟨O,q3,z3,r,l,rfl,by rw[←ay.out];exact zoT av.out (by omega) ac.out,(al.out.put j.out ..),((ap.out.put (by omega) ..)).done,(z.out.put j.out ..),by omega⟩
def SumOK (C:Cx) (gt cap base m:Nat):Prop:=∀(x:PR) (S:Sv) (q:PS) (z:Int) (d:Nat) (w:World),Is x q z→Mem C gt cap base S q w→(z<0→C.ts.length-q.pos<m)→d≤20→
 Calls Tryz.prog 75 #[pv C gt cap S q z d] w (Out C gt cap base (bd x (pE C .sum d)) d S w)
theorem zf0 {C:Cx} {o:Bool} {q j:PS} {w:Int} {n:ByteArray} (h:Is2 (bd (.ok q) (zh C o)) j w n) (z:zB C q.pos o=true):j=adv q∧w= -1∧n=(ze C q.pos).text:=by
 rw[zx,zh,if_pos z] at h
 exact h
theorem zf1 {C:Cx} {o:Bool} {q w:PS} {j:Int} {z:ByteArray} (h:Is2 (bd (.ok q) (zh C o)) w j z) (n:zB C q.pos o=false):j=(zq C q.pos:Int):=by
 rw[zx,zh,n] at h
 exact h
theorem zja {C:Cx} {n:ByteArray} {y:Except Nat (PS×ByteArray)} {q:PS} {z:Int} {f:ByteArray} (h:Is2 y q z f) (j:(decide (z<0)&&isT C q.pos 4 zm)=true):bd (bd (bd (zaG y) (zd C 4 zm)) (zd C 4 zay)) (zM C ⟨5,0,n,f,0,0⟩)=bd y fun a=>zbz C n a.2 a.1:=by
 rw[Bool.and_eq_true,decide_eq_true_eq] at j
 cases y with
 |ok a=>
  obtain⟨rfl,_,rfl⟩:=h
  show _=zbz C n a.2 a.1
  rw[zbz,if_pos j.2]
  rfl
 |error e=>rfl
theorem zjb {C:Cx} {n:ByteArray} {y:Except Nat (PS×ByteArray)} {q:PS} {z:Int} {f:ByteArray} (h:Is2 y q z f) (j:(decide (z<0)&&isT C q.pos 4 zm)=false):bd (zaG y) (zM C ⟨4,0,n,f,0,0⟩)=bd y fun a=>zbz C n a.2 a.1:=by
 cases y with
 |ok a=>
  obtain⟨rfl,rfl,rfl⟩:=h
  rw[Bool.and_eq_false_iff] at j
  show _=zbz C n a.2 a.1
  rw[zbz,j.resolve_left (by decide)]
  rfl
 |error e=>rfl
theorem zjc {C:Cx} {o:Bool} {x:PR} {q:PS} {z:Int} {n:ByteArray} (h:Is2 (bd x (zh C o)) q z n):z<0→1≤q.pos:=by
 intro A
 cases j:bd x (zh C o) with
 |error e=>rw[j] at h;have:z=(e:Int):=h;omega
 |ok a=>
  rw[j] at h
  obtain⟨rfl,_,_⟩:=h
  obtain⟨b,_,w⟩:=zi j
  obtain⟨rfl,_⟩:=zbe w
  simp[adv]
theorem zoW (C:Cx) (D j h:Nat) (S:Sv) (q:PS) (d:Nat) (w:World) (A:Mem C D j h S q w) (L:((ze C q.pos).kind==2)=true):
  Calls Tryz.prog 168 #[pv C D j S q (-1) d] w (Out C D j h (pE C .part d q) d S w):=by
 have HM:=zc A
 have o:=A.tok
 have ab:C.ts.length≤4000:=A.few
 have aa:=(zak A.tok).1
 clear A
 have V:q.pos<C.ts.length:=zeI L (by decide)
 have Z:Hid (pE C .part d q=bd (.ok (adv q)) (zM C ⟨1,(ze C q.pos).num,sNone,sNone,0,0⟩)):=by show pE C .part d q=_;rw[zbv,if_pos L];rfl
 obtain⟨c0,_,c2,_⟩:=o.cells V (d:=⟨0,sNone,0,C.fin⟩)
 change _=some (Value.int .i64 (ze C q.pos).kind) at c0
 change _=some (Value.int .i64 (ze C q.pos).num) at c2
 have E:Hid (Mem C D j h S (adv q) w):=HM.out.adv V
 generalize (ze C q.pos).kind=kd at c0 L
 have HN:Hid (∀n,n=(ze C q.pos).num→pE C .part d q=bd (.ok (adv q)) (zM C ⟨1,n,sNone,sNone,0,0⟩)):=fun n e=>by rw[e];exact Z.out
 generalize H:(ze C q.pos).num=nm at c2
 have M:Hid (nm=(ze C q.pos).num):=H.symm
 clear H Z o
 unfold pv
 go_enter Tryz.func168,Tryz.ntmps168
 go_wp2_with fail
 refine (zc3 C D j h (.ok (adv q)) S (adv q) (-1) d ⟨1,nm,sNone,sNone,0,0⟩ _ (zU _) ((E.out.alloc _).alloc _) (fun _=>by simp[adv])).mono ?_
 rintro e w1 ⟨S1,q1,z1,rfl,Y,N,O⟩
 obtain⟨X0,U,X⟩:=E.out.two2 O
 have z:=zc U
 have J:=zc N
 have K:=zc X
 have I:=zc Y
 clear X0 U Y N X O
 obtain⟨b0,b1,b2,b3,b4,b5,b6,b7,b8,b9,ac,ad,bf⟩:=z.out.box
 unfold pv
 go_wp2
 refine bodyPost_ret (results_cell_row rfl _ _ (w.heap.size+1) 53 _ (0,0) _ rfl ((z.out.put ..)).heap Tryz.underlying53 rfl (by kernel_rfl)) rfl ?_
 rw[HN.out nm M.out]
 exact zW rfl I.out (J.out.put z.out ..) (K.out.put (by omega) ..)
theorem zoX (C:Cx) (I o h:Nat) (S:Sv) (q:PS) (d:Nat) (w:World) (H:Mem C I o h S q w) (X:((ze C q.pos).kind==2)=false) (U:isT C q.pos 4 zm=true) (hd:20≤d) (ac:d≤20):
  Calls Tryz.prog 168 #[pv C I o S q (-1) d] w (Out C I o h (pE C .part d q) d S w):=by
 have HM:=zc H
 have z:=H.tok
 have A:C.ts.length≤4000:=H.few
 have aa:=(zak H.tok).1
 clear H
 have hp:q.pos<C.ts.length:=zaz U (by decide)
 have HV:Hid (pE C .part d q= .error (zq C q.pos)):=by show pE C .part d q=_;rw[zbv,X,U];simp[hd]
 have qd:decide ((20:Int)≤(d:Int))=true:=decide_eq_true (by omega)
 obtain⟨c0,_,_,_⟩:=z.cells hp (d:=⟨0,sNone,0,C.fin⟩)
 change _=some (Value.int .i64 (ze C q.pos).kind) at c0
 generalize (ze C q.pos).kind=kd at c0 X
 unfold pv
 go_enter Tryz.func168,Tryz.ntmps168
 go_wp2_with fail
 refine (zg C I o h S q (-1) d 4 zm _ (zo (zo z _) _) A (by decide)).mono ?_
 rintro e w1 ⟨rfl,K⟩
 rw[U]
 obtain⟨X0,Y,V,Z⟩:=HM.out.two K
 have E:=zc X0
 have j:=zc Y
 have D:=zc V
 have J:=zc Z
 clear X0 Y V Z K
 obtain⟨a0,a1,a2,a3,a4,a5,a6,a7,a8,a9,N,M,af⟩:=E.out.box
 go_wp2_with fail
 refine (zcL C I o h S q (-1) d _ D.out.tok A).mono ?_
 rintro e w2 ⟨rfl,n⟩
 replace E:=zc (E.out.below n)
 replace j:=zc (j.out.below n)
 have L:=zc (J.out.below n)
 have O:=zc (D.out.later n)
 clear n J D
 clear a0 a1 a2 a3 a4 a5 a6 a7 a8 a9 N M af
 obtain⟨b0,b1,b2,b3,b4,b5,b6,b7,b8,b9,ab,ad,bf⟩:=j.out.box
 unfold pv
 go_wp2
 refine bodyPost_ret (results_cell_row rfl _ _ (w.heap.size+1) 53 _ (0,0) _ rfl ((j.out.put ..)).heap Tryz.underlying53 rfl (by kernel_rfl)) rfl ?_
 rw[HV.out]
 exact zW rfl (show Is (.error (zq C q.pos)) q _ from rfl) (O.out.put j.out ..) (L.out.put (by omega) ..)
theorem zoY (C:Cx) (E o n:Nat) (S:Sv) (q:PS) (d:Nat) (w:World) (O:Mem C E o n S q w) (hk:((ze C q.pos).kind==2)=false) (ho:isT C q.pos 4 zm=true) (hd:d<20) (hS:SumOK C E o n (C.ts.length-q.pos)):
  Calls Tryz.prog 168 #[pv C E o S q (-1) d] w (Out C E o n (pE C .part d q) d S w):=by
 have HM:=zc O
 have H:=O.tok
 have N:C.ts.length≤4000:=O.few
 have ae:=(zak O.tok).1
 clear O
 have hp:q.pos<C.ts.length:=zaz ho (by decide)
 have HV:Hid (pE C .part d q=bd (bd (.ok (adv q)) (pE C .sum (d+1))) (zd C 4 zay)):=by show pE C .part d q=_;rw[zbv,hk,ho,if_neg (by decide),if_pos rfl,if_neg (by omega)];rfl
 have HS:=zc hS
 clear hS
 have qd:decide ((20:Int)≤(d:Int))=false:=decide_eq_false (by omega)
 obtain⟨c0,_,_,_⟩:=H.cells hp (d:=⟨0,sNone,0,C.fin⟩)
 change _=some (Value.int .i64 (ze C q.pos).kind) at c0
 generalize (ze C q.pos).kind=kd at c0 hk
 unfold pv
 go_enter Tryz.func168,Tryz.ntmps168
 go_wp2_with fail
 refine (zg C E o n S q (-1) d 4 zm _ (zo (zo H _) _) N (by decide)).mono ?_
 rintro e w1 ⟨rfl,K⟩
 rw[ho]
 obtain⟨Y,L,m1,t1⟩:=HM.out.two K
 have h:=zc Y
 have j:=zc L
 have J:=zc m1
 have V:=zc t1
 clear Y L m1 t1 K
 obtain⟨a0,a1,a2,a3,a4,a5,a6,Z,a8,a9,A,z,af⟩:=h.out.box
 go_wp2_with fail
 refine (HS.out (.ok (adv q)) S (adv q) (-1) (d+1) _ (zU _) (((J.out.adv hp).set h.out 1 _).set (h.out.at1 _) 11 _) (fun _=>by show C.ts.length-(q.pos+1)<_;omega) (by omega)).mono ?_
 rintro e w2 ⟨S2,q2,z2,rfl,i2,m2,s2⟩
 replace h:=zc (((h.out.at1 _).at11 _).stp s2)
 replace j:=zc (((j.out.set_other (by omega) 1 _).set_other (by omega) 11 _).stp s2)
 have I:Hid (SB w.heap.size S w S2 w2):=((V.out.set (by omega) 1 _).set (by omega) 11 _).step s2
 clear V
 have X:=zc m2
 have ab:=zc i2
 clear i2 m2 s2 J
 clear a0 a1 a2 a3 a4 a5 a6 Z a8 a9 A z af
 go_wp2_with fail
 refine (zab C E o n _ S2 q2 z2 (d+1) zay _ ab.out X.out).mono ?_
 rintro e w3 ⟨S3,q3,z3,rfl,i3,m3,s3⟩
 replace h:=zc (h.out.stp s3)
 replace j:=zc (j.out.stp s3)
 have U:=zc (I.out.step s3)
 clear I
 have M:=zc m3
 have ac:=zc i3
 clear i3 m3 s3 X
 obtain⟨a0,a1,a2,a3,a4,a5,a6,Z,a8,a9,A,z,af⟩:=h.out.box
 obtain⟨D,hD⟩: ∃D:Nat,D=d+1:=⟨_,rfl⟩
 rw[←hD]
 have ag:(D:Int)-1=d:=by omega
 have aj:D≤20:=by omega
 clear hD hd qd
 unfold pv
 go_upto_region 11 with fail
 refine zJ (R:=fun W=>Bx E S3 W (w.heap.size) _∧Bx E S3 W (w.heap.size+1) _∧Mem C E o n S3 q3 W∧SB w.heap.size S w S3 W) ⟨(h.out.put ..),(j.out.other (by omega) ..),(M.out.put h.out ..),(U.out.put (by omega) ..)⟩ ?_
 clear a0 a1 a2 a3 a4 a5 a6 Z a8 a9 A z af
 clear h j U M
 rintro w4 ⟨Y,L,m4,t4⟩
 have h:=zc Y
 have j:=zc L
 have aa:=zc m4
 have ad:=zc t4
 clear m4 t4 Y L
 obtain⟨a0,a1,a2,a3,a4,a5,a6,Z,a8,a9,A,z,af⟩:=h.out.box
 obtain⟨b0,b1,b2,b3,b4,b5,b6,b7,b8,b9,ai,ah,bf⟩:=j.out.box
 go_wp2
 refine bodyPost_ret (results_cell_row rfl _ _ (w.heap.size+1) 53 _ (0,0) _ rfl (((j.out.set_other (by omega) 11 _).put ..)).heap Tryz.underlying53 rfl (by kernel_rfl)) rfl ?_
 rw[HV.out]
 exact zW rfl ac.out ((aa.out.set h.out 11 _).put (j.out.set_other (by omega) 11 _) ..) ((ad.out.set (by omega) 11 _).put (by omega) ..)
theorem zoZ (o:List Tk) (h:Nat) (E A n:Nat) (S:Sv) (q:PS) (d:Nat) (w:World) (V:Mem (Cx.mk o h true) E A n S q w) (hp: ¬q.pos<(Cx.mk o h true).ts.length):
  Calls Tryz.prog 168 #[pv (Cx.mk o h true) E A S q (-1) d] w (Out (Cx.mk o h true) E A n (pE (Cx.mk o h true) .part d q) d S w):=by
 have HM:=zc V
 have aa:=V.tok
 have H:(Cx.mk o h true).ts.length≤4000:=V.few
 have ag:=(zak V.tok).1
 clear V
 have hk:((ze (Cx.mk o h true) q.pos).kind==2)=false:=by rw[zdb (by omega)];rfl
 have ho:isT (Cx.mk o h true) q.pos 4 zm=false:=zeo hp (by decide)
 have hu:isT (Cx.mk o h true) q.pos 1 za4=false:=zeo hp (by decide)
 have hn:zB (Cx.mk o h true) q.pos false=false:=zfP hp
 have HV:Hid (pE (Cx.mk o h true) .part d q= .error (zq (Cx.mk o h true) q.pos)):=by show pE (Cx.mk o h true) .part d q=_;rw[zbv,hk,ho,hu,zh,hn];rfl
 have am: ¬q.pos<o.length:=hp
 unfold pv
 go_enter Tryz.func168,Tryz.ntmps168
 go_wp2_with fail
 refine (zg (Cx.mk o h true) E A n S q (-1) d 4 zm _ (zo (zo aa _) _) H (by decide)).mono ?_
 rintro e w1 ⟨rfl,O⟩
 rw[ho]
 obtain⟨X0,U,m1,t1⟩:=HM.out.two O
 have z:=zc X0
 have j:=zc U
 have I:=zc m1
 have Y:=zc t1
 clear X0 U m1 t1 O
 obtain⟨a0,a1,a2,a3,a4,a5,a6,a7,a8,a9,L,J,af⟩:=z.out.box
 go_wp2_with fail
 refine (zg (Cx.mk o h true) E A n S q (-1) d 1 za4 _ I.out.tok H (by decide)).mono ?_
 rintro e w2 ⟨rfl,D⟩
 rw[hu]
 replace z:=zc (z.out.below D)
 replace j:=zc (j.out.below D)
 have M:=zc (Y.out.below D)
 have Z:=zc (I.out.later D)
 clear D Y I
 clear a0 a1 a2 a3 a4 a5 a6 a7 a8 a9 L J af
 obtain⟨a0,a1,a2,a3,a4,a5,a6,a7,a8,a9,L,J,af⟩:=z.out.box
 go_wp2_with fail
 refine (zaU (Cx.mk o h true) E A n (.ok q) S q (-1) d false _ (zU q) Z.out).mono ?_
 rintro e w3 ⟨N,q3,z3,n3,rfl,i3,m3,s3⟩
 replace z:=zc (z.out.stp s3)
 replace j:=zc (j.out.stp s3)
 have X:=zc (M.out.step s3)
 clear M
 have K:=zc m3
 have ad:=zc i3
 clear i3 m3 s3 Z
 clear a0 a1 a2 a3 a4 a5 a6 a7 a8 a9 L J af
 obtain rfl:=zf1 ad.out hn
 have dz:decide ((0:Int)≤(zq (Cx.mk o h true) q.pos:Int))=true:=decide_eq_true (by omega)
 have ah:w.heap.size+1<w3.heap.size:=j.out.lt
 unfold pv
 go_upto_region 17 with fail
 refine zJ (R:=fun W=>Bx E N W (w.heap.size) _∧Bx E N W (w.heap.size+1) _∧Bx E N W (w3.heap.size) _∧Mem (Cx.mk o h true) E A n N q3 W∧SB w.heap.size S w N W) ⟨(z.out.alloc _),(j.out.alloc _),(Bx.new K.out _),(K.out.alloc _),(X.out.alloc _)⟩ ?_
 clear z j X K
 rintro w4 ⟨X0,U,X2,m4,t4⟩
 have z:=zc X0
 have j:=zc U
 have ac:=zc X2
 have ab:=zc m4
 have ae:=zc t4
 clear m4 t4 X0 U X2
 obtain⟨b0,b1,b2,b3,b4,b5,b6,b7,b8,b9,al,ai,bf⟩:=j.out.box
 obtain⟨c0,c1,c2,c3,c4,c5,c6,c7,c8,c9,ak,aj,cf⟩:=ac.out.box
 go_wp2
 refine bodyPost_ret (results_cell_row rfl _ _ (w.heap.size+1) 53 _ (0,0) _ rfl ((j.out.put ..)).heap Tryz.underlying53 rfl (by kernel_rfl)) rfl ?_
 rw[HV.out]
 exact zW rfl (show Is (.error (zq (Cx.mk o h true) q.pos)) q3 _ from rfl) (ab.out.put j.out ..) (ae.out.put (by omega) ..)
theorem zpa (j:List Tk) (h:Nat) (E A o:Nat) (S:Sv) (q:PS) (d:Nat) (w:World) (X:Mem (Cx.mk j h true) E A o S q w) (hk:((ze (Cx.mk j h true) q.pos).kind==2)=false) (ho:isT (Cx.mk j h true) q.pos 4 zm=false) (hp:q.pos<(Cx.mk j h true).ts.length) (hu:isT (Cx.mk j h true) q.pos 1 za4=false) (hn:zB (Cx.mk j h true) q.pos false=false):
  Calls Tryz.prog 168 #[pv (Cx.mk j h true) E A S q (-1) d] w (Out (Cx.mk j h true) E A o (pE (Cx.mk j h true) .part d q) d S w):=by
 have HM:=zc X
 have I:=X.tok
 have H:(Cx.mk j h true).ts.length≤4000:=X.few
 have ag:=(zak X.tok).1
 clear X
 have HV:Hid (pE (Cx.mk j h true) .part d q= .error (zq (Cx.mk j h true) q.pos)):=by show pE (Cx.mk j h true) .part d q=_;rw[zbv,hk,ho,hu,zh,hn];rfl
 have am:q.pos<j.length:=hp
 obtain⟨c0,_,_,_⟩:=I.cells hp (d:=⟨0,sNone,0,(Cx.mk j h true).fin⟩)
 change _=some (Value.int .i64 (ze (Cx.mk j h true) q.pos).kind) at c0
 generalize (ze (Cx.mk j h true) q.pos).kind=kd at c0 hk
 unfold pv
 go_enter Tryz.func168,Tryz.ntmps168
 go_wp2_with fail
 refine (zg (Cx.mk j h true) E A o S q (-1) d 4 zm _ (zo (zo I _) _) H (by decide)).mono ?_
 rintro e w1 ⟨rfl,U⟩
 rw[ho]
 obtain⟨X0,V,m1,t1⟩:=HM.out.two U
 have z:=zc X0
 have n:=zc V
 have J:=zc m1
 have Z:=zc t1
 clear X0 V m1 t1 U
 obtain⟨a0,a1,a2,a3,a4,a5,a6,a7,a8,a9,M,K,af⟩:=z.out.box
 go_wp2_with fail
 refine (zg (Cx.mk j h true) E A o S q (-1) d 1 za4 _ J.out.tok H (by decide)).mono ?_
 rintro e w2 ⟨rfl,D⟩
 rw[hu]
 replace z:=zc (z.out.below D)
 replace n:=zc (n.out.below D)
 have N:=zc (Z.out.below D)
 have aa:=zc (J.out.later D)
 clear D Z J
 clear a0 a1 a2 a3 a4 a5 a6 a7 a8 a9 M K af
 obtain⟨a0,a1,a2,a3,a4,a5,a6,a7,a8,a9,M,K,af⟩:=z.out.box
 go_wp2_with fail
 refine (zaU (Cx.mk j h true) E A o (.ok q) S q (-1) d false _ (zU q) aa.out).mono ?_
 rintro e w3 ⟨O,q3,z3,n3,rfl,i3,m3,s3⟩
 replace z:=zc (z.out.stp s3)
 replace n:=zc (n.out.stp s3)
 have Y:=zc (N.out.step s3)
 clear N
 have L:=zc m3
 have ad:=zc i3
 clear i3 m3 s3 aa
 clear a0 a1 a2 a3 a4 a5 a6 a7 a8 a9 M K af
 obtain rfl:=zf1 ad.out hn
 have dz:decide ((0:Int)≤(zq (Cx.mk j h true) q.pos:Int))=true:=decide_eq_true (by omega)
 have ah:w.heap.size+1<w3.heap.size:=n.out.lt
 unfold pv
 go_upto_region 17 with fail
 refine zJ (R:=fun W=>Bx E O W (w.heap.size) _∧Bx E O W (w.heap.size+1) _∧Bx E O W (w3.heap.size) _∧Mem (Cx.mk j h true) E A o O q3 W∧SB w.heap.size S w O W) ⟨(z.out.alloc _),(n.out.alloc _),(Bx.new L.out _),(L.out.alloc _),(Y.out.alloc _)⟩ ?_
 clear z n Y L
 rintro w4 ⟨X0,V,X2,m4,t4⟩
 have z:=zc X0
 have n:=zc V
 have ac:=zc X2
 have ab:=zc m4
 have ae:=zc t4
 clear m4 t4 X0 V X2
 obtain⟨b0,b1,b2,b3,b4,b5,b6,b7,b8,b9,al,ai,bf⟩:=n.out.box
 obtain⟨c0,c1,c2,c3,c4,c5,c6,c7,c8,c9,ak,aj,cf⟩:=ac.out.box
 go_wp2
 refine bodyPost_ret (results_cell_row rfl _ _ (w.heap.size+1) 53 _ (0,0) _ rfl ((n.out.put ..)).heap Tryz.underlying53 rfl (by kernel_rfl)) rfl ?_
 rw[HV.out]
 exact zW rfl (show Is (.error (zq (Cx.mk j h true) q.pos)) q3 _ from rfl) (ab.out.put n.out ..) (ae.out.put (by omega) ..)
theorem zjd (H:List Tk) (o:Nat) (E z j:Nat) (S:Sv) (q:PS) (d:Nat) (w:World) (X:Mem (Cx.mk H o true) E z j S q w) (A:Nat):
  Calls Tryz.prog 168 #[pv (Cx.mk H o true) E z S q (A:Int) d] w (Out (Cx.mk H o true) E z j (.error A) d S w):=by
 have HM:=zc X
 have ab:=X.tok
 have I:(Cx.mk H o true).ts.length≤4000:=X.few
 have ah:=(zak X.tok).1
 clear X
 have hz: ¬(A:Int)<0:=by omega
 have hs: ∀k s,(decide ((A:Int)<0)&&isT (Cx.mk H o true) q.pos k s)=false:=fun k s=>by rw[decide_eq_false hz];rfl
 unfold pv
 go_enter Tryz.func168,Tryz.ntmps168
 go_wp2_with fail
 refine (zg (Cx.mk H o true) E z j S q (A:Int) d 4 zm _ (zo (zo ab _) _) I (by decide)).mono ?_
 rintro e w1 ⟨rfl,U⟩
 rw[hs]
 obtain⟨X0,V,m1,t1⟩:=HM.out.two U
 have n:=zc X0
 have h:=zc V
 have J:=zc m1
 have Z:=zc t1
 clear X0 V m1 t1 U
 obtain⟨a0,a1,a2,a3,a4,a5,a6,a7,a8,a9,M,K,af⟩:=n.out.box
 go_wp2_with fail
 refine (zg (Cx.mk H o true) E z j S q (A:Int) d 1 za4 _ J.out.tok I (by decide)).mono ?_
 rintro e w2 ⟨rfl,D⟩
 rw[hs]
 replace n:=zc (n.out.below D)
 replace h:=zc (h.out.below D)
 have N:=zc (Z.out.below D)
 have aa:=zc (J.out.later D)
 clear D Z J
 clear a0 a1 a2 a3 a4 a5 a6 a7 a8 a9 M K af
 obtain⟨a0,a1,a2,a3,a4,a5,a6,a7,a8,a9,M,K,af⟩:=n.out.box
 go_wp2_with fail
 refine (zaU (Cx.mk H o true) E z j (.error A) S q (A:Int) d false _ (show Is (.error A) q _ from rfl) aa.out).mono ?_
 rintro e w3 ⟨O,q3,z3,n3,rfl,i3,m3,s3⟩
 replace n:=zc (n.out.stp s3)
 replace h:=zc (h.out.stp s3)
 have Y:=zc (N.out.step s3)
 clear N
 have L:=zc m3
 have ae:=zc i3
 clear i3 m3 s3 aa
 clear a0 a1 a2 a3 a4 a5 a6 a7 a8 a9 M K af
 obtain rfl:z3=(A:Int):=ae.out
 have dz:decide ((0:Int)≤(A:Int))=true:=decide_eq_true (by omega)
 have ai:w.heap.size+1<w3.heap.size:=h.out.lt
 unfold pv
 go_upto_region 17 with fail
 refine zJ (R:=fun W=>Bx E O W (w.heap.size) _∧Bx E O W (w.heap.size+1) _∧Bx E O W (w3.heap.size) _∧Mem (Cx.mk H o true) E z j O q3 W∧SB w.heap.size S w O W) ⟨(n.out.alloc _),(h.out.alloc _),(Bx.new L.out _),(L.out.alloc _),(Y.out.alloc _)⟩ ?_
 clear n h Y L
 rintro w4 ⟨X0,V,X2,m4,t4⟩
 have n:=zc X0
 have h:=zc V
 have ad:=zc X2
 have ac:=zc m4
 have ag:=zc t4
 clear m4 t4 X0 V X2
 obtain⟨b0,b1,b2,b3,b4,b5,b6,b7,b8,b9,am,aj,bf⟩:=h.out.box
 obtain⟨c0,c1,c2,c3,c4,c5,c6,c7,c8,c9,al,ak,cf⟩:=ad.out.box
 go_wp2
 refine bodyPost_ret (results_cell_row rfl _ _ (w.heap.size+1) 53 _ (0,0) _ rfl ((h.out.put ..)).heap Tryz.underlying53 rfl (by kernel_rfl)) rfl ?_
 exact zW rfl (show Is (.error A) q3 _ from rfl) (ac.out.put h.out ..) (ag.out.put (by omega) ..)
theorem zpb (j:List Tk) (h:Nat) (L A n:Nat) (S:Sv) (q:PS) (d:Nat) (w:World) (M:Mem (Cx.mk j h true) L A n S q w) (hk:((ze (Cx.mk j h true) q.pos).kind==2)=false) (ho:isT (Cx.mk j h true) q.pos 4 zm=false) (hp:q.pos<(Cx.mk j h true).ts.length) (hu:isT (Cx.mk j h true) q.pos 1 za4=true):
  Calls Tryz.prog 168 #[pv (Cx.mk j h true) L A S q (-1) d] w (Out (Cx.mk j h true) L A n (pE (Cx.mk j h true) .part d q) d S w):=by
 have HM:=zc M
 have E:=M.tok
 have H:(Cx.mk j h true).ts.length≤4000:=M.few
 have ac:=(zak M.tok).1
 clear M
 have HV:Hid (pE (Cx.mk j h true) .part d q=zbq (Cx.mk j h true) za4 (adv q)):=by show pE (Cx.mk j h true) .part d q=_;rw[zbv,hk,ho,hu];rfl
 have ag:q.pos<j.length:=hp
 obtain⟨c0,_,_,_⟩:=E.cells hp (d:=⟨0,sNone,0,(Cx.mk j h true).fin⟩)
 change _=some (Value.int .i64 (ze (Cx.mk j h true) q.pos).kind) at c0
 generalize (ze (Cx.mk j h true) q.pos).kind=kd at c0 hk
 unfold pv
 go_enter Tryz.func168,Tryz.ntmps168
 go_wp2_with fail
 refine (zg (Cx.mk j h true) L A n S q (-1) d 4 zm _ (zo (zo E _) _) H (by decide)).mono ?_
 rintro e w1 ⟨rfl,V⟩
 rw[ho]
 obtain⟨X0,X1,m1,t1⟩:=HM.out.two V
 have z:=zc X0
 have o:=zc X1
 have I:=zc m1
 have O:=zc t1
 clear X0 X1 m1 t1 V
 obtain⟨a0,a1,a2,a3,Y,a5,a6,a7,a8,a9,K,J,af⟩:=z.out.box
 go_wp2_with fail
 refine (zg (Cx.mk j h true) L A n S q (-1) d 1 za4 _ I.out.tok H (by decide)).mono ?_
 rintro e w2 ⟨rfl,D⟩
 rw[hu]
 replace z:=zc (z.out.below D)
 replace o:=zc (o.out.below D)
 have N:=zc (O.out.below D)
 have U:=zc (I.out.later D)
 clear D O I
 clear a0 a1 a2 a3 Y a5 a6 a7 a8 a9 K J af
 obtain⟨a0,a1,a2,a3,Y,a5,a6,a7,a8,a9,K,J,af⟩:=z.out.box
 go_wp2_with fail
 refine (zgy (Cx.mk j h true) L A n S (adv q) d za4 _ ((U.out.adv hp).set z.out 1 _) (by simp[adv])).mono ?_
 rintro e w3 ⟨S3,q3,z3,rfl,i3,m3,X⟩
 replace z:=zc ((z.out.at1 _).stp X)
 replace o:=zc ((o.out.set_other (by omega) 1 _).stp X)
 have ab:Hid (SB w.heap.size S w S3 w3):=(N.out.set (by omega) 1 _).step X
 clear N
 have aa:=zc m3
 have Z:=zc i3
 clear i3 m3 X U
 clear a0 a1 a2 a3 Y a5 a6 a7 a8 a9 K J af
 obtain⟨b0,b1,b2,b3,b4,b5,b6,b7,b8,b9,ad,ae,bf⟩:=o.out.box
 unfold pv
 go_wp2
 refine bodyPost_ret (results_cell_row rfl _ _ (w.heap.size+1) 53 _ (0,0) _ rfl ((o.out.put ..)).heap Tryz.underlying53 rfl (by kernel_rfl)) rfl ?_
 rw[HV.out]
 exact zW rfl Z.out (aa.out.put o.out ..) (ab.out.put (by omega) ..)
theorem zpc (j:List Tk) (h:Nat) (J A n:Nat) (S:Sv) (q:PS) (d:Nat) (w:World) (hm:Mem (Cx.mk j h true) J A n S q w) (hk:((ze (Cx.mk j h true) q.pos).kind==2)=false) (ho:isT (Cx.mk j h true) q.pos 4 zm=false) (hp:q.pos<(Cx.mk j h true).ts.length) (hu:isT (Cx.mk j h true) q.pos 1 za4=false) (hn:zB (Cx.mk j h true) q.pos false=true) (hd:isT (Cx.mk j h true) (q.pos+1) 4 cPoint=false):
  Calls Tryz.prog 168 #[pv (Cx.mk j h true) J A S q (-1) d] w (Out (Cx.mk j h true) J A n (pE (Cx.mk j h true) .part d q) d S w):=by
 have HM:=zc hm
 have K:=hm.tok
 have H:(Cx.mk j h true).ts.length≤4000:=hm.few
 have ao:=(zak hm.tok).1
 clear hm
 have HV:Hid (pE (Cx.mk j h true) .part d q=zbq (Cx.mk j h true) (ze (Cx.mk j h true) q.pos).text (adv q)):=by show pE (Cx.mk j h true) .part d q=_;rw[zbv,hk,ho,hu,zh,hn];show (if isT (Cx.mk j h true) (adv q).pos 4 cPoint then _ else _)=_;rw[zw,hd];rfl
 have au:q.pos<j.length:=hp
 obtain⟨c0,_,_,_⟩:=K.cells hp (d:=⟨0,sNone,0,(Cx.mk j h true).fin⟩)
 change _=some (Value.int .i64 (ze (Cx.mk j h true) q.pos).kind) at c0
 generalize (ze (Cx.mk j h true) q.pos).kind=kd at c0 hk
 unfold pv
 go_enter Tryz.func168,Tryz.ntmps168
 go_wp2_with fail
 refine (zg (Cx.mk j h true) J A n S q (-1) d 4 zm _ (zo (zo K _) _) H (by decide)).mono ?_
 rintro e w1 ⟨rfl,Y⟩
 rw[ho]
 obtain⟨X0,X1,m1,t1⟩:=HM.out.two Y
 have z:=zc X0
 have o:=zc X1
 have L:=zc m1
 have ad:=zc t1
 clear X0 X1 m1 t1 Y
 obtain⟨a0,a1,a2,a3,a4,a5,a6,a7,a8,a9,O,M,af⟩:=z.out.box
 go_wp2_with fail
 refine (zg (Cx.mk j h true) J A n S q (-1) d 1 za4 _ L.out.tok H (by decide)).mono ?_
 rintro e w2 ⟨rfl,E⟩
 rw[hu]
 replace z:=zc (z.out.below E)
 replace o:=zc (o.out.below E)
 have U:=zc (ad.out.below E)
 have ag:=zc (L.out.later E)
 clear E ad L
 clear a0 a1 a2 a3 a4 a5 a6 a7 a8 a9 O M af
 obtain⟨a0,a1,a2,a3,a4,a5,a6,a7,a8,a9,O,M,af⟩:=z.out.box
 go_wp2_with fail
 refine (zaU (Cx.mk j h true) J A n (.ok q) S q (-1) d false _ (zU q) ag.out).mono ?_
 rintro e w3 ⟨S3,X,z3,n3,rfl,i3,m3,s3⟩
 replace z:=zc (z.out.stp s3)
 replace o:=zc (o.out.stp s3)
 have ac:=zc (U.out.step s3)
 clear U
 have I:=zc m3
 have Z:=zc i3
 clear i3 m3 s3 ag
 clear a0 a1 a2 a3 a4 a5 a6 a7 a8 a9 O M af
 obtain⟨hq,rfl,ae⟩:=zf0 Z.out hn
 have HQ:=zc hq
 have ai:=zc ae
 have aa:X.pos=q.pos+1:=by rw[hq];rfl
 have ak:isT (Cx.mk j h true) X.pos 4 cPoint=false:=by rw[aa];exact hd
 clear hq ae Z
 have ap:w.heap.size+1<w3.heap.size:=o.out.lt
 unfold pv
 clear aa
 go_wp2_with fail
 refine (zg (Cx.mk j h true) J A n S3 X (-1) d 4 cPoint _ (I.out.alloc _).tok H (by decide)).mono ?_
 rintro e w4 ⟨rfl,D⟩
 rw[ak]
 replace z:=zc ((z.out.alloc _).below D)
 replace o:=zc ((o.out.alloc _).below D)
 replace N:=zc ((Bx.new I.out _).below D)
 have ab:Hid (SB w.heap.size S w S3 w4):=(ac.out.alloc _).below D
 have V:Hid (Mem (Cx.mk j h true) J A n S3 X w4):=(I.out.alloc _).later D
 clear D ac I
 obtain⟨c0,c1,c2,c3,c4,c5,c6,c7,c8,c9,am,al,cf⟩:=N.out.box
 go_wp2_with fail
 refine (zgy (Cx.mk j h true) J A n S3 X d n3 _ V.out (by rw[HQ.out];simp[adv])).mono ?_
 rintro e w5 ⟨S5,q5,z5,rfl,i5,m5,s5⟩
 replace z:=zc (z.out.stp s5)
 replace o:=zc (o.out.stp s5)
 replace N:=zc (N.out.stp s5)
 have aj:=zc (ab.out.step s5)
 clear ab
 have an:=zc m5
 have ah:=zc i5
 clear i5 m5 s5 V
 clear c0 c1 c2 c3 c4 c5 c6 c7 c8 c9 am al cf
 obtain⟨b0,b1,b2,b3,b4,b5,b6,b7,b8,b9,ar,aq,bf⟩:=o.out.box
 unfold pv
 go_wp2
 refine bodyPost_ret (results_cell_row rfl _ _ (w.heap.size+1) 53 _ (0,0) _ rfl ((o.out.put ..)).heap Tryz.underlying53 rfl (by kernel_rfl)) rfl ?_
 rw[HV.out,←HQ.out,←ai.out]
 exact zW rfl ah.out (an.out.put o.out ..) (aj.out.put (by omega) ..)
theorem zpd (z:List Tk) (h:Nat) (J D n:Nat) (S:Sv) (q:PS) (d:Nat) (w:World) (hm:Mem (Cx.mk z h true) J D n S q w) (hk:((ze (Cx.mk z h true) q.pos).kind==2)=false) (ho:isT (Cx.mk z h true) q.pos 4 zm=false) (hp:q.pos<(Cx.mk z h true).ts.length) (hu:isT (Cx.mk z h true) q.pos 1 za4=false) (hn:zB (Cx.mk z h true) q.pos false=true) (hd:isT (Cx.mk z h true) (q.pos+1) 4 cPoint=true):
  Calls Tryz.prog 168 #[pv (Cx.mk z h true) J D S q (-1) d] w (Out (Cx.mk z h true) J D n (pE (Cx.mk z h true) .part d q) d S w):=by
 have HM:=zc hm
 have ae:=hm.tok
 have I:(Cx.mk z h true).ts.length≤4000:=hm.few
 have aL:=(zak hm.tok).1
 clear hm
 have HV:Hid (pE (Cx.mk z h true) .part d q=bd (bd (.ok (adv (adv q))) (zh (Cx.mk z h true) true)) fun y=>zbz (Cx.mk z h true) (ze (Cx.mk z h true) q.pos).text y.2 y.1):=by show pE (Cx.mk z h true) .part d q=_;rw[zbv,hk,ho,hu,zh,hn];show (if isT (Cx.mk z h true) (adv q).pos 4 cPoint then _ else _)=_;rw[zw,hd];rfl
 have aO:q.pos<z.length:=hp
 obtain⟨c0,_,_,_⟩:=ae.cells hp (d:=⟨0,sNone,0,(Cx.mk z h true).fin⟩)
 change _=some (Value.int .i64 (ze (Cx.mk z h true) q.pos).kind) at c0
 generalize (ze (Cx.mk z h true) q.pos).kind=kd at c0 hk
 unfold pv
 go_enter Tryz.func168,Tryz.ntmps168
 go_wp2_with fail
 refine (zg (Cx.mk z h true) J D n S q (-1) d 4 zm _ (zo (zo ae _) _) I (by decide)).mono ?_
 rintro e w1 ⟨rfl,ao⟩
 rw[ho]
 obtain⟨X0,X1,m1,t1⟩:=HM.out.two ao
 have o:=zc X0
 have j:=zc X1
 have ag:=zc m1
 have az:=zc t1
 clear X0 X1 m1 t1 ao
 obtain⟨a0,a1,a2,a3,a4,a5,a6,a7,a8,a9,ai,ah,af⟩:=o.out.box
 go_wp2_with fail
 refine (zg (Cx.mk z h true) J D n S q (-1) d 1 za4 _ ag.out.tok I (by decide)).mono ?_
 rintro e w2 ⟨rfl,O⟩
 rw[hu]
 replace o:=zc (o.out.below O)
 replace j:=zc (j.out.below O)
 have ak:=zc (az.out.below O)
 have aB:=zc (ag.out.later O)
 clear O az ag
 clear a0 a1 a2 a3 a4 a5 a6 a7 a8 a9 ai ah af
 obtain⟨a0,a1,a2,a3,a4,a5,a6,a7,a8,a9,ai,ah,af⟩:=o.out.box
 go_wp2_with fail
 refine (zaU (Cx.mk z h true) J D n (.ok q) S q (-1) d false _ (zU q) aB.out).mono ?_
 rintro e w3 ⟨S3,q3,z3,n3,rfl,i3,m3,s3⟩
 replace o:=zc (o.out.stp s3)
 replace j:=zc (j.out.stp s3)
 have ay:=zc (ak.out.step s3)
 clear ak
 have ac:=zc m3
 have aq:=zc i3
 clear i3 m3 s3 aB
 clear a0 a1 a2 a3 a4 a5 a6 a7 a8 a9 ai ah af
 obtain⟨hq,rfl,aA⟩:=zf0 aq.out hn
 have HQ:=zc hq
 have an:=zc aA
 have ar:q3.pos=q.pos+1:=by rw[hq];rfl
 have ax:isT (Cx.mk z h true) q3.pos 4 cPoint=true:=by rw[ar];exact hd
 clear hq aA aq
 have aN:w.heap.size+1<w3.heap.size:=j.out.lt
 unfold pv
 clear ar
 go_wp2_with fail
 refine (zg (Cx.mk z h true) J D n S3 q3 (-1) d 4 cPoint _ (ac.out.alloc _).tok I (by decide)).mono ?_
 rintro e w4 ⟨rfl,L⟩
 rw[ax]
 replace o:=zc ((o.out.alloc _).below L)
 replace j:=zc ((j.out.alloc _).below L)
 replace A:=zc ((Bx.new ac.out _).below L)
 have au:Hid (SB w.heap.size S w S3 w4):=(ay.out.alloc _).below L
 have al:Hid (Mem (Cx.mk z h true) J D n S3 q3 w4):=(ac.out.alloc _).later L
 clear L ay ac
 obtain⟨c0,c1,c2,c3,c4,c5,c6,c7,c8,c9,aF,aE,cf⟩:=A.out.box
 have aw:q3.pos<(Cx.mk z h true).ts.length:=zaz ax (by decide)
 have aM:q3.pos<z.length:=aw
 go_wp2_with fail
 refine (zaU (Cx.mk z h true) J D n (.ok (adv q3)) S3 (adv q3) (-1) d true _ (zU _) ((al.out.adv aw).set A.out 1 _)).mono ?_
 rintro e w5 ⟨Z,q5,z5,n5,rfl,i5,m5,s5⟩
 replace o:=zc ((o.out.set_other (by omega) 1 _).stp s5)
 replace j:=zc ((j.out.set_other (by omega) 1 _).stp s5)
 replace A:=zc ((A.out.at1 _).stp s5)
 have ad:Hid (SB w.heap.size S w Z w5):=(au.out.set (by omega) 1 _).step s5
 clear au
 have K:=zc m5
 have N:=zc i5
 clear i5 m5 s5 al
 clear c0 c1 c2 c3 c4 c5 c6 c7 c8 c9 aF aE cf
 have aK:w.heap.size+1<w5.heap.size:=j.out.lt
 have aC:w3.heap.size<w5.heap.size:=A.out.lt
 cases hc:(decide (z5<0)&&isT (Cx.mk z h true) q5.pos 4 zm) with
 |true=>
  unfold pv
  go_wp2_with fail
  refine (zg (Cx.mk z h true) J D n Z q5 z5 d 4 zm _ (K.out.alloc _).tok I (by decide)).mono ?_
  rintro e w6 ⟨rfl,E⟩
  rw[hc]
  replace o:=zc ((o.out.alloc _).below E)
  replace j:=zc ((j.out.alloc _).below E)
  replace A:=zc ((A.out.alloc _).below E)
  replace H:=zc ((Bx.new K.out _).below E)
  have X:Hid (SB w.heap.size S w Z w6):=(ad.out.alloc _).below E
  have Y:Hid (Mem (Cx.mk z h true) J D n Z q5 w6):=(K.out.alloc _).later E
  clear E ad K
  obtain⟨d0,d1,d2,d3,d4,d5,d6,d7,d8,d9,U,V,df⟩:=H.out.box
  go_wp2_with fail
  refine (zab (Cx.mk z h true) J D n _ Z q5 z5 d zm _ N.out.fst Y.out).mono ?_
  rintro e w7 ⟨S7,q7,z7,rfl,i7,m7,M⟩
  replace o:=zc (o.out.stp M)
  replace j:=zc (j.out.stp M)
  replace A:=zc (A.out.stp M)
  replace H:=zc (H.out.stp M)
  have aa:=zc (X.out.step M)
  clear X
  have ab:=zc m7
  have aj:=zc i7
  clear i7 m7 M Y
  clear d0 d1 d2 d3 d4 d5 d6 d7 d8 d9 U V df
  go_wp2_with fail
  refine (zab (Cx.mk z h true) J D n _ S7 q7 z7 d zay _ aj.out ab.out).mono ?_
  rintro e w8 ⟨S8,q8,z8,rfl,i8,m8,s8⟩
  replace o:=zc (o.out.stp s8)
  replace j:=zc (j.out.stp s8)
  replace A:=zc (A.out.stp s8)
  replace H:=zc (H.out.stp s8)
  have av:=zc (aa.out.step s8)
  clear aa
  have ap:=zc m8
  have am:=zc i8
  clear i8 m8 s8 ab
  obtain⟨d0,d1,d2,d3,d4,d5,d6,d7,d8,d9,U,V,df⟩:=H.out.box
  unfold pv
  go_wp2_with fail
  refine (zc3 (Cx.mk z h true) J D n _ S8 q8 z8 d ⟨5,0,n3,n5,0,0⟩ _ am.out (ap.out.put H.out ..) (zaZ am.out)).mono ?_
  rintro e w9 ⟨S9,q9,z9,rfl,i9,m9,s9⟩
  replace o:=zc ((o.out.other (by omega) ..).stp s9)
  replace j:=zc ((j.out.other (by omega) ..).stp s9)
  replace A:=zc ((A.out.other (by omega) ..).stp s9)
  replace H:=zc ((H.out.put ..).stp s9)
  have aI:Hid (SB w.heap.size S w S9 w9):=(av.out.put (by omega) ..).step s9
  clear av
  have aG:=zc m9
  have aJ:=zc i9
  clear i9 m9 s9 ap
  clear d0 d1 d2 d3 d4 d5 d6 d7 d8 d9 U V df
  obtain⟨b0,b1,b2,b3,b4,b5,b6,b7,b8,b9,aH,aD,bf⟩:=j.out.box
  unfold pv
  go_wp2
  refine bodyPost_ret (results_cell_row rfl _ _ (w.heap.size+1) 53 _ (0,0) _ rfl ((j.out.put ..)).heap Tryz.underlying53 rfl (by kernel_rfl)) rfl ?_
  rw[HV.out,←HQ.out,←an.out,←zja N.out hc]
  exact zW rfl aJ.out (aG.out.put j.out ..) (aI.out.put (by omega) ..)
 |false=>
  unfold pv
  go_wp2_with fail
  refine (zg (Cx.mk z h true) J D n Z q5 z5 d 4 zm _ (K.out.alloc _).tok I (by decide)).mono ?_
  rintro e w6 ⟨rfl,E⟩
  rw[hc]
  replace o:=zc ((o.out.alloc _).below E)
  replace j:=zc ((j.out.alloc _).below E)
  replace A:=zc ((A.out.alloc _).below E)
  replace H:=zc ((Bx.new K.out _).below E)
  have X:Hid (SB w.heap.size S w Z w6):=(ad.out.alloc _).below E
  have Y:Hid (Mem (Cx.mk z h true) J D n Z q5 w6):=(K.out.alloc _).later E
  clear E ad K
  obtain⟨d0,d1,d2,d3,d4,d5,d6,d7,d8,d9,U,V,df⟩:=H.out.box
  go_wp2_with fail
  refine (zc3 (Cx.mk z h true) J D n _ Z q5 z5 d ⟨4,0,n3,n5,0,0⟩ _ N.out.fst Y.out (zjc N.out)).mono ?_
  rintro e w7 ⟨S7,q7,z7,rfl,i7,m7,M⟩
  replace o:=zc (o.out.stp M)
  replace j:=zc (j.out.stp M)
  replace A:=zc (A.out.stp M)
  replace H:=zc (H.out.stp M)
  have aa:=zc (X.out.step M)
  clear X
  have ab:=zc m7
  have aj:=zc i7
  clear i7 m7 M Y
  clear d0 d1 d2 d3 d4 d5 d6 d7 d8 d9 U V df
  obtain⟨b0,b1,b2,b3,b4,b5,b6,b7,b8,b9,aH,aD,bf⟩:=j.out.box
  unfold pv
  go_wp2
  refine bodyPost_ret (results_cell_row rfl _ _ (w.heap.size+1) 53 _ (0,0) _ rfl ((j.out.put ..)).heap Tryz.underlying53 rfl (by kernel_rfl)) rfl ?_
  rw[HV.out,←HQ.out,←an.out,←zjb N.out hc]
  exact zW rfl aj.out (ab.out.put j.out ..) (aa.out.put (by omega) ..)
theorem zpe (j:List Tk) (h:Nat) (D A o:Nat) (S:Sv) (q:PS) (d:Nat) (w:World) (N:Mem (Cx.mk j h false) D A o S q w) (X: ¬q.pos<(Cx.mk j h false).ts.length):
  Calls Tryz.prog 168 #[pv (Cx.mk j h false) D A S q (-1) d] w (Out (Cx.mk j h false) D A o (pE (Cx.mk j h false) .part d q) d S w):=by
 have HM:=zc N
 have V:=N.tok
 have M:(Cx.mk j h false).ts.length≤4000:=N.few
 have ag:=(zak N.tok).1
 clear N
 have hk:((ze (Cx.mk j h false) q.pos).kind==2)=false:=by rw[zdb (by omega)];rfl
 have ho:isT (Cx.mk j h false) q.pos 4 zm=false:=zeo X (by decide)
 have hu:isT (Cx.mk j h false) q.pos 1 za4=false:=zeo X (by decide)
 have hn:zB (Cx.mk j h false) q.pos false=false:=zfP X
 have HV:Hid (pE (Cx.mk j h false) .part d q= .error (zq (Cx.mk j h false) q.pos)):=by show pE (Cx.mk j h false) .part d q=_;rw[zbv,hk,ho,zh,hn];rfl
 have am: ¬q.pos<j.length:=X
 unfold pv
 go_enter Tryz.func168,Tryz.ntmps168
 go_wp2_with fail
 refine (zg (Cx.mk j h false) D A o S q (-1) d 4 zm _ (zo (zo V _) _) M (by decide)).mono ?_
 rintro e w1 ⟨rfl,K⟩
 rw[ho]
 obtain⟨U,L,m1,t1⟩:=HM.out.two K
 have z:=zc U
 have n:=zc L
 have I:=zc m1
 have O:=zc t1
 clear U L m1 t1 K
 obtain⟨a0,a1,a2,a3,a4,a5,a6,a7,a8,a9,ad,aa,af⟩:=z.out.box
 go_wp2_with fail
 refine (zaU (Cx.mk j h false) D A o (.ok q) S q (-1) d false _ (zU q) I.out).mono ?_
 rintro e w2 ⟨J,q2,z2,n2,rfl,i2,m2,Y⟩
 replace z:=zc (z.out.stp Y)
 replace n:=zc (n.out.stp Y)
 have H:=zc (O.out.step Y)
 clear O
 have E:=zc m2
 have Z:=zc i2
 clear i2 m2 Y I
 clear a0 a1 a2 a3 a4 a5 a6 a7 a8 a9 ad aa af
 obtain rfl:=zf1 Z.out hn
 have dz:decide ((0:Int)≤(zq (Cx.mk j h false) q.pos:Int))=true:=decide_eq_true (by omega)
 have ah:w.heap.size+1<w2.heap.size:=n.out.lt
 unfold pv
 go_upto_region 17 with fail
 refine zJ (R:=fun W=>Bx D J W (w.heap.size) _∧Bx D J W (w.heap.size+1) _∧Bx D J W (w2.heap.size) _∧Mem (Cx.mk j h false) D A o J q2 W∧SB w.heap.size S w J W) ⟨(z.out.alloc _),(n.out.alloc _),(Bx.new E.out _),(E.out.alloc _),(H.out.alloc _)⟩ ?_
 clear z n H E
 rintro w3 ⟨U,L,X2,m3,t3⟩
 have z:=zc U
 have n:=zc L
 have ab:=zc X2
 have ac:=zc m3
 have ae:=zc t3
 clear m3 t3 U L X2
 obtain⟨b0,b1,b2,b3,b4,b5,b6,b7,b8,b9,al,ai,bf⟩:=n.out.box
 obtain⟨c0,c1,c2,c3,c4,c5,c6,c7,c8,c9,ak,aj,cf⟩:=ab.out.box
 go_wp2
 refine bodyPost_ret (results_cell_row rfl _ _ (w.heap.size+1) 53 _ (0,0) _ rfl ((n.out.put ..)).heap Tryz.underlying53 rfl (by kernel_rfl)) rfl ?_
 rw[HV.out]
 exact zW rfl (show Is (.error (zq (Cx.mk j h false) q.pos)) q2 _ from rfl) (ac.out.put n.out ..) (ae.out.put (by omega) ..)
theorem zpf (j:List Tk) (h:Nat) (D A o:Nat) (S:Sv) (q:PS) (d:Nat) (w:World) (O:Mem (Cx.mk j h false) D A o S q w) (hk:((ze (Cx.mk j h false) q.pos).kind==2)=false) (ho:isT (Cx.mk j h false) q.pos 4 zm=false) (hp:q.pos<(Cx.mk j h false).ts.length) (hn:zB (Cx.mk j h false) q.pos false=false):
  Calls Tryz.prog 168 #[pv (Cx.mk j h false) D A S q (-1) d] w (Out (Cx.mk j h false) D A o (pE (Cx.mk j h false) .part d q) d S w):=by
 have HM:=zc O
 have E:=O.tok
 have N:(Cx.mk j h false).ts.length≤4000:=O.few
 have ae:=(zak O.tok).1
 clear O
 have HV:Hid (pE (Cx.mk j h false) .part d q= .error (zq (Cx.mk j h false) q.pos)):=by show pE (Cx.mk j h false) .part d q=_;rw[zbv,hk,ho,zh,hn];rfl
 have al:q.pos<j.length:=hp
 obtain⟨c0,_,_,_⟩:=E.cells hp (d:=⟨0,sNone,0,(Cx.mk j h false).fin⟩)
 change _=some (Value.int .i64 (ze (Cx.mk j h false) q.pos).kind) at c0
 generalize (ze (Cx.mk j h false) q.pos).kind=kd at c0 hk
 unfold pv
 go_enter Tryz.func168,Tryz.ntmps168
 go_wp2_with fail
 refine (zg (Cx.mk j h false) D A o S q (-1) d 4 zm _ (zo (zo E _) _) N (by decide)).mono ?_
 rintro e w1 ⟨rfl,L⟩
 rw[ho]
 obtain⟨V,M,m1,t1⟩:=HM.out.two L
 have z:=zc V
 have n:=zc M
 have J:=zc m1
 have U:=zc t1
 clear V M m1 t1 L
 obtain⟨a0,a1,a2,a3,a4,a5,a6,a7,a8,a9,ac,Z,af⟩:=z.out.box
 go_wp2_with fail
 refine (zaU (Cx.mk j h false) D A o (.ok q) S q (-1) d false _ (zU q) J.out).mono ?_
 rintro e w2 ⟨K,q2,z2,n2,rfl,i2,m2,X⟩
 replace z:=zc (z.out.stp X)
 replace n:=zc (n.out.stp X)
 have I:=zc (U.out.step X)
 clear U
 have H:=zc m2
 have Y:=zc i2
 clear i2 m2 X J
 clear a0 a1 a2 a3 a4 a5 a6 a7 a8 a9 ac Z af
 obtain rfl:=zf1 Y.out hn
 have dz:decide ((0:Int)≤(zq (Cx.mk j h false) q.pos:Int))=true:=decide_eq_true (by omega)
 have ag:w.heap.size+1<w2.heap.size:=n.out.lt
 unfold pv
 go_upto_region 17 with fail
 refine zJ (R:=fun W=>Bx D K W (w.heap.size) _∧Bx D K W (w.heap.size+1) _∧Bx D K W (w2.heap.size) _∧Mem (Cx.mk j h false) D A o K q2 W∧SB w.heap.size S w K W) ⟨(z.out.alloc _),(n.out.alloc _),(Bx.new H.out _),(H.out.alloc _),(I.out.alloc _)⟩ ?_
 clear z n I H
 rintro w3 ⟨V,M,X2,m3,t3⟩
 have z:=zc V
 have n:=zc M
 have aa:=zc X2
 have ab:=zc m3
 have ad:=zc t3
 clear m3 t3 V M X2
 obtain⟨b0,b1,b2,b3,b4,b5,b6,b7,b8,b9,ak,ah,bf⟩:=n.out.box
 obtain⟨c0,c1,c2,c3,c4,c5,c6,c7,c8,c9,aj,ai,cf⟩:=aa.out.box
 go_wp2
 refine bodyPost_ret (results_cell_row rfl _ _ (w.heap.size+1) 53 _ (0,0) _ rfl ((n.out.put ..)).heap Tryz.underlying53 rfl (by kernel_rfl)) rfl ?_
 rw[HV.out]
 exact zW rfl (show Is (.error (zq (Cx.mk j h false) q.pos)) q2 _ from rfl) (ab.out.put n.out ..) (ad.out.put (by omega) ..)
theorem zje (E:List Tk) (n:Nat) (D z j:Nat) (S:Sv) (q:PS) (d:Nat) (w:World) (O:Mem (Cx.mk E n false) D z j S q w) (A:Nat):
  Calls Tryz.prog 168 #[pv (Cx.mk E n false) D z S q (A:Int) d] w (Out (Cx.mk E n false) D z j (.error A) d S w):=by
 have HM:=zc O
 have X:=O.tok
 have N:(Cx.mk E n false).ts.length≤4000:=O.few
 have ag:=(zak O.tok).1
 clear O
 have hz: ¬(A:Int)<0:=by omega
 have hs: ∀k s,(decide ((A:Int)<0)&&isT (Cx.mk E n false) q.pos k s)=false:=fun k s=>by rw[decide_eq_false hz];rfl
 unfold pv
 go_enter Tryz.func168,Tryz.ntmps168
 go_wp2_with fail
 refine (zg (Cx.mk E n false) D z j S q (A:Int) d 4 zm _ (zo (zo X _) _) N (by decide)).mono ?_
 rintro e w1 ⟨rfl,L⟩
 rw[hs]
 obtain⟨V,M,m1,t1⟩:=HM.out.two L
 have o:=zc V
 have h:=zc M
 have J:=zc m1
 have U:=zc t1
 clear V M m1 t1 L
 obtain⟨a0,a1,a2,a3,a4,a5,a6,a7,a8,a9,ad,aa,af⟩:=o.out.box
 go_wp2_with fail
 refine (zaU (Cx.mk E n false) D z j (.error A) S q (A:Int) d false _ (show Is (.error A) q _ from rfl) J.out).mono ?_
 rintro e w2 ⟨K,q2,z2,n2,rfl,i2,m2,Y⟩
 replace o:=zc (o.out.stp Y)
 replace h:=zc (h.out.stp Y)
 have I:=zc (U.out.step Y)
 clear U
 have H:=zc m2
 have Z:=zc i2
 clear i2 m2 Y J
 clear a0 a1 a2 a3 a4 a5 a6 a7 a8 a9 ad aa af
 obtain rfl:z2=(A:Int):=Z.out
 have dz:decide ((0:Int)≤(A:Int))=true:=decide_eq_true (by omega)
 have ah:w.heap.size+1<w2.heap.size:=h.out.lt
 unfold pv
 go_upto_region 17 with fail
 refine zJ (R:=fun W=>Bx D K W (w.heap.size) _∧Bx D K W (w.heap.size+1) _∧Bx D K W (w2.heap.size) _∧Mem (Cx.mk E n false) D z j K q2 W∧SB w.heap.size S w K W) ⟨(o.out.alloc _),(h.out.alloc _),(Bx.new H.out _),(H.out.alloc _),(I.out.alloc _)⟩ ?_
 clear o h I H
 rintro w3 ⟨V,M,X2,m3,t3⟩
 have o:=zc V
 have h:=zc M
 have ab:=zc X2
 have ac:=zc m3
 have ae:=zc t3
 clear m3 t3 V M X2
 obtain⟨b0,b1,b2,b3,b4,b5,b6,b7,b8,b9,al,ai,bf⟩:=h.out.box
 obtain⟨c0,c1,c2,c3,c4,c5,c6,c7,c8,c9,ak,aj,cf⟩:=ab.out.box
 go_wp2
 refine bodyPost_ret (results_cell_row rfl _ _ (w.heap.size+1) 53 _ (0,0) _ rfl ((h.out.put ..)).heap Tryz.underlying53 rfl (by kernel_rfl)) rfl ?_
 exact zW rfl (show Is (.error A) q2 _ from rfl) (ac.out.put h.out ..) (ae.out.put (by omega) ..)
theorem zpg (j:List Tk) (h:Nat) (I z n:Nat) (S:Sv) (q:PS) (d:Nat) (w:World) (Y:Mem (Cx.mk j h false) I z n S q w) (hk:((ze (Cx.mk j h false) q.pos).kind==2)=false) (ho:isT (Cx.mk j h false) q.pos 4 zm=false) (hp:q.pos<(Cx.mk j h false).ts.length) (hn:zB (Cx.mk j h false) q.pos false=true) (hd:isT (Cx.mk j h false) (q.pos+1) 4 cPoint=false):
  Calls Tryz.prog 168 #[pv (Cx.mk j h false) I z S q (-1) d] w (Out (Cx.mk j h false) I z n (pE (Cx.mk j h false) .part d q) d S w):=by
 have HM:=zc Y
 have J:=Y.tok
 have H:(Cx.mk j h false).ts.length≤4000:=Y.few
 have am:=(zak Y.tok).1
 clear Y
 have HV:Hid (pE (Cx.mk j h false) .part d q=zbq (Cx.mk j h false) (ze (Cx.mk j h false) q.pos).text (adv q)):=by show pE (Cx.mk j h false) .part d q=_;rw[zbv,hk,ho,zh,hn];show (if isT (Cx.mk j h false) (adv q).pos 4 cPoint then _ else _)=_;rw[zw,hd];rfl
 have aq:q.pos<j.length:=hp
 obtain⟨c0,_,_,_⟩:=J.cells hp (d:=⟨0,sNone,0,(Cx.mk j h false).fin⟩)
 change _=some (Value.int .i64 (ze (Cx.mk j h false) q.pos).kind) at c0
 generalize (ze (Cx.mk j h false) q.pos).kind=kd at c0 hk
 unfold pv
 go_enter Tryz.func168,Tryz.ntmps168
 go_wp2_with fail
 refine (zg (Cx.mk j h false) I z n S q (-1) d 4 zm _ (zo (zo J _) _) H (by decide)).mono ?_
 rintro e w1 ⟨rfl,O⟩
 rw[ho]
 obtain⟨X0,X1,m1,t1⟩:=HM.out.two O
 have A:=zc X0
 have o:=zc X1
 have M:=zc m1
 have aa:=zc t1
 clear X0 X1 m1 t1 O
 obtain⟨a0,a1,a2,a3,a4,a5,a6,a7,a8,a9,ah,ad,af⟩:=A.out.box
 go_wp2_with fail
 refine (zaU (Cx.mk j h false) I z n (.ok q) S q (-1) d false _ (zU q) M.out).mono ?_
 rintro e w2 ⟨S2,q2,z2,n2,rfl,i2,m2,s2⟩
 replace A:=zc (A.out.stp s2)
 replace o:=zc (o.out.stp s2)
 have L:=zc (aa.out.step s2)
 clear aa
 have E:=zc m2
 have N:=zc i2
 clear i2 m2 s2 M
 clear a0 a1 a2 a3 a4 a5 a6 a7 a8 a9 ah ad af
 obtain⟨hq,rfl,ab⟩:=zf0 N.out hn
 have HQ:=zc hq
 have ae:=zc ab
 have U:q2.pos=q.pos+1:=by rw[hq];rfl
 have ai:isT (Cx.mk j h false) q2.pos 4 cPoint=false:=by rw[U];exact hd
 clear hq ab N
 have an:w.heap.size+1<w2.heap.size:=o.out.lt
 unfold pv
 clear U
 go_wp2_with fail
 refine (zg (Cx.mk j h false) I z n S2 q2 (-1) d 4 cPoint _ (E.out.alloc _).tok H (by decide)).mono ?_
 rintro e w3 ⟨rfl,D⟩
 rw[ai]
 replace A:=zc ((A.out.alloc _).below D)
 replace o:=zc ((o.out.alloc _).below D)
 replace K:=zc ((Bx.new E.out _).below D)
 have Z:Hid (SB w.heap.size S w S2 w3):=(L.out.alloc _).below D
 have X:Hid (Mem (Cx.mk j h false) I z n S2 q2 w3):=(E.out.alloc _).later D
 clear D L E
 obtain⟨c0,c1,c2,c3,c4,c5,c6,c7,c8,c9,ak,aj,cf⟩:=K.out.box
 go_wp2_with fail
 refine (zgy (Cx.mk j h false) I z n S2 q2 d n2 _ X.out (by rw[HQ.out];simp[adv])).mono ?_
 rintro e w4 ⟨S4,q4,z4,rfl,i4,m4,V⟩
 replace A:=zc (A.out.stp V)
 replace o:=zc (o.out.stp V)
 replace K:=zc (K.out.stp V)
 have ag:=zc (Z.out.step V)
 clear Z
 have ac:=zc m4
 have al:=zc i4
 clear i4 m4 V X
 clear c0 c1 c2 c3 c4 c5 c6 c7 c8 c9 ak aj cf
 obtain⟨b0,b1,b2,b3,b4,b5,b6,b7,b8,b9,ap,ao,bf⟩:=o.out.box
 unfold pv
 go_wp2
 refine bodyPost_ret (results_cell_row rfl _ _ (w.heap.size+1) 53 _ (0,0) _ rfl ((o.out.put ..)).heap Tryz.underlying53 rfl (by kernel_rfl)) rfl ?_
 rw[HV.out,←HQ.out,←ae.out]
 exact zW rfl al.out (ac.out.put o.out ..) (ag.out.put (by omega) ..)
theorem zph (z:List Tk) (h:Nat) (J D n:Nat) (S:Sv) (q:PS) (d:Nat) (w:World) (hm:Mem (Cx.mk z h false) J D n S q w) (hk:((ze (Cx.mk z h false) q.pos).kind==2)=false) (ho:isT (Cx.mk z h false) q.pos 4 zm=false) (hp:q.pos<(Cx.mk z h false).ts.length) (hn:zB (Cx.mk z h false) q.pos false=true) (hd:isT (Cx.mk z h false) (q.pos+1) 4 cPoint=true):
  Calls Tryz.prog 168 #[pv (Cx.mk z h false) J D S q (-1) d] w (Out (Cx.mk z h false) J D n (pE (Cx.mk z h false) .part d q) d S w):=by
 have HM:=zc hm
 have ac:=hm.tok
 have K:(Cx.mk z h false).ts.length≤4000:=hm.few
 have aH:=(zak hm.tok).1
 clear hm
 have HV:Hid (pE (Cx.mk z h false) .part d q=bd (bd (.ok (adv (adv q))) (zh (Cx.mk z h false) true)) fun y=>zbz (Cx.mk z h false) (ze (Cx.mk z h false) q.pos).text y.2 y.1):=by show pE (Cx.mk z h false) .part d q=_;rw[zbv,hk,ho,zh,hn];show (if isT (Cx.mk z h false) (adv q).pos 4 cPoint then _ else _)=_;rw[zw,hd];rfl
 have aK:q.pos<z.length:=hp
 obtain⟨c0,_,_,_⟩:=ac.cells hp (d:=⟨0,sNone,0,(Cx.mk z h false).fin⟩)
 change _=some (Value.int .i64 (ze (Cx.mk z h false) q.pos).kind) at c0
 generalize (ze (Cx.mk z h false) q.pos).kind=kd at c0 hk
 unfold pv
 go_enter Tryz.func168,Tryz.ntmps168
 go_wp2_with fail
 refine (zg (Cx.mk z h false) J D n S q (-1) d 4 zm _ (zo (zo ac _) _) K (by decide)).mono ?_
 rintro e w1 ⟨rfl,al⟩
 rw[ho]
 obtain⟨X0,X1,m1,t1⟩:=HM.out.two al
 have o:=zc X0
 have j:=zc X1
 have ah:=zc m1
 have au:=zc t1
 clear X0 X1 m1 t1 al
 obtain⟨a0,a1,a2,a3,a4,a5,a6,a7,a8,a9,aB,ay,af⟩:=o.out.box
 go_wp2_with fail
 refine (zaU (Cx.mk z h false) J D n (.ok q) S q (-1) d false _ (zU q) ah.out).mono ?_
 rintro e w2 ⟨S2,q2,z2,n2,rfl,i2,m2,s2⟩
 replace o:=zc (o.out.stp s2)
 replace j:=zc (j.out.stp s2)
 have ae:=zc (au.out.step s2)
 clear au
 have ab:=zc m2
 have aj:=zc i2
 clear i2 m2 s2 ah
 clear a0 a1 a2 a3 a4 a5 a6 a7 a8 a9 aB ay af
 obtain⟨hq,rfl,av⟩:=zf0 aj.out hn
 have HQ:=zc hq
 have ak:=zc av
 have am:q2.pos=q.pos+1:=by rw[hq];rfl
 have aq:isT (Cx.mk z h false) q2.pos 4 cPoint=true:=by rw[am];exact hd
 clear hq av aj
 have aJ:w.heap.size+1<w2.heap.size:=j.out.lt
 unfold pv
 clear am
 go_wp2_with fail
 refine (zg (Cx.mk z h false) J D n S2 q2 (-1) d 4 cPoint _ (ab.out.alloc _).tok K (by decide)).mono ?_
 rintro e w3 ⟨rfl,M⟩
 rw[aq]
 replace o:=zc ((o.out.alloc _).below M)
 replace j:=zc ((j.out.alloc _).below M)
 replace A:=zc ((Bx.new ab.out _).below M)
 have ar:Hid (SB w.heap.size S w S2 w3):=(ae.out.alloc _).below M
 have an:Hid (Mem (Cx.mk z h false) J D n S2 q2 w3):=(ab.out.alloc _).later M
 clear M ae ab
 obtain⟨c0,c1,c2,c3,c4,c5,c6,c7,c8,c9,aE,aD,cf⟩:=A.out.box
 have ao:q2.pos<(Cx.mk z h false).ts.length:=zaz aq (by decide)
 have aI:q2.pos<z.length:=ao
 go_wp2_with fail
 refine (zaU (Cx.mk z h false) J D n (.ok (adv q2)) S2 (adv q2) (-1) d true _ (zU _) ((an.out.adv ao).set A.out 1 _)).mono ?_
 rintro e w4 ⟨S4,q4,z4,n4,rfl,i4,m4,s4⟩
 replace o:=zc ((o.out.set_other (by omega) 1 _).stp s4)
 replace j:=zc ((j.out.set_other (by omega) 1 _).stp s4)
 replace A:=zc ((A.out.at1 _).stp s4)
 have Z:Hid (SB w.heap.size S w S4 w4):=(ar.out.set (by omega) 1 _).step s4
 clear ar
 have I:=zc m4
 have X:=zc i4
 clear i4 m4 s4 an
 clear c0 c1 c2 c3 c4 c5 c6 c7 c8 c9 aE aD cf
 have aG:w.heap.size+1<w4.heap.size:=j.out.lt
 have aw:w2.heap.size<w4.heap.size:=A.out.lt
 cases hc:(decide (z4<0)&&isT (Cx.mk z h false) q4.pos 4 zm) with
 |true=>
  unfold pv
  go_wp2_with fail
  refine (zg (Cx.mk z h false) J D n S4 q4 z4 d 4 zm _ (I.out.alloc _).tok K (by decide)).mono ?_
  rintro e w5 ⟨rfl,E⟩
  rw[hc]
  replace o:=zc ((o.out.alloc _).below E)
  replace j:=zc ((j.out.alloc _).below E)
  replace A:=zc ((A.out.alloc _).below E)
  replace H:=zc ((Bx.new I.out _).below E)
  have U:Hid (SB w.heap.size S w S4 w5):=(Z.out.alloc _).below E
  have V:Hid (Mem (Cx.mk z h false) J D n S4 q4 w5):=(I.out.alloc _).later E
  clear E Z I
  obtain⟨d0,d1,d2,d3,d4,d5,d6,d7,d8,d9,N,O,df⟩:=H.out.box
  go_wp2_with fail
  refine (zab (Cx.mk z h false) J D n _ S4 q4 z4 d zm _ X.out.fst V.out).mono ?_
  rintro e w6 ⟨S6,q6,z6,rfl,i6,m6,L⟩
  replace o:=zc (o.out.stp L)
  replace j:=zc (j.out.stp L)
  replace A:=zc (A.out.stp L)
  replace H:=zc (H.out.stp L)
  have Y:=zc (U.out.step L)
  clear U
  have aa:=zc m6
  have ad:=zc i6
  clear i6 m6 L V
  clear d0 d1 d2 d3 d4 d5 d6 d7 d8 d9 N O df
  go_wp2_with fail
  refine (zab (Cx.mk z h false) J D n _ S6 q6 z6 d zay _ ad.out aa.out).mono ?_
  rintro e w7 ⟨S7,q7,z7,rfl,i7,m7,s7⟩
  replace o:=zc (o.out.stp s7)
  replace j:=zc (j.out.stp s7)
  replace A:=zc (A.out.stp s7)
  replace H:=zc (H.out.stp s7)
  have ag:=zc (Y.out.step s7)
  clear Y
  have ai:=zc m7
  have ap:=zc i7
  clear i7 m7 s7 aa
  obtain⟨d0,d1,d2,d3,d4,d5,d6,d7,d8,d9,N,O,df⟩:=H.out.box
  unfold pv
  go_wp2_with fail
  refine (zc3 (Cx.mk z h false) J D n _ S7 q7 z7 d ⟨5,0,n2,n4,0,0⟩ _ ap.out (ai.out.put H.out ..) (zaZ ap.out)).mono ?_
  rintro e w8 ⟨S8,q8,z8,rfl,i8,m8,s8⟩
  replace o:=zc ((o.out.other (by omega) ..).stp s8)
  replace j:=zc ((j.out.other (by omega) ..).stp s8)
  replace A:=zc ((A.out.other (by omega) ..).stp s8)
  replace H:=zc ((H.out.put ..).stp s8)
  have aA:Hid (SB w.heap.size S w S8 w8):=(ag.out.put (by omega) ..).step s8
  clear ag
  have az:=zc m8
  have ax:=zc i8
  clear i8 m8 s8 ai
  clear d0 d1 d2 d3 d4 d5 d6 d7 d8 d9 N O df
  obtain⟨b0,b1,b2,b3,b4,b5,b6,b7,b8,b9,aF,aC,bf⟩:=j.out.box
  unfold pv
  go_wp2
  refine bodyPost_ret (results_cell_row rfl _ _ (w.heap.size+1) 53 _ (0,0) _ rfl ((j.out.put ..)).heap Tryz.underlying53 rfl (by kernel_rfl)) rfl ?_
  rw[HV.out,←HQ.out,←ak.out,←zja X.out hc]
  exact zW rfl ax.out (az.out.put j.out ..) (aA.out.put (by omega) ..)
 |false=>
  unfold pv
  go_wp2_with fail
  refine (zg (Cx.mk z h false) J D n S4 q4 z4 d 4 zm _ (I.out.alloc _).tok K (by decide)).mono ?_
  rintro e w5 ⟨rfl,E⟩
  rw[hc]
  replace o:=zc ((o.out.alloc _).below E)
  replace j:=zc ((j.out.alloc _).below E)
  replace A:=zc ((A.out.alloc _).below E)
  replace H:=zc ((Bx.new I.out _).below E)
  have U:Hid (SB w.heap.size S w S4 w5):=(Z.out.alloc _).below E
  have V:Hid (Mem (Cx.mk z h false) J D n S4 q4 w5):=(I.out.alloc _).later E
  clear E Z I
  obtain⟨d0,d1,d2,d3,d4,d5,d6,d7,d8,d9,N,O,df⟩:=H.out.box
  go_wp2_with fail
  refine (zc3 (Cx.mk z h false) J D n _ S4 q4 z4 d ⟨4,0,n2,n4,0,0⟩ _ X.out.fst V.out (zjc X.out)).mono ?_
  rintro e w6 ⟨S6,q6,z6,rfl,i6,m6,L⟩
  replace o:=zc (o.out.stp L)
  replace j:=zc (j.out.stp L)
  replace A:=zc (A.out.stp L)
  replace H:=zc (H.out.stp L)
  have Y:=zc (U.out.step L)
  clear U
  have aa:=zc m6
  have ad:=zc i6
  clear i6 m6 L V
  clear d0 d1 d2 d3 d4 d5 d6 d7 d8 d9 N O df
  obtain⟨b0,b1,b2,b3,b4,b5,b6,b7,b8,b9,aF,aC,bf⟩:=j.out.box
  unfold pv
  go_wp2
  refine bodyPost_ret (results_cell_row rfl _ _ (w.heap.size+1) 53 _ (0,0) _ rfl ((j.out.put ..)).heap Tryz.underlying53 rfl (by kernel_rfl)) rfl ?_
  rw[HV.out,←HQ.out,←ak.out,←zjb X.out hc]
  exact zW rfl ad.out (aa.out.put j.out ..) (Y.out.put (by omega) ..)
def zgz (C:Cx) (gt cap base m:Nat):Prop:=∀(x:PR) (S:Sv) (q:PS) (z:Int) (d:Nat) (w:World),Is x q z→Mem C gt cap base S q w→(z<0→C.ts.length-q.pos<m)→d≤20→
 Calls Tryz.prog 168 #[pv C gt cap S q z d] w (Out C gt cap base (bd x (pE C .part d)) d S w)
def zjf (C:Cx) (gt cap base m:Nat):Prop:=∀(x:PR) (S:Sv) (q:PS) (z:Int) (d:Nat) (w:World),Is x q z→Mem C gt cap base S q w→(z<0→C.ts.length-q.pos<m)→d≤20→
 Calls Tryz.prog 136 #[pv C gt cap S q z d] w (Out C gt cap base (bd x (pE C .prod d)) d S w)
theorem SumOK.mono {C:Cx} {o n j m k:Nat} (h:SumOK C o n j m) (D:k≤m):SumOK C o n j k:=fun x S q z d w H I A E=>h x S q z d w H I (fun g=>Nat.lt_of_lt_of_le (A g) D) E
theorem zpi {C:Cx} {A j h m:Nat} (Y:SumOK C A j h m):zgz C A j h (m+1):=by
 intro x S q z d w V D X J
 by_cases O:z<0
 ·obtain⟨rfl,rfl⟩:=za7 V O
  rw[zx]
  have U:SumOK C A j h (C.ts.length-q.pos):=Y.mono (by have:=X O;omega)
  cases E:((ze C q.pos).kind==2) with
  |true=>exact zoW C A j h S q d w D E
  |false=>
   cases I:isT C q.pos 4 zm with
   |true=>
    by_cases N:20≤d
    ·exact zoX C A j h S q d w D E I N J
    ·exact zoY C A j h S q d w D E I (by omega) U
   |false=>
    obtain⟨o,n,L⟩:=C
    cases L with
    |true=>
     by_cases H:q.pos<o.length
     ·cases M:isT (Cx.mk o n true) q.pos 1 za4 with
      |true=>exact zpb o n A j h S q d w D E I H M
      |false=>
       cases K:zB (Cx.mk o n true) q.pos false with
       |false=>exact zpa o n A j h S q d w D E I H M K
       |true=>
        cases J:isT (Cx.mk o n true) (q.pos+1) 4 cPoint with
        |false=>exact zpc o n A j h S q d w D E I H M K J
        |true=>exact zpd o n A j h S q d w D E I H M K J
     ·exact zoZ o n A j h S q d w D H
    |false=>
     by_cases H:q.pos<o.length
     ·cases K:zB (Cx.mk o n false) q.pos false with
      |false=>exact zpf o n A j h S q d w D E I H K
      |true=>
       cases J:isT (Cx.mk o n false) (q.pos+1) 4 cPoint with
       |false=>exact zpg o n A j h S q d w D E I H K J
       |true=>exact zph o n A j h S q d w D E I H K J
     ·exact zpe o n A j h S q d w D H
 ·obtain⟨e,rfl,rfl⟩:=zcN V O
  rw[zd7]
  obtain⟨o,n,L⟩:=C
  cases L with
  |true=>exact zjd o n A j h S q d w D e
  |false=>exact zje o n A j h S q d w D e
theorem zg0 {C:Cx} {x:PR} {q:PS} {z:Int} (h:Is x q z) (F:PS→Ex):bd x (zM C (F q))=bd x fun q'=>zM C (F q') q':=by
 cases x with
 |ok a=>obtain⟨rfl,_⟩:=h;rfl
 |error e=>rfl
theorem zjg {C:Cx} {y:PS→Ex} {x:PR} {q:PS} {n:Nat} (w: ∀a,x= .ok a→n≤a.pos) (h:(bd x fun q'=>zM C (y q') q')= .ok q):n≤q.pos:=by
 obtain⟨a,j,o⟩:=zi h
 obtain⟨rfl,_⟩:=zb1 o
 exact w a j
theorem zpj {C:Cx} {d m:Nat} {x:PR} {q h:PS} {z j:Int} (w:Is x q z) (o:Is (bd x (pE C .part d)) h j) (E:z<0→C.ts.length-q.pos<m) (A:j<0):C.ts.length-h.pos<m:=by
 obtain⟨e,_⟩:=za7 o A
 obtain⟨a,n,D⟩:=zi e
 subst n
 obtain⟨rfl,rfl⟩:=w
 have:=zaP D
 have:=E (by decide)
 omega
theorem zpk {C:Cx} {d m:Nat} {x:PR} {q h:PS} {z j:Int} (w:Is x q z) (o:Is (bd x (pE C .prod d)) h j) (E:z<0→C.ts.length-q.pos<m) (A:j<0):C.ts.length-h.pos<m:=by
 obtain⟨e,_⟩:=za7 o A
 obtain⟨a,n,D⟩:=zi e
 subst n
 obtain⟨rfl,rfl⟩:=w
 have:=zaP D
 have:=E (by decide)
 omega
theorem zpl {C:Cx} {d:Nat} {j q:PS} {z:Int} (h:Is (bd (.ok (adv j)) (pE C .part d)) q z) (n:z<0):1≤q.pos:=by
 obtain⟨e,_⟩:=za7 h n
 have:=zaP (show pE C .part d (adv j)= .ok q from e)
 rw[zw] at this
 omega
theorem zjh {C:Cx} {d:Nat} {j q:PS} {z:Int} (h:Is (bd (.ok (adv j)) (pE C .prod d)) q z) (n:z<0):1≤q.pos:=by
 obtain⟨e,_⟩:=za7 h n
 have:=zaP (show pE C .prod d (adv j)= .ok q from e)
 rw[zw] at this
 omega
theorem zpm {C:Cx} {d:Nat} {F:PS→Ex} {j q:PS} {z:Int} (h:Is (bd (bd (.ok (adv j)) (pE C .part d)) fun q'=>zM C (F q') q') q z) (n:z<0):j.pos+1≤q.pos:=by
 obtain⟨e,_⟩:=za7 h n
 exact zjg (fun a o=>by have:=zaP (show pE C .part d (adv j)= .ok a from o);rw[zw] at this;exact this) e
theorem zji {C:Cx} {d:Nat} {F:PS→Ex} {j q:PS} {z:Int} (h:Is (bd (bd (.ok (adv j)) (pE C .prod d)) fun q'=>zM C (F q') q') q z) (n:z<0):j.pos+1≤q.pos:=by
 obtain⟨e,_⟩:=za7 h n
 exact zjg (fun a o=>by have:=zaP (show pE C .prod d (adv j)= .ok a from o);rw[zw] at this;exact this) e
theorem zpn {C:Cx} {d:Nat} {q:PS} (h:isT C q.pos 4 zv=true) (_:q.pos<C.ts.length):
  bd (.ok q) (pE C .prodT d)=bd (bd (bd (.ok (adv q)) (pE C .part d)) fun q'=>zM C ⟨8,0,sNone,sNone,(q.ex.length:Int)-1,(q'.ex.length:Int)-1⟩ q') (pE C .prodT d):=by
 show pE C .prodT d q=_
 rw[zeJ,if_pos h]
 rfl
theorem zjj {C:Cx} {d:Nat} {q:PS} {k:Int} (j:(isT C q.pos 4 zbN||isT C q.pos 4 zaT)=true) (h:zcH C q.pos=k) (_:q.pos<C.ts.length):
  bd (.ok q) (pE C .sumT d)=bd (bd (bd (.ok (adv q)) (pE C .prod d)) fun q'=>zM C ⟨k,0,sNone,sNone,(q.ex.length:Int)-1,(q'.ex.length:Int)-1⟩ q') (pE C .sumT d):=by
 show pE C .sumT d q=_
 rw[zeg,if_pos j,h]
 rfl
theorem zpo {C:Cx} {d:Nat} {x:PR} {q:PS} {z:Int} (h:Is x q z) (j:(decide (z<0)&&isT C q.pos 4 zv)=false):Is (bd x (pE C .prodT d)) q z:=by
 cases x with
 |ok a=>
  obtain⟨rfl,rfl⟩:=h
  rw[Bool.and_eq_false_iff] at j
  rw[zx,zeJ,j.resolve_left (by decide)]
  exact⟨rfl,rfl⟩
 |error e=>exact h
theorem zpp {C:Cx} {d:Nat} {x:PR} {q:PS} {z:Int} (j:Is x q z) (n:(decide (z<0)&&isT C q.pos 4 zbN)=false) (h:(decide (z<0)&&isT C q.pos 4 zaT)=false):Is (bd x (pE C .sumT d)) q z:=by
 cases x with
 |ok a=>
  obtain⟨rfl,rfl⟩:=j
  rw[Bool.and_eq_false_iff] at n h
  rw[zx,zeg,n.resolve_left (by decide),h.resolve_left (by decide)]
  exact⟨rfl,rfl⟩
 |error e=>exact j
theorem zpq {C:Cx} {i:Nat} (h:isT C i 4 zbN=true):isT C i 4 zaT=false:=by
 simp only[isT,Bool.and_eq_true,beq_iff_eq] at h
 simp only[isT,h.2]
 rw[Bool.and_eq_false_iff]
 exact .inr (by simp)
theorem zjk {C:Cx} {X H D m:Nat} (hP:zgz C X H D m):zjf C X H D m:=by
 intro x S q z d w hx hm hl ag
 have HP:=zc hP
 have HM:=zc hm
 have HX:=zc hx
 have HL:=zc hl
 have ae:=hm.few
 clear hP hm hx hl
 unfold pv
 go_enter Tryz.func136,Tryz.ntmps136
 go_wp2_with fail
 refine (HP.out x S q z d _ HX.out ((HM.out.alloc _).alloc _) HL.out ag).mono ?_
 rintro e w1 ⟨S1,q1,z1,rfl,i1,m1,s1⟩
 obtain⟨X0,X1,t1⟩:=HM.out.two2 s1
 have j:=zc X0
 have n:=zc X1
 have aq:=zc m1
 have ax:=zc t1
 have al:=zc i1
 clear X0 X1 i1 m1 t1 s1
 obtain⟨U,a1,a2,O,N,V,a6,L,Z,M,A,o,af⟩:=j.out.box
 unfold pv
 go_wp2
 go_loopg [] (C.ts.length+1) (fun k wr=>∃(x':PR) (I:Sv) (J:PS) (z':Int),Is x' J z'∧bd x' (pE C .prodT d)=bd x (pE C .prod d)∧(z'<0→C.ts.length-J.pos<k)∧(z'<0→C.ts.length-J.pos<m)∧Mem C X H D I J wr∧SB w.heap.size S w I wr∧Bx X I wr w.heap.size #[.slice (some ⟨X,0,none⟩) C.ts.length H,.int .i64 J.pos,.int .i64 C.fin,.bool C.scr,.slice I.rq.a J.rq.length I.rq.cap,.slice I.im.a J.im.length I.im.cap,.slice I.ep.a J.ep.length I.ep.cap,.slice I.st.a J.st.length I.st.cap,.slice I.ex.a J.ex.length I.ex.cap,.slice I.la.a J.la.length I.la.cap,.int .i64 z',.int .i64 d]∧Bx X I wr (w.heap.size+1) #[.slice none 0 0,.int .i64 0,.int .i64 0,.bool false,.slice none 0 0,.slice none 0 0,.slice none 0 0,.slice none 0 0,.slice none 0 0,.slice none 0 0,.int .i64 0,.int .i64 0])
 case atStart=>exact⟨_,S1,q1,z1,al.out,by rw[zK];exact zZ fun a _=>(zgI C d a).symm,fun _=>by omega,fun hz=>zpj HX.out al.out HL.out hz,(aq.out.put j.out ..),(ax.out.put (by omega) ..),(j.out.put ..),(n.out.other (by omega) ..)⟩
 case round=>
  obtain⟨x2,S2,Y,z2,i2,e2,l2,b2,m2,t2,X0,X1⟩:=hrel
  have j:=zc X0
  have n:=zc X1
  have K:=zc m2
  have aa:=zc t2
  have ak:=zc i2
  have an:=zc e2
  have av:=zc l2
  have ap:=zc b2
  have aD:=m2.inv.ex
  clear X0 X1 i2 m2 t2 e2 l2 b2
  cases hc:(decide (z2<0)&&isT C Y.pos 4 zv) with
  |true=>
   obtain⟨U,a1,a2,O,N,V,a6,L,Z,M,A,o,af⟩:=j.out.box
   go_wp2_with fail
   refine (zg C X H D S2 Y z2 d 4 zv _ K.out.tok ae (by decide)).mono ?_
   rintro e w3 ⟨rfl,E⟩
   rw[hc]
   replace j:=zc (j.out.below E)
   replace n:=zc (n.out.below E)
   have ac:=zc (aa.out.below E)
   have ab:=zc (K.out.later E)
   clear E aa K
   clear U a1 a2 O N V a6 L Z M A o af
   rw[Bool.and_eq_true,decide_eq_true_eq] at hc
   obtain⟨hz,hs⟩:=hc
   have hp:Y.pos<C.ts.length:=zaz hs (by decide)
   obtain⟨rfl,rfl⟩:=za7 ak.out hz
   have aC:=av.out hz
   have az:=ap.out hz
   skip
   obtain⟨U,a1,a2,O,N,V,a6,L,Z,M,A,o,af⟩:=j.out.box
   go_wp2_with fail
   refine (HP.out (.ok (adv Y)) S2 (adv Y) (-1) d _ (zU _) ((ab.out.adv hp).set j.out 1 _) (fun _=>by rw[zw];omega) ag).mono ?_
   rintro e w4 ⟨S4,q4,z4,rfl,i4,m4,s4⟩
   replace j:=zc ((j.out.at1 _).stp s4)
   replace n:=zc ((n.out.set_other (by omega) 1 _).stp s4)
   have am:Hid (SB w.heap.size S w S4 w4):=(ac.out.set (by omega) 1 _).step s4
   clear ac
   have aj:=zc m4
   have ai:=zc i4
   clear i4 m4 s4 ab
   clear U a1 a2 O N V a6 L Z M A o af
   obtain⟨U,a1,a2,O,N,V,a6,L,Z,M,A,o,af⟩:=j.out.box
   unfold pv
   go_upto_region 6 with fail
   refine zJ (R:=fun W=>Bx X S4 W (w.heap.size) _∧Bx X S4 W (w.heap.size+1) _∧Mem C X H D S4 q4 W∧SB w.heap.size S w S4 W) ⟨(j.out.put ..),(n.out.other (by omega) ..),(aj.out.put j.out ..),(am.out.put (by omega) ..)⟩ ?_
   clear U a1 a2 O N V a6 L Z M A o af
   clear j n am aj
   rintro w5 ⟨X0,X1,m5,t5⟩
   have j:=zc X0
   have n:=zc X1
   have ah:=zc m5
   have ao:=zc t5
   clear m5 t5 X0 X1
   obtain⟨U,a1,a2,O,N,V,a6,L,Z,M,A,o,af⟩:=j.out.box
   have ay:=ah.out.inv.ex
   go_wp2_with fail
   refine (zc3 C X H D _ S4 q4 z4 d ⟨8,0,sNone,sNone,(Y.ex.length:Int)-1,(q4.ex.length:Int)-1⟩ _ ai.out ah.out (fun h=>zpl ai.out h)).mono ?_
   rintro e w6 ⟨S6,q6,z6,rfl,i6,m6,s6⟩
   replace j:=zc (j.out.stp s6)
   replace n:=zc (n.out.stp s6)
   have au:=zc (ao.out.step s6)
   clear ao
   have aw:=zc m6
   have ar:=zc i6
   clear i6 m6 s6 ah
   clear U a1 a2 O N V a6 L Z M A o af
   have HI:Hid (Is (bd (bd (.ok (adv Y)) (pE C .part d)) fun J=>zM C ⟨8,0,sNone,sNone,(Y.ex.length:Int)-1,(J.ex.length:Int)-1⟩ J) q6 z6):=by rw[←zg0 ai.out (fun J=>⟨8,0,sNone,sNone,(Y.ex.length:Int)-1,(J.ex.length:Int)-1⟩)];exact ar.out
   have ad:Hid (z6<0→Y.pos+1≤q6.pos):=fun h=>zpm HI.out h
   obtain⟨U,a1,a2,O,N,V,a6,L,Z,M,A,o,af⟩:=j.out.box
   unfold pv
   go_wp2
   go_roundg (gk-1)
   case rel=>exact⟨_,S6,q6,z6,HI.out,by rw[←an.out];exact (zpn (d:=d) hs hp).symm,fun h=>by have:=ad.out h;omega,fun h=>by have:=ad.out h;omega,(aw.out.put j.out ..),(au.out.put (by omega) ..),(j.out.put ..),(n.out.other (by omega) ..)⟩
   case measure=>omega
  |false=>
   obtain⟨U,a1,a2,O,N,V,a6,L,Z,M,A,o,af⟩:=j.out.box
   go_wp2_with fail
   refine (zg C X H D S2 Y z2 d 4 zv _ K.out.tok ae (by decide)).mono ?_
   rintro e w3 ⟨rfl,E⟩
   rw[hc]
   replace j:=zc (j.out.below E)
   replace n:=zc (n.out.below E)
   have ac:=zc (aa.out.below E)
   have ab:=zc (K.out.later E)
   clear E aa K
   clear U a1 a2 O N V a6 L Z M A o af
   obtain⟨U,a1,a2,O,N,V,a6,L,Z,M,A,o,af⟩:=j.out.box
   obtain⟨b0,b1,b2,b3,b4,b5,b6,b7,b8,b9,aB,aA,bf⟩:=n.out.box
   go_wp2
   refine bodyPost_ret (results_cell_row rfl _ _ (w.heap.size+1) 53 _ (0,0) _ rfl ((n.out.put ..)).heap Tryz.underlying53 rfl (by kernel_rfl)) rfl ?_
   exact zW rfl (show Is (bd x (pE C .prod d)) Y z2 from by rw[←an.out];exact zpo ak.out hc) (ab.out.put n.out ..) (ac.out.put (by omega) ..)
theorem zjl {C:Cx} {gt I D m:Nat} (hP:zjf C gt I D m):SumOK C gt I D m:=by
 intro x S q z d w hx hm hl ap
 have HP:=zc hP
 have HM:=zc hm
 have HX:=zc hx
 have HL:=zc hl
 have ac:=hm.few
 clear hP hm hx hl
 unfold pv
 go_enter Tryz.func75,Tryz.ntmps75
 go_wp2_with fail
 refine (HP.out x S q z d _ HX.out ((HM.out.alloc _).alloc _) HL.out ap).mono ?_
 rintro e w1 ⟨S1,q1,z1,rfl,i1,m1,s1⟩
 obtain⟨X0,X1,t1⟩:=HM.out.two2 s1
 have j:=zc X0
 have n:=zc X1
 have aE:=zc m1
 have aL:=zc t1
 have aB:=zc i1
 clear X0 X1 i1 m1 t1 s1
 obtain⟨N,V,Z,M,L,O,Y,J,U,K,A,o,X⟩:=j.out.box
 unfold pv
 go_wp2
 go_loopg [] (C.ts.length+1) (fun k wr=>∃(x':PR) (S':Sv) (q':PS) (z':Int),Is x' q' z'∧bd x' (pE C .sumT d)=bd x (pE C .sum d)∧(z'<0→C.ts.length-q'.pos<k)∧(z'<0→C.ts.length-q'.pos<m)∧Mem C gt I D S' q' wr∧SB w.heap.size S w S' wr∧Bx gt S' wr w.heap.size #[.slice (some ⟨gt,0,none⟩) C.ts.length I,.int .i64 q'.pos,.int .i64 C.fin,.bool C.scr,.slice S'.rq.a q'.rq.length S'.rq.cap,.slice S'.im.a q'.im.length S'.im.cap,.slice S'.ep.a q'.ep.length S'.ep.cap,.slice S'.st.a q'.st.length S'.st.cap,.slice S'.ex.a q'.ex.length S'.ex.cap,.slice S'.la.a q'.la.length S'.la.cap,.int .i64 z',.int .i64 d]∧Bx gt S' wr (w.heap.size+1) #[.slice none 0 0,.int .i64 0,.int .i64 0,.bool false,.slice none 0 0,.slice none 0 0,.slice none 0 0,.slice none 0 0,.slice none 0 0,.slice none 0 0,.int .i64 0,.int .i64 0])
 case atStart=>exact⟨_,S1,q1,z1,aB.out,by rw[zK];exact zZ fun a _=>(zgH C d a).symm,fun _=>by omega,fun hz=>zpk HX.out aB.out HL.out hz,(aE.out.put j.out ..),(aL.out.put (by omega) ..),(j.out.put ..),(n.out.other (by omega) ..)⟩
 case round=>
  obtain⟨x2,S2,H,z2,i2,e2,l2,b2,m2,t2,X0,X1⟩:=hrel
  have j:=zc X0
  have n:=zc X1
  have ak:=zc m2
  have ar:=zc t2
  have aw:=zc i2
  have ay:=zc e2
  have aC:=zc l2
  have az:=zc b2
  have aO:=m2.inv.ex
  clear X0 X1 i2 m2 t2 e2 l2 b2
  cases hc:(decide (z2<0)&&isT C H.pos 4 zbN) with
  |true=>
   obtain⟨N,V,Z,M,L,O,Y,J,U,K,A,o,X⟩:=j.out.box
   go_wp2_with fail
   refine (zg C gt I D S2 H z2 d 4 zbN _ ak.out.tok ac (by decide)).mono ?_
   rintro e w3 ⟨rfl,aa⟩
   rw[hc]
   replace j:=zc (j.out.below aa)
   replace n:=zc (n.out.below aa)
   have ai:=zc (ar.out.below aa)
   have ab:=zc (ak.out.later aa)
   clear aa ar ak
   clear N V Z M L O Y J U K A o X
   rw[Bool.and_eq_true,decide_eq_true_eq] at hc
   obtain⟨hz,hs⟩:=hc
   have aD:isT C H.pos 4 zaT=false:=zpq hs
   have ad:(decide (z2<0)&&isT C H.pos 4 zaT)=false:=by rw[aD,Bool.and_false]
   obtain⟨N,V,Z,M,L,O,Y,J,U,K,A,o,X⟩:=j.out.box
   go_wp2_with fail
   refine (zg C gt I D S2 H z2 d 4 zaT _ ab.out.tok ac (by decide)).mono ?_
   rintro e w4 ⟨rfl,E⟩
   rw[ad]
   replace j:=zc (j.out.below E)
   replace n:=zc (n.out.below E)
   have ah:=zc (ai.out.below E)
   have ae:=zc (ab.out.later E)
   clear E ai ab
   clear N V Z M L O Y J U K A o X
   clear ad
   have hp:H.pos<C.ts.length:=zaz hs (by decide)
   obtain⟨rfl,rfl⟩:=za7 aw.out hz
   have aK:=aC.out hz
   have aH:=az.out hz
   skip
   obtain⟨N,V,Z,M,L,O,Y,J,U,K,A,o,X⟩:=j.out.box
   go_wp2_with fail
   refine (HP.out (.ok (adv H)) S2 (adv H) (-1) d _ (zU _) ((ae.out.adv hp).set j.out 1 _) (fun _=>by rw[zw];omega) ap).mono ?_
   rintro e w5 ⟨S5,q5,z5,rfl,i5,m5,s5⟩
   replace j:=zc ((j.out.at1 _).stp s5)
   replace n:=zc ((n.out.set_other (by omega) 1 _).stp s5)
   have ao:Hid (SB w.heap.size S w S5 w5):=(ah.out.set (by omega) 1 _).step s5
   clear ah
   have aq:=zc m5
   have av:=zc i5
   clear i5 m5 s5 ae
   clear N V Z M L O Y J U K A o X
   obtain⟨N,V,Z,M,L,O,Y,J,U,K,A,o,X⟩:=j.out.box
   unfold pv
   go_upto_region 9 with fail
   refine zJ (R:=fun W=>Bx gt S5 W (w.heap.size) _∧Bx gt S5 W (w.heap.size+1) _∧Mem C gt I D S5 q5 W∧SB w.heap.size S w S5 W) ⟨(j.out.put ..),(n.out.other (by omega) ..),(aq.out.put j.out ..),(ao.out.put (by omega) ..)⟩ ?_
   clear N V Z M L O Y J U K A o X
   clear j n ao aq
   rintro w6 ⟨X0,X1,m6,t6⟩
   have j:=zc X0
   have n:=zc X1
   have aj:=zc m6
   have am:=zc t6
   clear m6 t6 X0 X1
   obtain⟨N,V,Z,M,L,O,Y,J,U,K,A,o,X⟩:=j.out.box
   have aA:=aj.out.inv.ex
   go_wp2_with fail
   refine (zc3 C gt I D _ S5 q5 z5 d ⟨6,0,sNone,sNone,(H.ex.length:Int)-1,(q5.ex.length:Int)-1⟩ _ av.out aj.out (fun h=>zjh av.out h)).mono ?_
   rintro e w7 ⟨S7,q7,z7,rfl,i7,m7,s7⟩
   replace j:=zc (j.out.stp s7)
   replace n:=zc (n.out.stp s7)
   have au:=zc (am.out.step s7)
   clear am
   have al:=zc m7
   have aJ:=zc i7
   clear i7 m7 s7 aj
   clear N V Z M L O Y J U K A o X
   have HI:Hid (Is (bd (bd (.ok (adv H)) (pE C .prod d)) fun q'=>zM C ⟨6,0,sNone,sNone,(H.ex.length:Int)-1,(q'.ex.length:Int)-1⟩ q') q7 z7):=by rw[←zg0 av.out (fun q'=>⟨6,0,sNone,sNone,(H.ex.length:Int)-1,(q'.ex.length:Int)-1⟩)];exact aJ.out
   have ag:Hid (z7<0→H.pos+1≤q7.pos):=fun h=>zji HI.out h
   obtain⟨N,V,Z,M,L,O,Y,J,U,K,A,o,X⟩:=j.out.box
   unfold pv
   go_wp2
   go_roundg (gk-1)
   case rel=>exact⟨_,S7,q7,z7,HI.out,by rw[←ay.out];exact (zjj (d:=d) (by rw[hs];rfl) (show zcH C H.pos=6 by rw[zcH,aD];rfl) hp).symm,fun h=>by have:=ag.out h;omega,fun h=>by have:=ag.out h;omega,(al.out.put j.out ..),(au.out.put (by omega) ..),(j.out.put ..),(n.out.other (by omega) ..)⟩
   case measure=>omega
  |false=>
   obtain⟨N,V,Z,M,L,O,Y,J,U,K,A,o,X⟩:=j.out.box
   go_wp2_with fail
   refine (zg C gt I D S2 H z2 d 4 zbN _ ak.out.tok ac (by decide)).mono ?_
   rintro e w3 ⟨rfl,aa⟩
   rw[hc]
   replace j:=zc (j.out.below aa)
   replace n:=zc (n.out.below aa)
   have ai:=zc (ar.out.below aa)
   have ab:=zc (ak.out.later aa)
   clear aa ar ak
   clear N V Z M L O Y J U K A o X
   cases ad:(decide (z2<0)&&isT C H.pos 4 zaT) with
   |true=>
    obtain⟨N,V,Z,M,L,O,Y,J,U,K,A,o,X⟩:=j.out.box
    go_wp2_with fail
    refine (zg C gt I D S2 H z2 d 4 zaT _ ab.out.tok ac (by decide)).mono ?_
    rintro e w4 ⟨rfl,E⟩
    rw[ad]
    replace j:=zc (j.out.below E)
    replace n:=zc (n.out.below E)
    have ah:=zc (ai.out.below E)
    have ae:=zc (ab.out.later E)
    clear E ai ab
    clear N V Z M L O Y J U K A o X
    obtain⟨N,V,Z,M,L,O,Y,J,U,K,A,o,X⟩:=j.out.box
    go_wp2_with fail
    refine (zg C gt I D S2 H z2 d 4 zaT _ ae.out.tok ac (by decide)).mono ?_
    rintro e w5 ⟨rfl,an⟩
    rw[ad]
    replace j:=zc (j.out.below an)
    replace n:=zc (n.out.below an)
    have ao:=zc (ah.out.below an)
    have aq:=zc (ae.out.later an)
    clear an ah ae
    clear N V Z M L O Y J U K A o X
    rw[Bool.and_eq_true,decide_eq_true_eq] at ad
    obtain⟨hz,hs⟩:=ad
    have hp:H.pos<C.ts.length:=zaz hs (by decide)
    obtain⟨rfl,rfl⟩:=za7 aw.out hz
    have aK:=aC.out hz
    have aH:=az.out hz
    skip
    obtain⟨N,V,Z,M,L,O,Y,J,U,K,A,o,X⟩:=j.out.box
    go_wp2_with fail
    refine (HP.out (.ok (adv H)) S2 (adv H) (-1) d _ (zU _) ((aq.out.adv hp).set j.out 1 _) (fun _=>by rw[zw];omega) ap).mono ?_
    rintro e w6 ⟨S6,q6,z6,rfl,i6,m6,s6⟩
    replace j:=zc ((j.out.at1 _).stp s6)
    replace n:=zc ((n.out.set_other (by omega) 1 _).stp s6)
    have am:Hid (SB w.heap.size S w S6 w6):=(ao.out.set (by omega) 1 _).step s6
    clear ao
    have aj:=zc m6
    have ax:=zc i6
    clear i6 m6 s6 aq
    clear N V Z M L O Y J U K A o X
    obtain⟨N,V,Z,M,L,O,Y,J,U,K,A,o,X⟩:=j.out.box
    unfold pv
    go_upto_region 9 with fail
    refine zJ (R:=fun W=>Bx gt S6 W (w.heap.size) _∧Bx gt S6 W (w.heap.size+1) _∧Mem C gt I D S6 q6 W∧SB w.heap.size S w S6 W) ⟨(j.out.put ..),(n.out.other (by omega) ..),(aj.out.put j.out ..),(am.out.put (by omega) ..)⟩ ?_
    clear N V Z M L O Y J U K A o X
    clear j n am aj
    rintro w7 ⟨X0,X1,m7,t7⟩
    have j:=zc X0
    have n:=zc X1
    have al:=zc m7
    have au:=zc t7
    clear m7 t7 X0 X1
    obtain⟨N,V,Z,M,L,O,Y,J,U,K,A,o,X⟩:=j.out.box
    have aA:=al.out.inv.ex
    go_wp2_with fail
    refine (zc3 C gt I D _ S6 q6 z6 d ⟨7,0,sNone,sNone,(H.ex.length:Int)-1,(q6.ex.length:Int)-1⟩ _ ax.out al.out (fun h=>zjh ax.out h)).mono ?_
    rintro e w8 ⟨S8,q8,z8,rfl,i8,m8,s8⟩
    replace j:=zc (j.out.stp s8)
    replace n:=zc (n.out.stp s8)
    have aI:=zc (au.out.step s8)
    clear au
    have aG:=zc m8
    have aF:=zc i8
    clear i8 m8 s8 al
    clear N V Z M L O Y J U K A o X
    have HI:Hid (Is (bd (bd (.ok (adv H)) (pE C .prod d)) fun q'=>zM C ⟨7,0,sNone,sNone,(H.ex.length:Int)-1,(q'.ex.length:Int)-1⟩ q') q8 z8):=by rw[←zg0 ax.out (fun q'=>⟨7,0,sNone,sNone,(H.ex.length:Int)-1,(q'.ex.length:Int)-1⟩)];exact aF.out
    have ag:Hid (z8<0→H.pos+1≤q8.pos):=fun h=>zji HI.out h
    obtain⟨N,V,Z,M,L,O,Y,J,U,K,A,o,X⟩:=j.out.box
    unfold pv
    go_wp2
    go_roundg (gk-1)
    case rel=>exact⟨_,S8,q8,z8,HI.out,by rw[←ay.out];exact (zjj (d:=d) (by rw[hs,Bool.or_true]) (show zcH C H.pos=7 by rw[zcH,hs];rfl) hp).symm,fun h=>by have:=ag.out h;omega,fun h=>by have:=ag.out h;omega,(aG.out.put j.out ..),(aI.out.put (by omega) ..),(j.out.put ..),(n.out.other (by omega) ..)⟩
    case measure=>omega
   |false=>
    obtain⟨N,V,Z,M,L,O,Y,J,U,K,A,o,X⟩:=j.out.box
    go_wp2_with fail
    refine (zg C gt I D S2 H z2 d 4 zaT _ ab.out.tok ac (by decide)).mono ?_
    rintro e w4 ⟨rfl,E⟩
    rw[ad]
    replace j:=zc (j.out.below E)
    replace n:=zc (n.out.below E)
    have ah:=zc (ai.out.below E)
    have ae:=zc (ab.out.later E)
    clear E ai ab
    clear N V Z M L O Y J U K A o X
    obtain⟨N,V,Z,M,L,O,Y,J,U,K,A,o,X⟩:=j.out.box
    obtain⟨b0,b1,b2,b3,b4,b5,b6,b7,b8,b9,aN,aM,bf⟩:=n.out.box
    go_wp2
    refine bodyPost_ret (results_cell_row rfl _ _ (w.heap.size+1) 53 _ (0,0) _ rfl ((n.out.put ..)).heap Tryz.underlying53 rfl (by kernel_rfl)) rfl ?_
    exact zW rfl (show Is (bd x (pE C .sum d)) H z2 from by rw[←ay.out];exact zpp aw.out hc ad) (ae.out.put n.out ..) (ah.out.put (by omega) ..)
theorem zpr (C:Cx) (o j h:Nat):zgz C o j h 0:=by
 intro x S q z d w I D J K
 by_cases E:z<0
 ·have:=J E
  omega
 ·obtain⟨e,rfl,rfl⟩:=zcN I E
  rw[zd7]
  obtain⟨H,n,A⟩:=C
  cases A with
  |true=>exact zjd H n o j h S q d w D e
  |false=>exact zje H n o j h S q d w D e
theorem zps (C:Cx) (n j h:Nat) (m:Nat):SumOK C n j h m:=by
 induction m with
 |zero=>exact zjl (zjk (zpr C n j h))
 |succ m o=>exact zjl (zjk (zpi o))
theorem zcE (C:Cx) (n j h:Nat) (x:PR) (S:Sv) (q:PS) (z:Int) (w:World) (A:Is x q z) (o:Mem C n j h S q w):
  Calls Tryz.prog 75 #[pv C n j S q z 0] w (Out C n j h (bd x (pE C .sum 0)) 0 S w):=
 zps C n j h (C.ts.length+1) x S q z 0 w A o (fun _=>by omega) (by omega)
theorem Is2.withN {y:PRN} {q q':PS} {z z':Int} {n:ByteArray} {F:PR→ByteArray→PR} (h:Is2 y q z n) (w: ∀e n,F (.error e) n= .error e) (j:Is (F (zaG y) n) q' z'):Is2 (withN y F) q' z' n:=by
 cases y with
 |ok a=>
  obtain⟨_,_,rfl⟩:=h
  have e:zaG (.ok a)= .ok a.1:=rfl
  rw[e] at j
  show Is2 (bd (F (.ok a.1) a.2) fun q=>.ok (q,a.2)) q' z' a.2
  cases o:F (.ok a.1) a.2 with
  |ok b=>rw[o] at j;exact⟨j.1,j.2,rfl⟩
  |error e=>rw[o] at j;exact j
 |error e=>
  have A:zaG (.error e)= .error e:=rfl
  rw[A,w] at j
  exact j
theorem zjm {C:Cx} {z j h:Nat} {y:PRN} {d:Nat} {S n:Sv} {w o:World} {q':PS} {z':Int} {q:ByteArray} {v:Value} (D:v=pv C z j n q' z' d) (A:Is2 y q' z' q) (E:Mem C z j h n q' o) (H:SB w.heap.size S w n o):zcW C z j h y d S w (.returned (.tuple #[v,.string q])) o:=
 ⟨n,q',z',q,by rw[D],A,E,H.done⟩
theorem zg1 (C:Cx) (D A j:Nat) (S:Sv) (q:PS) (w:World) (hm:Mem C D A j S q w):
  Calls Tryz.prog 72 #[pv C D A S q (-1) 0] w (zcW C D A j (zcm C q) 0 S w):=by
 have HM:=zc hm
 clear hm
 unfold pv
 go_enter Tryz.func72,Tryz.ntmps72
 go_wp2_with fail
 refine (zaC C D A j (.ok q) S q (-1) 0 zA _ (zU q) ((HM.out.alloc _).alloc _)).mono ?_
 rintro e w1 ⟨S1,q1,z1,rfl,i1,m1,s1⟩
 obtain⟨X0,V,t1⟩:=HM.out.two2 s1
 have o:=zc X0
 have h:=zc V
 have N:=zc m1
 have ad:=zc t1
 have ai:=zc i1
 clear X0 V i1 m1 t1 s1
 go_wp2_with fail
 refine (zaU C D A j _ S1 q1 z1 0 false _ ai.out N.out).mono ?_
 rintro e w2 ⟨S2,q2,z2,n2,rfl,i2,m2,s2⟩
 replace o:=zc (o.out.stp s2)
 replace h:=zc (h.out.stp s2)
 have K:=zc (ad.out.step s2)
 clear ad
 have I:=zc m2
 have O:=zc i2
 clear i2 m2 s2 N
 have al:w.heap.size+1<w2.heap.size:=h.out.lt
 unfold pv
 go_wp2_with fail
 refine (zab C D A j _ S2 q2 z2 0 cEq _ O.out.fst (I.out.alloc _)).mono ?_
 rintro e w3 ⟨S3,q3,z3,rfl,i3,m3,s3⟩
 replace o:=zc ((o.out.alloc _).stp s3)
 replace h:=zc ((h.out.alloc _).stp s3)
 replace z:=zc ((Bx.new I.out _).stp s3)
 have ab:Hid (SB w.heap.size S w S3 w3):=(K.out.alloc _).step s3
 clear K
 have Z:=zc m3
 have ah:=zc i3
 clear i3 m3 s3 I
 go_wp2_with fail
 refine (zcE C D A j _ S3 q3 z3 _ ah.out Z.out).mono ?_
 rintro e w4 ⟨S4,q4,z4,rfl,i4,m4,X⟩
 replace o:=zc (o.out.stp X)
 replace h:=zc (h.out.stp X)
 replace z:=zc (z.out.stp X)
 have Y:=zc (ab.out.step X)
 clear ab
 have M:=zc m4
 have ak:=zc i4
 clear i4 m4 X Z
 go_wp2_with fail
 refine (zab C D A j _ S4 q4 z4 0 cSemi _ ak.out M.out).mono ?_
 rintro e w5 ⟨J,q5,z5,rfl,i5,m5,s5⟩
 replace o:=zc (o.out.stp s5)
 replace h:=zc (h.out.stp s5)
 replace z:=zc (z.out.stp s5)
 have aa:=zc (Y.out.step s5)
 clear Y
 have ae:=zc m5
 have L:=zc i5
 clear i5 m5 s5 M
 obtain⟨c0,c1,c2,c3,c4,c5,c6,c7,c8,c9,H,E,cf⟩:=z.out.box
 unfold pv
 go_upto_region 3 with fail
 refine zJ (R:=fun W=>Bx D J W (w.heap.size) _∧Bx D J W (w.heap.size+1) _∧Bx D J W (w2.heap.size) _∧Mem C D A j J q5 W∧SB w.heap.size S w J W) ⟨(o.out.other (by omega) ..),(h.out.other (by omega) ..),(z.out.put ..),(ae.out.put z.out ..),(aa.out.put (by omega) ..)⟩ ?_
 clear c0 c1 c2 c3 c4 c5 c6 c7 c8 c9 H E cf
 clear o h z aa ae
 rintro w6 ⟨X0,V,X2,m6,t6⟩
 have o:=zc X0
 have h:=zc V
 have z:=zc X2
 have ac:=zc m6
 have U:=zc t6
 clear m6 t6 X0 V X2
 obtain⟨c0,c1,c2,c3,c4,c5,c6,c7,c8,c9,H,E,cf⟩:=z.out.box
 go_wp2_with fail
 refine (zc4 C D A j _ J q5 z5 0 1 n2 _ L.out ac.out (zaZ L.out)).mono ?_
 rintro e w7 ⟨S7,q7,z7,rfl,i7,m7,s7⟩
 replace o:=zc (o.out.stp s7)
 replace h:=zc (h.out.stp s7)
 replace z:=zc (z.out.stp s7)
 have af:=zc (U.out.step s7)
 clear U
 have ag:=zc m7
 have aj:=zc i7
 clear i7 m7 s7 ac
 clear c0 c1 c2 c3 c4 c5 c6 c7 c8 c9 H E cf
 obtain⟨b0,b1,b2,b3,b4,b5,b6,b7,b8,b9,an,am,bf⟩:=h.out.box
 unfold pv
 go_wp2
 refine bodyPost_ret (za8 rfl _ _ (w.heap.size+1) 53 _ (0,0) _ rfl ((h.out.put ..)).heap Tryz.underlying53 rfl (by kernel_rfl)) rfl ?_
 exact zjm rfl (O.out.withN (F:=fun x n=>_) (fun _ _=>rfl) aj.out) (ag.out.put h.out ..) (af.out.put (by omega) ..)
theorem zg2 (C:Cx) (D A z:Nat) (S:Sv) (q:PS) (w:World) (hm:Mem C D A z S q w):
  Calls Tryz.prog 73 #[pv C D A S q (-1) 0] w (zcW C D A z (fnP C q) 0 S w):=by
 have HM:=zc hm
 clear hm
 unfold pv
 go_enter Tryz.func73,Tryz.ntmps73
 go_wp2_with fail
 refine (zaC C D A z (.ok q) S q (-1) 0 zO _ (zU q) ((HM.out.alloc _).alloc _)).mono ?_
 rintro e w1 ⟨S1,q1,z1,rfl,i1,m1,s1⟩
 obtain⟨X0,N,t1⟩:=HM.out.two2 s1
 have o:=zc X0
 have j:=zc N
 have an:=zc m1
 have aM:=zc t1
 have aU:=zc i1
 clear X0 N i1 m1 t1 s1
 go_wp2_with fail
 refine (zaU C D A z _ S1 q1 z1 0 false _ aU.out an.out).mono ?_
 rintro e w2 ⟨S2,q2,z2,n2,rfl,i2,m2,s2⟩
 replace o:=zc (o.out.stp s2)
 replace j:=zc (j.out.stp s2)
 have ak:=zc (aM.out.step s2)
 clear aM
 have ai:=zc m2
 have aq:=zc i2
 clear i2 m2 s2 an
 have a0:w.heap.size+1<w2.heap.size:=j.out.lt
 unfold pv
 go_wp2_with fail
 refine (zab C D A z _ S2 q2 z2 0 zm _ aq.out.fst (ai.out.alloc _)).mono ?_
 rintro e w3 ⟨S3,q3,z3,rfl,i3,m3,s3⟩
 replace o:=zc ((o.out.alloc _).stp s3)
 replace j:=zc ((j.out.alloc _).stp s3)
 replace h:=zc ((Bx.new ai.out _).stp s3)
 have aH:Hid (SB w.heap.size S w S3 w3):=(ak.out.alloc _).step s3
 clear ak
 have az:=zc m3
 have aT:=zc i3
 clear i3 m3 s3 ai
 go_wp2_with fail
 refine (zab C D A z _ S3 q3 z3 0 zay _ aT.out az.out).mono ?_
 rintro e w4 ⟨S4,q4,z4,rfl,i4,m4,s4⟩
 replace o:=zc (o.out.stp s4)
 replace j:=zc (j.out.stp s4)
 replace h:=zc (h.out.stp s4)
 have aA:=zc (aH.out.step s4)
 clear aH
 have am:=zc m4
 have aZ:=zc i4
 clear i4 m4 s4 az
 go_wp2_with fail
 refine (zab C D A z _ S4 q4 z4 0 zF _ aZ.out am.out).mono ?_
 rintro e w5 ⟨S5,q5,z5,rfl,i5,m5,s5⟩
 replace o:=zc (o.out.stp s5)
 replace j:=zc (j.out.stp s5)
 replace h:=zc (h.out.stp s5)
 have aF:=zc (aA.out.step s5)
 clear aA
 have aO:=zc m5
 have aR:=zc i5
 clear i5 m5 s5 am
 obtain⟨Z,M,U,L,O,Y,J,c7,K,c9,H,E,cf⟩:=h.out.box
 unfold pv
 go_upto_region 3 with fail
 refine zJ (R:=fun W=>Bx D S5 W (w.heap.size) _∧Bx D S5 W (w.heap.size+1) _∧Bx D S5 W (w2.heap.size) _∧Mem C D A z S5 q5 W∧SB w.heap.size S w S5 W) ⟨(o.out.other (by omega) ..),(j.out.other (by omega) ..),(h.out.put ..),(aO.out.put h.out ..),(aF.out.put (by omega) ..)⟩ ?_
 clear Z M U L O Y J c7 K c9 H E cf
 clear o j h aF aO
 rintro w6 ⟨X0,N,X2,m6,t6⟩
 have o:=zc X0
 have j:=zc N
 have h:=zc X2
 have aJ:=zc m6
 have aw:=zc t6
 clear m6 t6 X0 N X2
 obtain⟨Z,M,U,L,O,Y,J,c7,K,c9,H,E,cf⟩:=h.out.box
 go_wp2_with fail
 refine (zaC C D A z _ S5 q5 z5 0 zd6 _ aR.out aJ.out).mono ?_
 rintro e w7 ⟨S7,q7,z7,rfl,i7,m7,s7⟩
 replace o:=zc (o.out.stp s7)
 replace j:=zc (j.out.stp s7)
 replace h:=zc (h.out.stp s7)
 have al:=zc (aw.out.step s7)
 clear aw
 have ao:=zc m7
 have aX:=zc i7
 clear i7 m7 s7 aJ
 clear Z M U L O Y J c7 K c9 H E cf
 go_wp2_with fail
 refine (zcE C D A z _ S7 q7 z7 _ aX.out ao.out).mono ?_
 rintro e w8 ⟨S8,q8,z8,rfl,i8,m8,s8⟩
 replace o:=zc (o.out.stp s8)
 replace j:=zc (j.out.stp s8)
 replace h:=zc (h.out.stp s8)
 have aB:=zc (al.out.step s8)
 clear al
 have au:=zc m8
 have aS:=zc i8
 clear i8 m8 s8 ao
 obtain⟨Z,M,U,L,O,Y,J,c7,K,c9,H,E,cf⟩:=h.out.box
 unfold pv
 go_upto_region 4 with fail
 refine zJ (R:=fun W=>Bx D S8 W (w.heap.size) _∧Bx D S8 W (w.heap.size+1) _∧Bx D S8 W (w2.heap.size) _∧Mem C D A z S8 q8 W∧SB w.heap.size S w S8 W) ⟨(o.out.other (by omega) ..),(j.out.other (by omega) ..),(h.out.put ..),(au.out.put h.out ..),(aB.out.put (by omega) ..)⟩ ?_
 clear Z M U L O Y J c7 K c9 H E cf
 clear o j h aB au
 rintro w9 ⟨X0,N,X2,m9,t9⟩
 have o:=zc X0
 have j:=zc N
 have h:=zc X2
 have aL:=zc m9
 have aN:=zc t9
 clear m9 t9 X0 N X2
 obtain⟨Z,M,U,L,O,Y,J,c7,K,c9,H,E,cf⟩:=h.out.box
 go_wp2_with fail
 refine (zab C D A z _ S8 q8 z8 0 cSemi _ aS.out aL.out).mono ?_
 rintro e a8 ⟨aY,aV,aQ,rfl,aj,ax,aa⟩
 replace o:=zc (o.out.stp aa)
 replace j:=zc (j.out.stp aa)
 replace h:=zc (h.out.stp aa)
 have ae:=zc (aN.out.step aa)
 clear aN
 have ac:=zc ax
 have aG:=zc aj
 clear aj ax aa aL
 clear Z M U L O Y J c7 K c9 H E cf
 go_wp2_with fail
 refine (zab C D A z _ aY aV aQ 0 zbd _ aG.out ac.out).mono ?_
 rintro e a5 ⟨I,ap,aW,rfl,aE,ay,V⟩
 replace o:=zc (o.out.stp V)
 replace j:=zc (j.out.stp V)
 replace h:=zc (h.out.stp V)
 have ah:=zc (ae.out.step V)
 clear ae
 have ad:=zc ay
 have af:=zc aE
 clear aE ay V ac
 obtain⟨Z,M,U,L,O,Y,J,c7,K,c9,H,E,cf⟩:=h.out.box
 unfold pv
 go_upto_region 5 with fail
 refine zJ (R:=fun W=>Bx D I W (w.heap.size) _∧Bx D I W (w.heap.size+1) _∧Bx D I W (w2.heap.size) _∧Mem C D A z I ap W∧SB w.heap.size S w I W) ⟨(o.out.other (by omega) ..),(j.out.other (by omega) ..),(h.out.put ..),(ad.out.put h.out ..),(ah.out.put (by omega) ..)⟩ ?_
 clear Z M U L O Y J c7 K c9 H E cf
 clear o j h ah ad
 rintro a2 ⟨X0,N,X2,aI,aC⟩
 have o:=zc X0
 have j:=zc N
 have h:=zc X2
 have ag:=zc aI
 have ab:=zc aC
 clear aI aC X0 N X2
 obtain⟨Z,M,U,L,O,Y,J,c7,K,c9,H,E,cf⟩:=h.out.box
 go_wp2_with fail
 refine (zc4 C D A z _ I ap aW 0 2 n2 _ af.out ag.out (zaZ af.out)).mono ?_
 rintro e a1 ⟨a6,a9,a3,rfl,av,aP,X⟩
 replace o:=zc (o.out.stp X)
 replace j:=zc (j.out.stp X)
 replace h:=zc (h.out.stp X)
 have aK:=zc (ab.out.step X)
 clear ab
 have ar:=zc aP
 have aD:=zc av
 clear av aP X ag
 clear Z M U L O Y J c7 K c9 H E cf
 obtain⟨b0,b1,b2,b3,b4,b5,b6,b7,b8,b9,a7,a4,bf⟩:=j.out.box
 unfold pv
 go_wp2
 refine bodyPost_ret (za8 rfl _ _ (w.heap.size+1) 53 _ (0,0) _ rfl ((j.out.put ..)).heap Tryz.underlying53 rfl (by kernel_rfl)) rfl ?_
 exact zjm rfl (aq.out.withN (F:=fun x n=>_) (fun _ _=>rfl) aD.out) (ar.out.put j.out ..) (aK.out.put (by omega) ..)
end Go.Proofs.YticdggnnpjachaaGreat
