/-
  A row of pairs of names beside a program under way. No program is spoken of but for the numbers of its types.
  What spec's l4Tail answers: the walk.
  What spec's l4List answers: the walk.
  What spec's l4Part answers,if l4Sum answers so behind it: the walks.
  What spec's l4Part answers where no number and no bracket stands,in a script: the walks.
  What spec's l4Part answers where no number and no bracket stands: the walks.
  What spec's l4Part,l4Product and l4Sum answer: the walks of the two loops,and the three together.
  What spec's l4Let and l4Fn answer: the walks.
-/
import Derived.Deep.DeepCutAuto
import Derived.Test.YticdggnnpjachaaGreatCbSpecBox
namespace Go.Proofs.YticdggnnpjachaaGreat
set_option maxRecDepth 100000
set_option maxHeartbeats 6400000
open Go.RowKit Go.PlainAid
structure Row (S:Sv) (w:World) (base B:Nat) (r:Rw) (l:List Ep):Prop where
 own:OwnR w base 102 4 r l.length (l.flatMap epL)
 free: ∀k,r.blk=some k→¬S.has k
 new: ∀k,r.blk=some k→B≤k
 addr: ∃g,r.a=some ⟨g,0,none⟩
theorem Row.ne {n b:Nat} {S:Sv} {w:World} {j B:Nat} {r:Rw} {l:List Ep} {o:Array Value} (h:Row S w j B r l) (q:Bx n S w b o): ∀k,r.blk=some k→k≠b:=by
 rintro k z rfl
 obtain⟨_,_,c,g⟩:=h.own.typed z
 rw[q.heap] at g
 simp only[Option.some.injEq,Obj.cells.injEq] at g
 exact absurd g.2.1 (by decide)
theorem Row.stp {S q:Sv} {w o:World} {j B:Nat} {r:Rw} {l:List Ep} (h:Row S w j B r l) (s:Stp S w q o):Row q o j B r l:=
 ⟨h.own.keep fun k n=>s.block k (h.own.typed n).2.1 (h.free k n),fun k n g=>(s.sub k g).elim (h.free k n) fun z=>by have:=(h.own.typed n).2.1;omega,h.new,h.addr⟩
theorem Row.below {S:Sv} {w n:World} {j B:Nat} {r:Rw} {l:List Ep} (h:Row S w j B r l) (s:Below w.heap.size w n):Row S n j B r l:=h.stp (Stp.below s)
theorem Row.alloc {S:Sv} {w:World} {j B:Nat} {r:Rw} {l:List Ep} (h:Row S w j B r l) (o:Obj):Row S (w.alloc o) j B r l:=h.below ((Below.refl _ _).alloc (Nat.le_refl _) _)
theorem Row.drew {S:Sv} {w:World} {j B:Nat} {r:Rw} {l:List Ep} (h:Row S w j B r l):Row S w.drew j B r l:=⟨h.own,h.free,h.new,h.addr⟩
theorem Row.set {n b:Nat} {S:Sv} {w:World} {j B:Nat} {r:Rw} {l:List Ep} {o:Array Value} (h:Row S w j B r l) (q:Bx n S w b o) (i:Nat) (u:Value):Row S (w.setCell ⟨b,i,none⟩ u) j B r l:=
 ⟨h.own.keep fun k z=>zi (h.ne q k z),h.free,h.new,h.addr⟩
theorem Row.put {H b:Nat} {S:Sv} {w:World} {j B:Nat} {r:Rw} {l:List Ep} {J:Array Value} (h:Row S w j B r l) (M:Bx H S w b J) (K O D I L N z A q E n o:Value):Row S (set12 w b K O D I L N z A q E n o) j B r l:=
 ⟨h.own.keep fun k Q=>zeQ (h.ne M k Q) _ _ _ _ _ _ _ _ _ _ _ _,h.free,h.new,h.addr⟩
theorem Row.nil {C:Cx} {z n j B:Nat} {S:Sv} {q:PS} {w:World} (h:Mem C z n j S q w) (A:B≤w.heap.size):Row S (w.alloc (.cells #[] 102 (0,0))) j B ⟨some ⟨w.heap.size,0,none⟩,0⟩ []:=by
 refine⟨World.ownsRow_lit w #[] 0 h.base (by unfold maxLen;omega) rfl,fun k o g=>?_,fun k o=>?_,⟨_,rfl⟩⟩
 ·simp only[Rw.blk,Value.ownBlock,Option.some.injEq] at o
  have:=(h.own.has g).2
  omega
 ·simp only[Rw.blk,Value.ownBlock,Option.some.injEq] at o
  omega
theorem Row.grow {C:Cx} {I A j B:Nat} {S:Sv} {q:PS} {W D:World} {r H:Rw} {l:List Ep} {x:Ep} (h:Row S W j B r l) (z:Mem C I A j S q W) (O:B≤W.heap.size) (M:W.grownBy D r.blk) (L:OwnR D j 102 4 H (l.length+1) (l.flatMap epL++epL x)) (E:H.blk=r.blk∨H.blk=some W.heap.size):
  Row S D j B H (l++[x])∧Mem C I A j S q D:=by
 refine⟨⟨?_,fun k o g=>?_,fun k o=>?_,L.addr.resolve_left (by omega)⟩,?_⟩
 ·have e:(l++[x]).length=l.length+1:=by simp
  rw[e]
  simpa using L
 ·rcases E with e|e
  ·exact h.free k (by rw[←e];exact o) g
  ·have N:W.heap.size=k:=Option.some.inj (e.symm.trans o)
   have:=(z.own.has g).2
   omega
 ·rcases E with e|e
  ·exact h.new k (by rw[←e];exact o)
  ·have N:W.heap.size=k:=Option.some.inj (e.symm.trans o)
   omega
 ·have n: ∀k,k<W.heap.size→r.blk≠some k→D.heap[k]? =W.heap[k]?:=fun k o J=>M.block k o fun e=>J e.symm
  refine⟨z.own.keep fun k o=>n k (z.own.has o).2 fun e=>h.free k e o,z.inv,zb0 z.tok (n I (zan z.tok).1 fun e=>?_),z.few,Nat.le_trans z.base M.size⟩
  obtain⟨_,_,c,g⟩:=h.own.typed e
  obtain⟨Q,K⟩:=zfr z.tok
  rw[g] at K
  simp only[Option.some.injEq,Obj.cells.injEq] at K
  exact absurd K.2.1 (by decide)
theorem Row.bx {q b:Nat} {S:Sv} {W o:World} {j B:Nat} {r:Rw} {l:List Ep} {z:Array Value} (h:Row S W j B r l) (n:Bx q S W b z) (A:W.grownBy o r.blk):Bx q S o b z:=
 ⟨(A.block b n.lt fun e=>h.ne n b e.symm rfl).trans n.heap,n.free,n.ne⟩
theorem Row.sb {S S0:Sv} {w W q:World} {n:Nat} {B:Nat} {r:Rw} {l:List Ep} (h:Row S W n B r l) (j:SB B S0 w S W) (o:W.grownBy q r.blk):SB B S0 w S q:=
 ⟨o.os.trans j.os,o.tape.trans j.tape,o.output.trans j.output,Nat.le_trans j.size o.size,j.low,fun k A z=>(o.block k (by have:=j.size;have:=j.low;omega) fun e=>by have:=h.new k e.symm;omega).trans (j.block k A z),j.sub⟩
theorem Mem.list3 {C:Cx} {D A j:Nat} {S n:Sv} {q:PS} {w o:World} {z cb:Array Value} (h:Mem C D A j S q w) (s:Stp S (((w.alloc (.cells z 53 (0,0))).alloc (.cells cb 53 (0,0))).alloc (.cells #[] 102 (0,0))) n o):
  Bx D n o w.heap.size z∧Bx D n o (w.heap.size+1) cb∧Row n o j w.heap.size ⟨some ⟨w.heap.size+1+1,0,none⟩,0⟩ []∧SB w.heap.size S w n o:=by
 refine⟨(((Bx.new h _).alloc _).alloc _).stp s,?_,?_,(SB.start (zcJ w _ _ _)).step s⟩
 ·have:=((Bx.new (h.alloc (.cells z 53 (0,0))) cb).alloc (.cells #[] 102 (0,0))).stp s
  rw[zk] at this
  exact this
 ·have:=(Row.nil (B:=w.heap.size) ((h.alloc (.cells z 53 (0,0))).alloc (.cells cb 53 (0,0))) (zaT w _ _).size).stp s
  rw[zc1] at this
  exact this
def Is3 (y:PRL) (q:PS) (z:Int) (l:List Ep):Prop:=
 match y with
 | .ok a=>q=a.1∧z= -1∧l=a.2
 | .error e=>z=(e:Int)
def zmX (C:Cx) (gt cap base:Nat) (y:PRL) (d:Nat) (S:Sv) (w:World) (e:Ending) (w':World):Prop:=
 ∃S' q' z' r l,e= .returned (.tuple #[pv C gt cap S' q' z' d,.slice r.a l.length r.cap,.bool (za8 l)])∧Is3 y q' z' l∧Mem C gt cap base S' q' w'∧Stp S w S' w'∧Row S' w' base w.heap.size r l∧l.length≤4001
theorem zi4 (l:List Ep) (x:Ep):za8 (l++[x])=(za8 l||(x.loc.toList==[100,101,102,97,117,108,116])):=by simp[za8]
theorem zmY {n:Func} {p u v:Tmp} {o:TypeId} (h:n.results= #[.cell p o,.tmp u,.tmp v]) (tmps:Array Value) (P:Program) (w:World):
  (results n tmps).run P w=((asAddr (tmps.getD p undef)).run P w).andThen fun a q=>((loadVar o a).run P q).andThen fun x j=>.ok (.tuple #[x,tmps.getD u undef,tmps.getD v undef]) j:=by
 simp only[results,h]
 simp[Sem.run_bind,Result.andThen]
theorem zi5 {P:Program} {q:Func} {p u v:Tmp} {j:TypeId} (h:q.results= #[.cell p j,.tmp u,.tmp v]) (tmps:Array Value) (w:World) (g:Nat) (t:TypeId) (n:Array Value) (o:Nat×Nat) (d:TypeDesc)
  (E:tmps.getD p undef= .pointer (some ⟨g,0,none⟩)) (D:w.heap[g]? =some (.cells n t o))
  (z:P.underlying j=some d) (A:(match d with| .struct _| .array _ _=>true|_=>false)=true) (H:(P.info? j).map (·.size)=some n.size):
  (results q tmps).run P w= .ok (.tuple #[.agg n,tmps.getD u undef,tmps.getD v undef]) w:=by
 rw[zmY h,E]
 simp[asAddr,Result.andThen,run_loadVar_row w g t j n o d D z A H]
theorem zbh {C:Cx} {x:PR} {k:Int} {s:ByteArray} {q:PS} {z:Int} (h:Is (bd x (zd C k s)) q z):z<0→1≤q.pos:=by
 intro j
 obtain⟨e,_⟩:=zaC h j
 obtain⟨a,_,n⟩:=zf e
 obtain⟨rfl,_⟩:=zb4 n
 simp[adv]
theorem zgD (C:Cx) (N z o:Nat) (S:Sv) (q:PS) (d:Nat) (nm:ByteArray) (w:World) (hm:Mem C N z o S q w) (hp:1≤q.pos):
  Calls Tryz.prog 191 #[pv C N z S q (-1) d,.string nm] w (Out C N z o (zbc C nm q) d S w):=by
 have HM:=zc hm
 have A:=hm.tok
 have O:=hm.few
 clear hm
 cases hi:isT C q.pos 4 zn with
 |true=>
  have HV:Hid (zbc C nm q=bd (bd (bd (.ok q) (zd C 4 zn)) (zd C 4 za0)) (zN C ⟨3,0,nm,sNone,0,0⟩)):=if_pos hi
  unfold pv
  go_enter Tryz.func191,Tryz.ntmps191
  go_wp2_with fail
  refine (zh C N z o S q (-1) d 4 zn _ (zq (zq A _) _) O (by decide)).mono ?_
  rintro e w1 ⟨rfl,H⟩
  rw[hi]
  obtain⟨U,X1,m1,t1⟩:=HM.out.two H
  have n:=zc U
  have j:=zc X1
  have E:=zc m1
  have J:=zc t1
  clear U X1 m1 t1 H
  clear A
  obtain⟨a0,Z,a2,a3,a4,X,V,a7,a8,a9,D,I,Y⟩:=n.out.box
  go_wp2_with fail
  refine (zad C N z o (.ok q) S q (-1) d zn _ (zX q) E.out).mono ?_
  rintro e w2 ⟨S2,q2,z2,rfl,i2,m2,L⟩
  replace n:=zc (n.out.stp L)
  replace j:=zc (j.out.stp L)
  have K:=zc (J.out.step L)
  clear J
  have M:=zc m2
  have Q:=zc i2
  clear i2 m2 L E
  clear a0 Z a2 a3 a4 X V a7 a8 a9 D I Y
  go_wp2_with fail
  refine (zad C N z o _ S2 q2 z2 d za0 _ Q.out M.out).mono ?_
  rintro e w3 ⟨S3,q3,z3,rfl,i3,m3,s3⟩
  replace n:=zc (n.out.stp s3)
  replace j:=zc (j.out.stp s3)
  have aa:=zc (K.out.step s3)
  clear K
  have ac:=zc m3
  have ab:=zc i3
  clear i3 m3 s3 M
  obtain⟨a0,Z,a2,a3,a4,X,V,a7,a8,a9,D,I,Y⟩:=n.out.box
  unfold pv
  go_wp2_with fail
  refine (zcK C N z o _ S3 q3 z3 d ⟨3,0,nm,sNone,0,0⟩ _ ab.out (ac.out.put n.out ..) (zbh ab.out)).mono ?_
  rintro e w4 ⟨S4,q4,z4,rfl,i4,m4,s4⟩
  replace n:=zc ((n.out.put ..).stp s4)
  replace j:=zc ((j.out.other (by omega) ..).stp s4)
  have ag:Hid (SB w.heap.size S w S4 w4):=(aa.out.put (by omega) ..).step s4
  clear aa
  have ai:=zc m4
  have ah:=zc i4
  clear i4 m4 s4 ac
  clear a0 Z a2 a3 a4 X V a7 a8 a9 D I Y
  obtain⟨b0,b1,b2,b3,b4,b5,b6,b7,b8,b9,ae,ad,bf⟩:=j.out.box
  unfold pv
  go_wp2
  refine bodyPost_ret (results_cell_row rfl _ _ (w.heap.size+1) 53 _ (0,0) _ rfl ((j.out.put ..)).heap Tryz.underlying53 rfl (by kernel_rfl)) rfl ?_
  rw[HV.out]
  exact zY rfl ah.out (ai.out.put j.out ..) (ag.out.put (by omega) ..)
 |false=>
  have HV:Hid (zbc C nm q=bd (.ok q) (zN C ⟨2,0,nm,sNone,0,0⟩)):=by show zbc C nm q=_;rw[zbc,hi];rfl
  unfold pv
  go_enter Tryz.func191,Tryz.ntmps191
  go_wp2_with fail
  refine (zh C N z o S q (-1) d 4 zn _ (zq (zq A _) _) O (by decide)).mono ?_
  rintro e w1 ⟨rfl,H⟩
  rw[hi]
  obtain⟨U,X1,m1,t1⟩:=HM.out.two H
  have n:=zc U
  have j:=zc X1
  have E:=zc m1
  have J:=zc t1
  clear U X1 m1 t1 H
  clear A
  obtain⟨a0,Z,a2,a3,a4,X,V,a7,a8,a9,D,I,Y⟩:=n.out.box
  go_wp2_with fail
  refine (zcK C N z o (.ok q) S q (-1) d ⟨2,0,nm,sNone,0,0⟩ _ (zX q) E.out (fun _=>hp)).mono ?_
  rintro e w2 ⟨S2,q2,z2,rfl,i2,m2,L⟩
  replace n:=zc (n.out.stp L)
  replace j:=zc (j.out.stp L)
  have K:=zc (J.out.step L)
  clear J
  have M:=zc m2
  have Q:=zc i2
  clear i2 m2 L E
  clear a0 Z a2 a3 a4 X V a7 a8 a9 D I Y
  obtain⟨b0,b1,b2,b3,b4,b5,b6,b7,b8,b9,ae,ad,bf⟩:=j.out.box
  unfold pv
  go_wp2
  refine bodyPost_ret (results_cell_row rfl _ _ (w.heap.size+1) 53 _ (0,0) _ rfl ((j.out.put ..)).heap Tryz.underlying53 rfl (by kernel_rfl)) rfl ?_
  rw[HV.out]
  exact zY rfl Q.out (M.out.put j.out ..) (K.out.put (by omega) ..)
theorem zmZ {C:Cx} {n:Bool} {l:List Ep} {Y:PRN} {K D:ByteArray} {N z I:PS} {M J A:Int} (L:Is2 Y N M K) (o:Is2 (bd Y (asP C n)) z J D) (E:(decide (J<0)&&isT C z.pos 4 zbw)=false) (j:Is (bd (zaK (bd Y (asP C n))) (zd C 4 zbm)) I A):
  Is3 (bd Y fun a=>bd (asP C n a) fun b=>if isT C b.1.pos 4 zbw then zax C n (adv b.1) (l++[⟨0,b.2,a.2,sNone⟩]) else bd (zd C 4 zbm b.1) fun q'=>.ok (q',l++[⟨0,b.2,a.2,sNone⟩])) I A (l++[⟨0,D,K,sNone⟩]):=by
 cases Y with
 |error e=>exact j
 |ok a=>
  obtain⟨_,_,rfl⟩:=L
  rw[zz] at o j ⊢
  cases H:asP C n a with
  |error e=>rw[H] at j;exact j
  |ok b=>
   rw[H] at o j
   obtain⟨rfl,rfl,rfl⟩:=o
   rw[Bool.and_eq_false_iff] at E
   rw[zz,E.resolve_left (by decide)]
   have e:bd (zaK (.ok b)) (zd C 4 zbm)=zd C 4 zbm b.1:=rfl
   rw[e] at j
   show Is3 (bd (zd C 4 zbm b.1) _) _ _ _
   cases q:zd C 4 zbm b.1 with
   |error e=>rw[q] at j;exact j
   |ok c=>rw[q] at j;exact⟨j.1,j.2,rfl⟩
theorem zna {C:Cx} {n:Bool} {l:List Ep} {o M z:PS} {J I:ByteArray} {L A:Int} (D:Is2 (bd (.ok o) (zj C true)) M L J) (j:Is2 (bd (bd (.ok o) (zj C true)) (asP C n)) z A I) (N:A<0) (K:isT C z.pos 4 zbw=true):
  (bd (.ok o) fun q=>zax C n q l)=(bd (.ok (adv z)) fun q=>zax C n q (l++[⟨0,I,J,sNone⟩]))∧o.pos+1≤z.pos:=by
 rw[zz] at D j ⊢
 rw[zz,zfs]
 cases E:zj C true o with
 |error e=>rw[E] at j;have:A=(e:Int):=j;omega
 |ok a=>
  rw[E] at D j
  obtain⟨_,_,rfl⟩:=D
  rw[zz] at j ⊢
  obtain⟨rfl,_⟩:=zbd E
  cases H:asP C n (adv o,(ze C o.pos).text) with
  |error e=>rw[H] at j;have:A=(e:Int):=j;omega
  |ok b=>
   rw[H] at j
   obtain⟨rfl,rfl,rfl⟩:=j
   have:=zeA H
   rw[zz,K]
   exact⟨rfl,this⟩
theorem znb {C:Cx} {j:Bool} {x:PR} {q o:PS} {z n:Int} {l:List Ep} (D:Is x q z) (E: ¬z<0) (A:Is (bd x (zd C 4 zbm)) o n):Is3 (bd x fun q=>zax C j q l) o n l:=by
 obtain⟨e,rfl,_⟩:=zdc D E
 exact A
theorem znc {C:Cx} {j:Bool} {Y:PRN} {o E:PS} {n A:Int} {I z:ByteArray} (q:Is2 Y o n I) (D:(decide (n<0)&&isT C o.pos 1 sAs)=true) (H:Is2 (bd (.ok (adv o)) (zj C j)) E A z):Is2 (bd Y (asP C j)) E A z:=by
 rw[Bool.and_eq_true,decide_eq_true_eq] at D
 cases Y with
 |error e=>have:n=(e:Int):=q;omega
 |ok a=>
  obtain⟨rfl,_,_⟩:=q
  rw[zz,asP,if_pos D.2]
  exact H
theorem znd {C:Cx} {o:Bool} {Y:PRN} {n:PS} {j:Int} {q:ByteArray} (z:Is2 Y n j q) (A:(decide (j<0)&&isT C n.pos 1 sAs)=false) (D:((q.toList==[100,101,102,97,117,108,116])&& !exp)=true):Is2 (bd Y (asP C o)) n (zbp C n.pos j) q:=by
 cases Y with
 |error e=>
  have h:j=(e:Int):=z
  show zbp C n.pos j=(e:Int)
  rw[zbp,if_neg (by omega)]
  exact h
 |ok a=>
  obtain⟨rfl,rfl,rfl⟩:=z
  rw[Bool.and_eq_false_iff] at A
  rw[zz,asP,A.resolve_left (by decide),D]
  rfl
theorem zi6 {C:Cx} {n:Bool} {Y:PRN} {o:PS} {j:Int} {q:ByteArray} (z:Is2 Y o j q) (A:(decide (j<0)&&isT C o.pos 1 sAs)=false) (D:((q.toList==[100,101,102,97,117,108,116])&& !exp)=false):Is2 (bd Y (asP C n)) o j q:=by
 cases Y with
 |error e=>exact z
 |ok a=>
  obtain⟨rfl,rfl,rfl⟩:=z
  rw[Bool.and_eq_false_iff] at A
  rw[zz,asP,A.resolve_left (by decide),D]
  exact⟨rfl,rfl,rfl⟩
theorem zi7 (C:Cx) (K J z:Nat) (S:Sv) (q:PS) (d:Nat) (ah:Bool) (w:World) (hm:Mem C K J z S q w):
  Calls Tryz.prog 130 #[pv C K J S q (-1) d,.bool ah] w (zmX C K J z (zcw C ah q) d S w):=by
 obtain⟨i0,hi,aG,aX,aW⟩:=info_parts Tryz.infoExp
 have HM:=zc hm
 have aj:=hm.few
 clear hm
 unfold pv
 go_enter Tryz.func130,Tryz.ntmps130
 go_wp2_with fail
 refine (zad C K J z (.ok q) S q (-1) d zJ _ (zX q) (((HM.out.alloc _).alloc _).alloc _)).mono ?_
 rintro e w1 ⟨S1,q1,z1,rfl,i1,m1,s1⟩
 obtain⟨X0,X1,R0,t1⟩:=HM.out.list3 s1
 have j:=zc X0
 have n:=zc X1
 have A:=zc R0
 have aY:=zc t1
 have aN:=zc m1
 have aI:=zc i1
 clear i1 m1 s1 X0 X1 R0 t1
 obtain⟨a0,Y,a2,a3,a4,V,U,a7,Z,a9,D,E,X⟩:=j.out.box
 unfold pv
 go_wp2
 go_loopg [7,8] (C.ts.length+1) (fun k o an wr=>∃(x':PR) (S':Sv) (q':PS) (z':Int) (r:Rw) (l:List Ep),Is x' q' z'∧bd x' (fun q=>zax C ah q l)=zcw C ah q∧(z'<0→C.ts.length-q'.pos<k)∧(l.length≤q'.pos∨l=[])∧o= .slice r.a l.length r.cap∧an= .bool (za8 l)∧Mem C K J z S' q' wr∧SB w.heap.size S w S' wr∧Bx K S' wr w.heap.size #[.slice (some ⟨K,0,none⟩) C.ts.length J,.int .i64 q'.pos,.int .i64 C.fin,.bool C.scr,.slice S'.rq.a q'.rq.length S'.rq.cap,.slice S'.im.a q'.im.length S'.im.cap,.slice S'.ep.a q'.ep.length S'.ep.cap,.slice S'.st.a q'.st.length S'.st.cap,.slice S'.ex.a q'.ex.length S'.ex.cap,.slice S'.la.a q'.la.length S'.la.cap,.int .i64 z',.int .i64 d]∧Bx K S' wr (w.heap.size+1) #[.slice none 0 0,.int .i64 0,.int .i64 0,.bool false,.slice none 0 0,.slice none 0 0,.slice none 0 0,.slice none 0 0,.slice none 0 0,.slice none 0 0,.int .i64 0,.int .i64 0]∧Row S' wr z w.heap.size r l)
 case atStart=>exact⟨_,S1,q1,z1,_,[],aI.out,rfl,fun _=>by omega,.inr rfl,rfl,rfl,(aN.out.put j.out ..),(aY.out.put (by omega) ..),(j.out.put ..),(n.out.other (by omega) ..),(A.out.put j.out ..)⟩
 case round=>
  obtain⟨x2,S2,q2,z2,r,l,i2,e2,l2,n2,rfl,rfl,m2,t2,X0,X1,R0⟩:=hrel
  have j:=zc X0
  have n:=zc X1
  have ap:=zc m2
  have am:=zc t2
  have aw:=zc i2
  have ay:=zc e2
  have aV:=zc l2
  have A:=zc R0
  have be:l.length≤4000:=n2.elim (fun g=>by have:=m2.inv.pos;omega) (fun g=>by rw[g];simp)
  have aZ:=zc n2
  clear X0 X1 i2 m2 t2 e2 l2 R0 n2
  by_cases hz:z2<0
  ·skip
   obtain⟨rfl,rfl⟩:=zaC aw.out hz
   have bc:=aV.out hz
   obtain⟨a0,Y,a2,a3,a4,V,U,a7,Z,a9,D,E,X⟩:=j.out.box
   go_wp2_with fail
   refine (zbe C K J z (.ok q2) S2 q2 (-1) d true _ (zX q2) ap.out).mono ?_
   rintro e w3 ⟨Q,q3,z3,n3,rfl,i3,m3,s3⟩
   replace j:=zc (j.out.stp s3)
   replace n:=zc (n.out.stp s3)
   have aq:=zc (am.out.step s3)
   have I:Hid (Row Q w3 z w.heap.size r l):=A.out.stp s3
   clear A
   have A:=zc I
   clear I
   clear am
   have al:=zc m3
   have ac:=zc i3
   clear i3 m3 s3 ap
   clear a0 Y a2 a3 a4 V U a7 Z a9 D E X
   have ba:w.heap.size+1<w3.heap.size:=n.out.lt
   unfold pv
   go_upto_region 6 with fail
   refine zL (R:=fun W=>Bx K Q W (w.heap.size) _∧Bx K Q W (w.heap.size+1) _∧Bx K Q W (w3.heap.size) _∧Row Q W z w.heap.size r l∧Mem C K J z Q q3 W∧SB w.heap.size S w Q W) ⟨(j.out.alloc _),(n.out.alloc _),(Bx.new al.out _),(A.out.alloc _),(al.out.alloc _),(aq.out.alloc _)⟩ ?_
   clear j n aq al
   clear A
   rintro w4 ⟨X0,X1,X2,R0,m4,t4⟩
   have A:=zc R0
   clear R0
   have j:=zc X0
   have n:=zc X1
   have L:=zc X2
   have aD:=zc m4
   have aA:=zc t4
   clear m4 t4 X0 X1 X2
   obtain⟨a0,Y,a2,a3,a4,V,U,a7,Z,a9,D,E,X⟩:=j.out.box
   obtain⟨c0,c1,c2,c3,c4,c5,c6,c7,c8,c9,aF,aM,cf⟩:=L.out.box
   go_upto_region 7 with fail
   refine zL (R:=fun W=>Bx K Q W (w.heap.size) _∧Bx K Q W (w.heap.size+1) _∧Bx K Q W (w3.heap.size) _∧Row Q W z w.heap.size r l∧Mem C K J z Q q3 W∧SB w.heap.size S w Q W) ⟨(j.out.put ..),(n.out.other (by omega) ..),(L.out.other (by omega) ..),(A.out.put j.out ..),(aD.out.put j.out ..),(aA.out.put (by omega) ..)⟩ ?_
   clear a0 Y a2 a3 a4 V U a7 Z a9 D E X c0 c1 c2 c3 c4 c5 c6 c7 c8 c9 aF aM cf
   clear j n L aA aD
   clear A
   rintro w5 ⟨X0,X1,X2,R0,m5,t5⟩
   have A:=zc R0
   clear R0
   have j:=zc X0
   have n:=zc X1
   have L:=zc X2
   have ag:=zc m5
   have ak:=zc t5
   clear m5 t5 X0 X1 X2
   skip
   obtain⟨a0,Y,a2,a3,a4,V,U,a7,Z,a9,D,E,X⟩:=j.out.box
   skip
   go_wp2_with fail
   refine (zh C K J z Q q3 z3 d 1 sAs _ ag.out.tok aj (by decide)).mono ?_
   rintro e w6 ⟨rfl,ai⟩
   replace j:=zc (j.out.below ai)
   replace n:=zc (n.out.below ai)
   replace L:=zc (L.out.below ai)
   have O:=zc (ak.out.below ai)
   have M:=zc (ag.out.later ai)
   have I:Hid (Row Q w6 z w.heap.size r l):=A.out.below ai
   clear A
   have A:=zc I
   clear I
   clear ai ak ag
   clear a0 Y a2 a3 a4 V U a7 Z a9 D E X
   go_upto_if 28 with fail
   go_cut [11] (fun aS wx=>∃(N:Sv) (q5:PS) (z5:Int) (n5:ByteArray),aS= .string n5∧Is2 (bd (bd (.ok q2) (zj C true)) (asP C ah)) q5 z5 n5∧Mem C K J z N q5 wx∧SB w.heap.size S w N wx∧Bx K N wx w.heap.size #[.slice (some ⟨K,0,none⟩) C.ts.length J,.int .i64 q5.pos,.int .i64 C.fin,.bool C.scr,.slice N.rq.a q5.rq.length N.rq.cap,.slice N.im.a q5.im.length N.im.cap,.slice N.ep.a q5.ep.length N.ep.cap,.slice N.st.a q5.st.length N.st.cap,.slice N.ex.a q5.ex.length N.ex.cap,.slice N.la.a q5.la.length N.la.cap,.int .i64 z5,.int .i64 d]∧Bx K N wx (w.heap.size+1) #[.slice none 0 0,.int .i64 0,.int .i64 0,.bool false,.slice none 0 0,.slice none 0 0,.slice none 0 0,.slice none 0 0,.slice none 0 0,.slice none 0 0,.int .i64 0,.int .i64 0]∧Row N wx z w.heap.size r l)
   case first=>
    cases hb:(decide (z3<0)&&isT C q3.pos 1 sAs) with
    |true=>
     have aP:q3.pos<C.ts.length:=by rw[Bool.and_eq_true] at hb;exact za1 hb.2 (by decide)
     obtain⟨a0,Y,a2,a3,a4,V,U,a7,Z,a9,D,E,X⟩:=j.out.box
     have aR:z3= -1:=by rw[Bool.and_eq_true,decide_eq_true_eq] at hb;exact (zaC ac.out.fst hb.1).2
     subst aR
     go_wp2_with fail
     refine (zbe C K J z (.ok (adv q3)) Q (adv q3) (-1) d ah _ (zX _) ((M.out.adv aP).set j.out 1 _)).mono ?_
     rintro e w7 ⟨S7,q7,z7,n7,rfl,i7,m7,s7⟩
     have ad:Hid (Bx K S7 w7 _ _):=(j.out.at1 _).stp s7
     have ae:Hid (Bx K S7 w7 _ _):=(n.out.set_other (by omega) 1 _).stp s7
     have au:Hid (Bx K S7 w7 _ _):=(L.out.set_other (by omega) 1 _).stp s7
     have ab:Hid (SB w.heap.size S w S7 w7):=(O.out.set (by omega) 1 _).step s7
     replace A:=zc ((A.out.set j.out 1 _).stp s7)
     clear j n L O
     have j:=zc ad
     have n:=zc ae
     have L:=zc au
     clear ad ae au
     have aa:=zc m7
     have aU:=zc i7
     clear i7 m7 s7 M
     clear a0 Y a2 a3 a4 V U a7 Z a9 D E X
     have bb:w.heap.size+1<w7.heap.size:=n.out.lt
     have aE:w3.heap.size<w7.heap.size:=L.out.lt
     unfold pv
     go_upto_region 11 with fail
     refine zL (R:=fun W=>Bx K S7 W (w.heap.size) _∧Bx K S7 W (w.heap.size+1) _∧Bx K S7 W (w3.heap.size) _∧Bx K S7 W (w7.heap.size) _∧Row S7 W z w.heap.size r l∧Mem C K J z S7 q7 W∧SB w.heap.size S w S7 W) ⟨(j.out.alloc _),(n.out.alloc _),(L.out.alloc _),(Bx.new aa.out _),(A.out.alloc _),(aa.out.alloc _),(ab.out.alloc _)⟩ ?_
     clear j n L ab aa
     clear A
     rintro w8 ⟨X0,X1,X2,X3,R0,m8,t8⟩
     have A:=zc R0
     clear R0
     have j:=zc X0
     have n:=zc X1
     have L:=zc X2
     have aH:=zc X3
     have ax:=zc m8
     have av:=zc t8
     clear m8 t8 X0 X1 X2 X3
     obtain⟨a0,Y,a2,a3,a4,V,U,a7,Z,a9,D,E,X⟩:=j.out.box
     obtain⟨d0,d1,d2,d3,d4,d5,d6,d7,d8,d9,bg,bi,df⟩:=aH.out.box
     go_wp2
     go_meet
     case rel=>exact⟨S7,q7,z7,n7,rfl,znc ac.out hb aU.out,(ax.out.put j.out ..),(av.out.put (by omega) ..),(j.out.put ..),(n.out.other (by omega) ..),(A.out.put j.out ..)⟩
    |false=>
     cases e3:(n3.toList==[100,101,102,97,117,108,116]) with
     |true=>
      cases ah with
      |false=>
       obtain⟨a0,Y,a2,a3,a4,V,U,a7,Z,a9,D,E,X⟩:=j.out.box
       go_wp2_with fail
       refine (zda C K J z Q q3 z3 d _ M.out.tok aj).mono ?_
       rintro e w7 ⟨rfl,H⟩
       replace j:=zc (j.out.below H)
       replace n:=zc (n.out.below H)
       replace L:=zc (L.out.below H)
       have ab:=zc (O.out.below H)
       have aa:=zc (M.out.later H)
       have I:Hid (Row Q w7 z w.heap.size r l):=A.out.below H
       clear A
       have A:=zc I
       clear I
       clear H O M
       clear a0 Y a2 a3 a4 V U a7 Z a9 D E X
       obtain⟨a0,Y,a2,a3,a4,V,U,a7,Z,a9,D,E,X⟩:=j.out.box
       unfold pv
       go_wp2
       go_meet
       case rel=>exact⟨Q,q3,(zbp C q3.pos z3),n3,rfl,znd ac.out hb (by rw[e3];rfl),(aa.out.put j.out ..),(ab.out.put (by omega) ..),(j.out.put ..),(n.out.other (by omega) ..),(A.out.put j.out ..)⟩
      |true=>
       obtain⟨a0,Y,a2,a3,a4,V,U,a7,Z,a9,D,E,X⟩:=j.out.box
       go_wp2
       go_meet
       case rel=>exact⟨Q,q3,z3,n3,rfl,zi6 ac.out hb (by rw[e3];rfl),M.out,O.out,j.out,n.out,A.out⟩
     |false=>
      obtain⟨a0,Y,a2,a3,a4,V,U,a7,Z,a9,D,E,X⟩:=j.out.box
      go_wp2
      go_meet
      case rel=>exact⟨Q,q3,z3,n3,rfl,zi6 ac.out hb (by rw[e3];rfl),M.out,O.out,j.out,n.out,A.out⟩
   case rest=>
    obtain⟨N,q5,z5,n5,rfl,i5,m5,t5,X0,X1,R0⟩:=hcut
    clear j n L A M O
    have j:=zc X0
    have n:=zc X1
    have ag:=zc m5
    have ak:=zc t5
    have ao:=zc i5
    have A:=zc R0
    clear X0 X1 i5 m5 t5 R0
    go_upto_region 15 with fail
    go_cut [8] (fun s8 wx=>s8= .bool (za8 l||(n3.toList==[100,101,102,97,117,108,116]))∧wx=wc)
    case first=>
     cases ha:za8 l with
     |true=>
      go_wp2
      go_meet
      case rel=>exact⟨by rw[ha];rfl,rfl⟩
     |false=>
      cases e3:(n3.toList==[100,101,102,97,117,108,116]) with
      |true=>
       go_wp2
       go_meet
       case rel=>exact⟨by rw[ha,e3];rfl,rfl⟩
      |false=>
       go_wp2
       go_meet
       case rel=>exact⟨by rw[ha,e3];rfl,rfl⟩
    case rest=>
     obtain⟨rfl,rfl⟩:=hcut
     have ar:=fun o=>A.out.own.alloc o
     have aT:=ag.out.base
     go_wp2_with (at_builtin;refine zcu _ rfl _ _ 24 rfl z 102 i0 _ 4 56 Tryz.underlying24 hi aG aX aW rfl (by decide) (by decide) r l.length _ (by rfl) (ar _) wc.heap.size (epL ⟨0,n5,n3,sNone⟩) (by rfl) (by exact heap_alloc_new wc _) rfl (by intro u hu;simp[epL] at hu;rcases hu with rfl|rfl|rfl|rfl<;>rfl) (by omega) (by rw[zk];omega) ?_)
     intro r' w6 hr hg aB
     obtain⟨R6,m6⟩:=(A.out.alloc _).grow (x:=⟨0,n5,n3,sNone⟩) (ag.out.alloc _) (by rw[zk];have:=ak.out.size;omega) hg hr (by rw[zk];exact aB)
     have ad:Hid (Bx K N w6 _ _):=(A.out.alloc _).bx (j.out.alloc _) hg
     have ae:Hid (Bx K N w6 _ _):=(A.out.alloc _).bx (n.out.alloc _) hg
     have O:Hid (SB w.heap.size S w N w6):=(A.out.alloc _).sb (ak.out.alloc _) hg
     have M:=zc m6
     clear j n A hr hg aB ar aT ag ak m6
     have j:=zc ad
     have n:=zc ae
     have A:=zc R6
     clear ad ae R6
     cases hc:(decide (z5<0)&&isT C q5.pos 4 zbw) with
     |true=>
      obtain⟨a0,Y,a2,a3,a4,V,U,a7,Z,a9,D,E,X⟩:=j.out.box
      go_wp2_with fail
      refine (zh C K J z N q5 z5 d 4 zbw _ M.out.tok aj (by decide)).mono ?_
      rintro e w7 ⟨rfl,H⟩
      rw[hc]
      replace j:=zc (j.out.below H)
      replace n:=zc (n.out.below H)
      have ab:=zc (O.out.below H)
      have aa:=zc (M.out.later H)
      have I:Hid (Row N w7 z w.heap.size r' (l++[⟨0,n5,n3,sNone⟩])):=A.out.below H
      clear A
      have A:=zc I
      clear I
      clear H O M
      clear a0 Y a2 a3 a4 V U a7 Z a9 D E X
      rw[Bool.and_eq_true,decide_eq_true_eq] at hc
      obtain⟨az,aC⟩:=hc
      have aK:q5.pos<C.ts.length:=za1 aC (by decide)
      obtain⟨E5,P5⟩:=zna (l:=l) ac.out ao.out az aC
      have HE:=zc E5
      obtain rfl:z5= -1:=(zaC ao.out.fst az).2
      have aL:Hid ((l++[(⟨0,n5,n3,sNone⟩:Ep)]).length≤q5.pos+1∨l++[(⟨0,n5,n3,sNone⟩:Ep)]=[]):=.inl (by simp only[List.length_append,List.length_singleton];exact aZ.out.elim (fun g=>by omega) (fun g=>by rw[g];simp))
      clear E5
      obtain⟨a0,Y,a2,a3,a4,V,U,a7,Z,a9,D,E,X⟩:=j.out.box
      go_wp2
      go_roundg (gk-1)
      case rel=>exact⟨.ok (adv q5),N,adv q5,-1,r',l++[⟨0,n5,n3,sNone⟩],zX _,by rw[←ay.out];exact HE.out.symm,fun _=>by rw[zx];omega,aL.out,by simp,by rw[zi4],((aa.out.adv aK).set j.out 1 _),(ab.out.set (by omega) 1 _),(j.out.at1 _),(n.out.set_other (by omega) 1 _),(A.out.set j.out 1 _)⟩
      case measure=>omega
     |false=>
      obtain⟨a0,Y,a2,a3,a4,V,U,a7,Z,a9,D,E,X⟩:=j.out.box
      go_wp2_with fail
      refine (zh C K J z N q5 z5 d 4 zbw _ M.out.tok aj (by decide)).mono ?_
      rintro e w7 ⟨rfl,H⟩
      rw[hc]
      replace j:=zc (j.out.below H)
      replace n:=zc (n.out.below H)
      have ab:=zc (O.out.below H)
      have aa:=zc (M.out.later H)
      have I:Hid (Row N w7 z w.heap.size r' (l++[⟨0,n5,n3,sNone⟩])):=A.out.below H
      clear A
      have A:=zc I
      clear I
      clear H O M
      clear a0 Y a2 a3 a4 V U a7 Z a9 D E X
      obtain⟨a0,Y,a2,a3,a4,V,U,a7,Z,a9,D,E,X⟩:=j.out.box
      go_wp2_with fail
      refine (zad C K J z _ N q5 z5 d zbm _ ao.out.fst aa.out).mono ?_
      rintro e w8 ⟨S8,q8,z8,rfl,i8,m8,s8⟩
      replace j:=zc (j.out.stp s8)
      replace n:=zc (n.out.stp s8)
      have av:=zc (ab.out.step s8)
      have I:Hid (Row S8 w8 z w.heap.size r' (l++[⟨0,n5,n3,sNone⟩])):=A.out.stp s8
      clear A
      have A:=zc I
      clear I
      clear ab
      have ax:=zc m8
      have aJ:=zc i8
      clear i8 m8 s8 aa
      clear a0 Y a2 a3 a4 V U a7 Z a9 D E X
      obtain⟨b0,b1,b2,b3,b4,b5,b6,b7,b8,b9,aQ,aO,bf⟩:=n.out.box
      unfold pv
      go_wp2
      refine bodyPost_ret (zi5 rfl _ _ (w.heap.size+1) 53 _ (0,0) _ rfl ((n.out.put ..)).heap Tryz.underlying53 rfl (by kernel_rfl)) rfl ?_
      exact⟨S8,q8,z8,r',l++[⟨0,n5,n3,sNone⟩],by simp[pv,zi4],by rw[←ay.out,zz,zfs];exact zmZ ac.out ao.out hc aJ.out,(ax.out.put n.out ..),((av.out.put (by omega) ..)).done,(A.out.put n.out ..),by simp;omega⟩
  ·skip
   obtain⟨a0,Y,a2,a3,a4,V,U,a7,Z,a9,D,E,X⟩:=j.out.box
   go_wp2_with fail
   refine (zad C K J z _ S2 q2 z2 d zbm _ aw.out ap.out).mono ?_
   rintro e w3 ⟨Q,q3,z3,rfl,i3,m3,s3⟩
   replace j:=zc (j.out.stp s3)
   replace n:=zc (n.out.stp s3)
   have aq:=zc (am.out.step s3)
   have I:Hid (Row Q w3 z w.heap.size r l):=A.out.stp s3
   clear A
   have A:=zc I
   clear I
   clear am
   have al:=zc m3
   have ac:=zc i3
   clear i3 m3 s3 ap
   clear a0 Y a2 a3 a4 V U a7 Z a9 D E X
   obtain⟨b0,b1,b2,b3,b4,b5,b6,b7,b8,b9,aQ,aO,bf⟩:=n.out.box
   unfold pv
   go_wp2
   refine bodyPost_ret (zi5 rfl _ _ (w.heap.size+1) 53 _ (0,0) _ rfl ((n.out.put ..)).heap Tryz.underlying53 rfl (by kernel_rfl)) rfl ?_
   exact⟨Q,q3,z3,r,l,rfl,by rw[←ay.out];exact znb aw.out (by omega) ac.out,(al.out.put n.out ..),((aq.out.put (by omega) ..)).done,(A.out.put n.out ..),by omega⟩
def SumOK (C:Cx) (gt cap base m:Nat):Prop:=∀(x:PR) (S:Sv) (q:PS) (z:Int) (d:Nat) (w:World),Is x q z→Mem C gt cap base S q w→(z<0→C.ts.length-q.pos<m)→d≤20→
 Calls Tryz.prog 75 #[pv C gt cap S q z d] w (Out C gt cap base (bd x (pE C .sum d)) d S w)
theorem zf5 {C:Cx} {o:Bool} {q z:PS} {j:Int} {n:ByteArray} (h:Is2 (bd (.ok q) (zj C o)) z j n) (A:zD C q.pos o=true):z=adv q∧j= -1∧n=(ze C q.pos).text:=by
 rw[zz,zj,if_pos A] at h
 exact h
theorem zf6 {C:Cx} {o:Bool} {q A:PS} {j:Int} {z:ByteArray} (h:Is2 (bd (.ok q) (zj C o)) A j z) (n:zD C q.pos o=false):j=(zr C q.pos:Int):=by
 rw[zz,zj,n] at h
 exact h
theorem zi8 {C:Cx} {n:ByteArray} {y:Except Nat (PS×ByteArray)} {q:PS} {z:Int} {f:ByteArray} (h:Is2 y q z f) (j:(decide (z<0)&&isT C q.pos 4 zn)=true):bd (bd (bd (zaK y) (zd C 4 zn)) (zd C 4 za0)) (zN C ⟨5,0,n,f,0,0⟩)=bd y fun a=>zbx C n a.2 a.1:=by
 rw[Bool.and_eq_true,decide_eq_true_eq] at j
 cases y with
 |ok a=>
  obtain⟨rfl,_,rfl⟩:=h
  show _=zbx C n a.2 a.1
  rw[zbx,if_pos j.2]
  rfl
 |error e=>rfl
theorem zi9 {C:Cx} {n:ByteArray} {y:Except Nat (PS×ByteArray)} {q:PS} {z:Int} {f:ByteArray} (h:Is2 y q z f) (j:(decide (z<0)&&isT C q.pos 4 zn)=false):bd (zaK y) (zN C ⟨4,0,n,f,0,0⟩)=bd y fun a=>zbx C n a.2 a.1:=by
 cases y with
 |ok a=>
  obtain⟨rfl,rfl,rfl⟩:=h
  rw[Bool.and_eq_false_iff] at j
  show _=zbx C n a.2 a.1
  rw[zbx,j.resolve_left (by decide)]
  rfl
 |error e=>rfl
theorem ziA {C:Cx} {o:Bool} {x:PR} {q:PS} {z:Int} {n:ByteArray} (h:Is2 (bd x (zj C o)) q z n):z<0→1≤q.pos:=by
 intro D
 cases j:bd x (zj C o) with
 |error e=>rw[j] at h;have:z=(e:Int):=h;omega
 |ok a=>
  rw[j] at h
  obtain⟨rfl,_,_⟩:=h
  obtain⟨b,_,A⟩:=zf j
  obtain⟨rfl,_⟩:=zbd A
  simp[adv]
theorem zne (C:Cx) (H o j:Nat) (S:Sv) (q:PS) (d:Nat) (w:World) (D:Mem C H o j S q w) (M:((ze C q.pos).kind==2)=true):
  Calls Tryz.prog 168 #[pv C H o S q (-1) d] w (Out C H o j (pE C .part d q) d S w):=by
 have HM:=zc D
 have z:=D.tok
 have Z:C.ts.length≤4000:=D.few
 have U:=(zan D.tok).1
 clear D
 have Q:q.pos<C.ts.length:=zfn M (by decide)
 have Y:Hid (pE C .part d q=bd (.ok (adv q)) (zN C ⟨1,(ze C q.pos).num,sNone,sNone,0,0⟩)):=by show pE C .part d q=_;rw[zb6,if_pos M];rfl
 obtain⟨c0,_,X,_⟩:=z.cells Q (d:=⟨0,sNone,0,C.fin⟩)
 change _=some (Value.int .i64 (ze C q.pos).kind) at c0
 change _=some (Value.int .i64 (ze C q.pos).num) at X
 have E:Hid (Mem C H o j S (adv q) w):=HM.out.adv Q
 generalize (ze C q.pos).kind=kd at c0 M
 have HN:Hid (∀n,n=(ze C q.pos).num→pE C .part d q=bd (.ok (adv q)) (zN C ⟨1,n,sNone,sNone,0,0⟩)):=fun n e=>by rw[e];exact Y.out
 generalize I:(ze C q.pos).num=nm at X
 have K:Hid (nm=(ze C q.pos).num):=I.symm
 clear I Y z
 unfold pv
 go_enter Tryz.func168,Tryz.ntmps168
 go_wp2_with fail
 refine (zcK C H o j (.ok (adv q)) S (adv q) (-1) d ⟨1,nm,sNone,sNone,0,0⟩ _ (zX _) ((E.out.alloc _).alloc _) (fun _=>by simp[adv])).mono ?_
 rintro e w1 ⟨S1,q1,z1,rfl,i1,O,s1⟩
 obtain⟨X0,X1,V⟩:=E.out.two2 s1
 have A:=zc X1
 have J:=zc O
 have L:=zc V
 have N:=zc i1
 clear X0 X1 i1 O V s1
 obtain⟨b0,b1,b2,b3,b4,b5,b6,b7,b8,b9,ab,aa,bf⟩:=A.out.box
 unfold pv
 go_wp2
 refine bodyPost_ret (results_cell_row rfl _ _ (w.heap.size+1) 53 _ (0,0) _ rfl ((A.out.put ..)).heap Tryz.underlying53 rfl (by kernel_rfl)) rfl ?_
 rw[HN.out nm K.out]
 exact zY rfl N.out (J.out.put A.out ..) (L.out.put (by omega) ..)
theorem znf (C:Cx) (K n j:Nat) (S:Sv) (q:PS) (d:Nat) (w:World) (I:Mem C K n j S q w) (hk:((ze C q.pos).kind==2)=false) (U:isT C q.pos 4 zn=true) (hd:20≤d) (ac:d≤20):
  Calls Tryz.prog 168 #[pv C K n S q (-1) d] w (Out C K n j (pE C .part d q) d S w):=by
 have HM:=zc I
 have A:=I.tok
 have D:C.ts.length≤4000:=I.few
 have Y:=(zan I.tok).1
 clear I
 have hp:q.pos<C.ts.length:=za1 U (by decide)
 have HV:Hid (pE C .part d q= .error (zr C q.pos)):=by show pE C .part d q=_;rw[zb6,hk,U];simp[hd]
 have qd:decide ((20:Int)≤(d:Int))=true:=decide_eq_true (by omega)
 obtain⟨c0,_,_,_⟩:=A.cells hp (d:=⟨0,sNone,0,C.fin⟩)
 change _=some (Value.int .i64 (ze C q.pos).kind) at c0
 generalize (ze C q.pos).kind=kd at c0 hk
 unfold pv
 go_enter Tryz.func168,Tryz.ntmps168
 go_wp2_with fail
 refine (zh C K n j S q (-1) d 4 zn _ (zq (zq A _) _) D (by decide)).mono ?_
 rintro e w1 ⟨rfl,L⟩
 rw[U]
 obtain⟨X,X1,V,Z⟩:=HM.out.two L
 have H:=zc X
 have o:=zc X1
 have E:=zc V
 have J:=zc Z
 clear X X1 V Z L
 obtain⟨a0,a1,a2,a3,a4,a5,a6,a7,a8,a9,O,Q,af⟩:=H.out.box
 go_wp2_with fail
 refine (zda C K n j S q (-1) d _ E.out.tok D).mono ?_
 rintro e w2 ⟨rfl,z⟩
 replace H:=zc (H.out.below z)
 replace o:=zc (o.out.below z)
 have M:=zc (J.out.below z)
 have N:=zc (E.out.later z)
 clear z J E
 clear a0 a1 a2 a3 a4 a5 a6 a7 a8 a9 O Q af
 obtain⟨b0,b1,b2,b3,b4,b5,b6,b7,b8,b9,ab,aa,bf⟩:=o.out.box
 unfold pv
 go_wp2
 refine bodyPost_ret (results_cell_row rfl _ _ (w.heap.size+1) 53 _ (0,0) _ rfl ((o.out.put ..)).heap Tryz.underlying53 rfl (by kernel_rfl)) rfl ?_
 rw[HV.out]
 exact zY rfl (show Is (.error (zr C q.pos)) q _ from rfl) (N.out.put o.out ..) (M.out.put (by omega) ..)
theorem zng (C:Cx) (H z o:Nat) (S:Sv) (q:PS) (d:Nat) (w:World) (L:Mem C H z o S q w) (hk:((ze C q.pos).kind==2)=false) (ho:isT C q.pos 4 zn=true) (hd:d<20) (hS:SumOK C H z o (C.ts.length-q.pos)):
  Calls Tryz.prog 168 #[pv C H z S q (-1) d] w (Out C H z o (pE C .part d q) d S w):=by
 have HM:=zc L
 have I:=L.tok
 have Y:C.ts.length≤4000:=L.few
 have ae:=(zan L.tok).1
 clear L
 have hp:q.pos<C.ts.length:=za1 ho (by decide)
 have HV:Hid (pE C .part d q=bd (bd (.ok (adv q)) (pE C .sum (d+1))) (zd C 4 za0)):=by show pE C .part d q=_;rw[zb6,hk,ho,if_neg (by decide),if_pos rfl,if_neg (by omega)];rfl
 have HS:=zc hS
 clear hS
 have qd:decide ((20:Int)≤(d:Int))=false:=decide_eq_false (by omega)
 obtain⟨c0,_,_,_⟩:=I.cells hp (d:=⟨0,sNone,0,C.fin⟩)
 change _=some (Value.int .i64 (ze C q.pos).kind) at c0
 generalize (ze C q.pos).kind=kd at c0 hk
 unfold pv
 go_enter Tryz.func168,Tryz.ntmps168
 go_wp2_with fail
 refine (zh C H z o S q (-1) d 4 zn _ (zq (zq I _) _) Y (by decide)).mono ?_
 rintro e w1 ⟨rfl,N⟩
 rw[ho]
 obtain⟨K,X,m1,t1⟩:=HM.out.two N
 have j:=zc K
 have n:=zc X
 have M:=zc m1
 have V:=zc t1
 clear K X m1 t1 N
 obtain⟨a0,a1,a2,a3,a4,a5,Z,a7,a8,a9,A,E,af⟩:=j.out.box
 go_wp2_with fail
 refine (HS.out (.ok (adv q)) S (adv q) (-1) (d+1) _ (zX _) (((M.out.adv hp).set j.out 1 _).set (j.out.at1 _) 11 _) (fun _=>by show C.ts.length-(q.pos+1)<_;omega) (by omega)).mono ?_
 rintro e w2 ⟨S2,q2,z2,rfl,i2,m2,s2⟩
 replace j:=zc (((j.out.at1 _).at11 _).stp s2)
 replace n:=zc (((n.out.set_other (by omega) 1 _).set_other (by omega) 11 _).stp s2)
 have J:Hid (SB w.heap.size S w S2 w2):=((V.out.set (by omega) 1 _).set (by omega) 11 _).step s2
 clear V
 have O:=zc m2
 have aa:=zc i2
 clear i2 m2 s2 M
 clear a0 a1 a2 a3 a4 a5 Z a7 a8 a9 A E af
 go_wp2_with fail
 refine (zad C H z o _ S2 q2 z2 (d+1) za0 _ aa.out O.out).mono ?_
 rintro e w3 ⟨S3,q3,z3,rfl,i3,m3,s3⟩
 replace j:=zc (j.out.stp s3)
 replace n:=zc (n.out.stp s3)
 have Q:=zc (J.out.step s3)
 clear J
 have U:=zc m3
 have ac:=zc i3
 clear i3 m3 s3 O
 obtain⟨a0,a1,a2,a3,a4,a5,Z,a7,a8,a9,A,E,af⟩:=j.out.box
 obtain⟨D,hD⟩: ∃D:Nat,D=d+1:=⟨_,rfl⟩
 rw[←hD]
 have aj:(D:Int)-1=d:=by omega
 have ai:D≤20:=by omega
 clear hD hd qd
 unfold pv
 go_upto_region 11 with fail
 refine zL (R:=fun W=>Bx H S3 W (w.heap.size) _∧Bx H S3 W (w.heap.size+1) _∧Mem C H z o S3 q3 W∧SB w.heap.size S w S3 W) ⟨(j.out.put ..),(n.out.other (by omega) ..),(U.out.put j.out ..),(Q.out.put (by omega) ..)⟩ ?_
 clear a0 a1 a2 a3 a4 a5 Z a7 a8 a9 A E af
 clear j n Q U
 rintro w4 ⟨K,X,m4,t4⟩
 have j:=zc K
 have n:=zc X
 have ad:=zc m4
 have ab:=zc t4
 clear m4 t4 K X
 obtain⟨a0,a1,a2,a3,a4,a5,Z,a7,a8,a9,A,E,af⟩:=j.out.box
 obtain⟨b0,b1,b2,b3,b4,b5,b6,b7,b8,b9,ah,ag,bf⟩:=n.out.box
 go_wp2
 refine bodyPost_ret (results_cell_row rfl _ _ (w.heap.size+1) 53 _ (0,0) _ rfl (((n.out.set_other (by omega) 11 _).put ..)).heap Tryz.underlying53 rfl (by kernel_rfl)) rfl ?_
 rw[HV.out]
 exact zY rfl ac.out ((ad.out.set j.out 11 _).put (n.out.set_other (by omega) 11 _) ..) ((ab.out.set (by omega) 11 _).put (by omega) ..)
theorem znh (z:List Tk) (j:Nat) (H D o:Nat) (S:Sv) (q:PS) (d:Nat) (w:World) (Q:Mem (Cx.mk z j true) H D o S q w) (hp: ¬q.pos<(Cx.mk z j true).ts.length):
  Calls Tryz.prog 168 #[pv (Cx.mk z j true) H D S q (-1) d] w (Out (Cx.mk z j true) H D o (pE (Cx.mk z j true) .part d q) d S w):=by
 have HM:=zc Q
 have V:=Q.tok
 have I:(Cx.mk z j true).ts.length≤4000:=Q.few
 have ah:=(zan Q.tok).1
 clear Q
 have hk:((ze (Cx.mk z j true) q.pos).kind==2)=false:=by rw[zdl (by omega)];rfl
 have ho:isT (Cx.mk z j true) q.pos 4 zn=false:=zeE hp (by decide)
 have hu:isT (Cx.mk z j true) q.pos 1 za7=false:=zeE hp (by decide)
 have hn:zD (Cx.mk z j true) q.pos false=false:=zg0 hp
 have HV:Hid (pE (Cx.mk z j true) .part d q= .error (zr (Cx.mk z j true) q.pos)):=by show pE (Cx.mk z j true) .part d q=_;rw[zb6,hk,ho,hu,zj,hn];rfl
 have aj: ¬q.pos<z.length:=hp
 unfold pv
 go_enter Tryz.func168,Tryz.ntmps168
 go_wp2_with fail
 refine (zh (Cx.mk z j true) H D o S q (-1) d 4 zn _ (zq (zq V _) _) I (by decide)).mono ?_
 rintro e w1 ⟨rfl,X⟩
 rw[ho]
 obtain⟨O,X1,m1,t1⟩:=HM.out.two X
 have A:=zc O
 have n:=zc X1
 have K:=zc m1
 have aa:=zc t1
 clear O X1 m1 t1 X
 obtain⟨a0,a1,a2,a3,a4,a5,a6,a7,a8,a9,J,L,af⟩:=A.out.box
 go_wp2_with fail
 refine (zh (Cx.mk z j true) H D o S q (-1) d 1 za7 _ K.out.tok I (by decide)).mono ?_
 rintro e w2 ⟨rfl,E⟩
 rw[hu]
 replace A:=zc (A.out.below E)
 replace n:=zc (n.out.below E)
 have N:=zc (aa.out.below E)
 have Y:=zc (K.out.later E)
 clear E aa K
 clear a0 a1 a2 a3 a4 a5 a6 a7 a8 a9 J L af
 obtain⟨a0,a1,a2,a3,a4,a5,a6,a7,a8,a9,J,L,af⟩:=A.out.box
 go_wp2_with fail
 refine (zbe (Cx.mk z j true) H D o (.ok q) S q (-1) d false _ (zX q) Y.out).mono ?_
 rintro e w3 ⟨U,q3,z3,n3,rfl,i3,m3,s3⟩
 replace A:=zc (A.out.stp s3)
 replace n:=zc (n.out.stp s3)
 have Z:=zc (N.out.step s3)
 clear N
 have M:=zc m3
 have ad:=zc i3
 clear i3 m3 s3 Y
 clear a0 a1 a2 a3 a4 a5 a6 a7 a8 a9 J L af
 obtain rfl:=zf6 ad.out hn
 have dz:decide ((0:Int)≤(zr (Cx.mk z j true) q.pos:Int))=true:=decide_eq_true (by omega)
 have ag:w.heap.size+1<w3.heap.size:=n.out.lt
 unfold pv
 go_upto_region 17 with fail
 refine zL (R:=fun W=>Bx H U W (w.heap.size) _∧Bx H U W (w.heap.size+1) _∧Bx H U W (w3.heap.size) _∧Mem (Cx.mk z j true) H D o U q3 W∧SB w.heap.size S w U W) ⟨(A.out.alloc _),(n.out.alloc _),(Bx.new M.out _),(M.out.alloc _),(Z.out.alloc _)⟩ ?_
 clear A n Z M
 rintro w4 ⟨O,X1,X2,m4,t4⟩
 have A:=zc O
 have n:=zc X1
 have ac:=zc X2
 have ae:=zc m4
 have ab:=zc t4
 clear m4 t4 O X1 X2
 obtain⟨b0,b1,b2,b3,b4,b5,b6,b7,b8,b9,am,al,bf⟩:=n.out.box
 obtain⟨c0,c1,c2,c3,c4,c5,c6,c7,c8,c9,ai,ak,cf⟩:=ac.out.box
 go_wp2
 refine bodyPost_ret (results_cell_row rfl _ _ (w.heap.size+1) 53 _ (0,0) _ rfl ((n.out.put ..)).heap Tryz.underlying53 rfl (by kernel_rfl)) rfl ?_
 rw[HV.out]
 exact zY rfl (show Is (.error (zr (Cx.mk z j true) q.pos)) q3 _ from rfl) (ae.out.put n.out ..) (ab.out.put (by omega) ..)
theorem zni (o:List Tk) (j:Nat) (H D z:Nat) (S:Sv) (q:PS) (d:Nat) (w:World) (U:Mem (Cx.mk o j true) H D z S q w) (hk:((ze (Cx.mk o j true) q.pos).kind==2)=false) (ho:isT (Cx.mk o j true) q.pos 4 zn=false) (hp:q.pos<(Cx.mk o j true).ts.length) (hu:isT (Cx.mk o j true) q.pos 1 za7=false) (hn:zD (Cx.mk o j true) q.pos false=false):
  Calls Tryz.prog 168 #[pv (Cx.mk o j true) H D S q (-1) d] w (Out (Cx.mk o j true) H D z (pE (Cx.mk o j true) .part d q) d S w):=by
 have HM:=zc U
 have I:=U.tok
 have J:(Cx.mk o j true).ts.length≤4000:=U.few
 have ah:=(zan U.tok).1
 clear U
 have HV:Hid (pE (Cx.mk o j true) .part d q= .error (zr (Cx.mk o j true) q.pos)):=by show pE (Cx.mk o j true) .part d q=_;rw[zb6,hk,ho,hu,zj,hn];rfl
 have aj:q.pos<o.length:=hp
 obtain⟨c0,_,_,_⟩:=I.cells hp (d:=⟨0,sNone,0,(Cx.mk o j true).fin⟩)
 change _=some (Value.int .i64 (ze (Cx.mk o j true) q.pos).kind) at c0
 generalize (ze (Cx.mk o j true) q.pos).kind=kd at c0 hk
 unfold pv
 go_enter Tryz.func168,Tryz.ntmps168
 go_wp2_with fail
 refine (zh (Cx.mk o j true) H D z S q (-1) d 4 zn _ (zq (zq I _) _) J (by decide)).mono ?_
 rintro e w1 ⟨rfl,X⟩
 rw[ho]
 obtain⟨Q,X1,m1,t1⟩:=HM.out.two X
 have A:=zc Q
 have n:=zc X1
 have L:=zc m1
 have aa:=zc t1
 clear Q X1 m1 t1 X
 obtain⟨a0,a1,a2,a3,a4,a5,a6,a7,a8,a9,K,M,af⟩:=A.out.box
 go_wp2_with fail
 refine (zh (Cx.mk o j true) H D z S q (-1) d 1 za7 _ L.out.tok J (by decide)).mono ?_
 rintro e w2 ⟨rfl,E⟩
 rw[hu]
 replace A:=zc (A.out.below E)
 replace n:=zc (n.out.below E)
 have O:=zc (aa.out.below E)
 have Y:=zc (L.out.later E)
 clear E aa L
 clear a0 a1 a2 a3 a4 a5 a6 a7 a8 a9 K M af
 obtain⟨a0,a1,a2,a3,a4,a5,a6,a7,a8,a9,K,M,af⟩:=A.out.box
 go_wp2_with fail
 refine (zbe (Cx.mk o j true) H D z (.ok q) S q (-1) d false _ (zX q) Y.out).mono ?_
 rintro e w3 ⟨V,q3,z3,n3,rfl,i3,m3,s3⟩
 replace A:=zc (A.out.stp s3)
 replace n:=zc (n.out.stp s3)
 have Z:=zc (O.out.step s3)
 clear O
 have N:=zc m3
 have ad:=zc i3
 clear i3 m3 s3 Y
 clear a0 a1 a2 a3 a4 a5 a6 a7 a8 a9 K M af
 obtain rfl:=zf6 ad.out hn
 have dz:decide ((0:Int)≤(zr (Cx.mk o j true) q.pos:Int))=true:=decide_eq_true (by omega)
 have ag:w.heap.size+1<w3.heap.size:=n.out.lt
 unfold pv
 go_upto_region 17 with fail
 refine zL (R:=fun W=>Bx H V W (w.heap.size) _∧Bx H V W (w.heap.size+1) _∧Bx H V W (w3.heap.size) _∧Mem (Cx.mk o j true) H D z V q3 W∧SB w.heap.size S w V W) ⟨(A.out.alloc _),(n.out.alloc _),(Bx.new N.out _),(N.out.alloc _),(Z.out.alloc _)⟩ ?_
 clear A n Z N
 rintro w4 ⟨Q,X1,X2,m4,t4⟩
 have A:=zc Q
 have n:=zc X1
 have ac:=zc X2
 have ae:=zc m4
 have ab:=zc t4
 clear m4 t4 Q X1 X2
 obtain⟨b0,b1,b2,b3,b4,b5,b6,b7,b8,b9,am,al,bf⟩:=n.out.box
 obtain⟨c0,c1,c2,c3,c4,c5,c6,c7,c8,c9,ai,ak,cf⟩:=ac.out.box
 go_wp2
 refine bodyPost_ret (results_cell_row rfl _ _ (w.heap.size+1) 53 _ (0,0) _ rfl ((n.out.put ..)).heap Tryz.underlying53 rfl (by kernel_rfl)) rfl ?_
 rw[HV.out]
 exact zY rfl (show Is (.error (zr (Cx.mk o j true) q.pos)) q3 _ from rfl) (ae.out.put n.out ..) (ab.out.put (by omega) ..)
theorem ziB (I:List Tk) (z:Nat) (H A n:Nat) (S:Sv) (q:PS) (d:Nat) (w:World) (U:Mem (Cx.mk I z true) H A n S q w) (D:Nat):
  Calls Tryz.prog 168 #[pv (Cx.mk I z true) H A S q (D:Int) d] w (Out (Cx.mk I z true) H A n (.error D) d S w):=by
 have HM:=zc U
 have X:=U.tok
 have J:(Cx.mk I z true).ts.length≤4000:=U.few
 have ai:=(zan U.tok).1
 clear U
 have hz: ¬(D:Int)<0:=by omega
 have hs: ∀k s,(decide ((D:Int)<0)&&isT (Cx.mk I z true) q.pos k s)=false:=fun k s=>by rw[decide_eq_false hz];rfl
 unfold pv
 go_enter Tryz.func168,Tryz.ntmps168
 go_wp2_with fail
 refine (zh (Cx.mk I z true) H A n S q (D:Int) d 4 zn _ (zq (zq X _) _) J (by decide)).mono ?_
 rintro e w1 ⟨rfl,Y⟩
 rw[hs]
 obtain⟨Q,X1,m1,t1⟩:=HM.out.two Y
 have o:=zc Q
 have j:=zc X1
 have L:=zc m1
 have ab:=zc t1
 clear Q X1 m1 t1 Y
 obtain⟨a0,a1,a2,a3,a4,a5,a6,a7,a8,a9,K,M,af⟩:=o.out.box
 go_wp2_with fail
 refine (zh (Cx.mk I z true) H A n S q (D:Int) d 1 za7 _ L.out.tok J (by decide)).mono ?_
 rintro e w2 ⟨rfl,E⟩
 rw[hs]
 replace o:=zc (o.out.below E)
 replace j:=zc (j.out.below E)
 have O:=zc (ab.out.below E)
 have Z:=zc (L.out.later E)
 clear E ab L
 clear a0 a1 a2 a3 a4 a5 a6 a7 a8 a9 K M af
 obtain⟨a0,a1,a2,a3,a4,a5,a6,a7,a8,a9,K,M,af⟩:=o.out.box
 go_wp2_with fail
 refine (zbe (Cx.mk I z true) H A n (.error D) S q (D:Int) d false _ (show Is (.error D) q _ from rfl) Z.out).mono ?_
 rintro e w3 ⟨V,q3,z3,n3,rfl,i3,m3,s3⟩
 replace o:=zc (o.out.stp s3)
 replace j:=zc (j.out.stp s3)
 have aa:=zc (O.out.step s3)
 clear O
 have N:=zc m3
 have ae:=zc i3
 clear i3 m3 s3 Z
 clear a0 a1 a2 a3 a4 a5 a6 a7 a8 a9 K M af
 obtain rfl:z3=(D:Int):=ae.out
 have dz:decide ((0:Int)≤(D:Int))=true:=decide_eq_true (by omega)
 have ah:w.heap.size+1<w3.heap.size:=j.out.lt
 unfold pv
 go_upto_region 17 with fail
 refine zL (R:=fun W=>Bx H V W (w.heap.size) _∧Bx H V W (w.heap.size+1) _∧Bx H V W (w3.heap.size) _∧Mem (Cx.mk I z true) H A n V q3 W∧SB w.heap.size S w V W) ⟨(o.out.alloc _),(j.out.alloc _),(Bx.new N.out _),(N.out.alloc _),(aa.out.alloc _)⟩ ?_
 clear o j aa N
 rintro w4 ⟨Q,X1,X2,m4,t4⟩
 have o:=zc Q
 have j:=zc X1
 have ad:=zc X2
 have ag:=zc m4
 have ac:=zc t4
 clear m4 t4 Q X1 X2
 obtain⟨b0,b1,b2,b3,b4,b5,b6,b7,b8,b9,am,al,bf⟩:=j.out.box
 obtain⟨c0,c1,c2,c3,c4,c5,c6,c7,c8,c9,aj,ak,cf⟩:=ad.out.box
 go_wp2
 refine bodyPost_ret (results_cell_row rfl _ _ (w.heap.size+1) 53 _ (0,0) _ rfl ((j.out.put ..)).heap Tryz.underlying53 rfl (by kernel_rfl)) rfl ?_
 exact zY rfl (show Is (.error D) q3 _ from rfl) (ag.out.put j.out ..) (ac.out.put (by omega) ..)
theorem znj (n:List Tk) (j:Nat) (M D o:Nat) (S:Sv) (q:PS) (d:Nat) (w:World) (Q:Mem (Cx.mk n j true) M D o S q w) (hk:((ze (Cx.mk n j true) q.pos).kind==2)=false) (ho:isT (Cx.mk n j true) q.pos 4 zn=false) (Y:q.pos<(Cx.mk n j true).ts.length) (hu:isT (Cx.mk n j true) q.pos 1 za7=true):
  Calls Tryz.prog 168 #[pv (Cx.mk n j true) M D S q (-1) d] w (Out (Cx.mk n j true) M D o (pE (Cx.mk n j true) .part d q) d S w):=by
 have HM:=zc Q
 have H:=Q.tok
 have I:(Cx.mk n j true).ts.length≤4000:=Q.few
 have ac:=(zan Q.tok).1
 clear Q
 have HV:Hid (pE (Cx.mk n j true) .part d q=zbc (Cx.mk n j true) za7 (adv q)):=by show pE (Cx.mk n j true) .part d q=_;rw[zb6,hk,ho,hu];rfl
 have ad:q.pos<n.length:=Y
 obtain⟨c0,_,_,_⟩:=H.cells Y (d:=⟨0,sNone,0,(Cx.mk n j true).fin⟩)
 change _=some (Value.int .i64 (ze (Cx.mk n j true) q.pos).kind) at c0
 generalize (ze (Cx.mk n j true) q.pos).kind=kd at c0 hk
 unfold pv
 go_enter Tryz.func168,Tryz.ntmps168
 go_wp2_with fail
 refine (zh (Cx.mk n j true) M D o S q (-1) d 4 zn _ (zq (zq H _) _) I (by decide)).mono ?_
 rintro e w1 ⟨rfl,V⟩
 rw[ho]
 obtain⟨X0,X1,m1,t1⟩:=HM.out.two V
 have A:=zc X0
 have z:=zc X1
 have K:=zc m1
 have U:=zc t1
 clear X0 X1 m1 t1 V
 obtain⟨a0,a1,a2,a3,a4,a5,a6,a7,a8,a9,J,L,af⟩:=A.out.box
 go_wp2_with fail
 refine (zh (Cx.mk n j true) M D o S q (-1) d 1 za7 _ K.out.tok I (by decide)).mono ?_
 rintro e w2 ⟨rfl,E⟩
 rw[hu]
 replace A:=zc (A.out.below E)
 replace z:=zc (z.out.below E)
 have N:=zc (U.out.below E)
 have O:=zc (K.out.later E)
 clear E U K
 clear a0 a1 a2 a3 a4 a5 a6 a7 a8 a9 J L af
 obtain⟨a0,a1,a2,a3,a4,a5,a6,a7,a8,a9,J,L,af⟩:=A.out.box
 go_wp2_with fail
 refine (zgD (Cx.mk n j true) M D o S (adv q) d za7 _ ((O.out.adv Y).set A.out 1 _) (by simp[adv])).mono ?_
 rintro e w3 ⟨S3,q3,z3,rfl,i3,m3,X⟩
 replace A:=zc ((A.out.at1 _).stp X)
 replace z:=zc ((z.out.set_other (by omega) 1 _).stp X)
 have aa:Hid (SB w.heap.size S w S3 w3):=(N.out.set (by omega) 1 _).step X
 clear N
 have Z:=zc m3
 have ab:=zc i3
 clear i3 m3 X O
 clear a0 a1 a2 a3 a4 a5 a6 a7 a8 a9 J L af
 obtain⟨b0,b1,b2,b3,b4,b5,b6,b7,b8,b9,ag,ae,bf⟩:=z.out.box
 unfold pv
 go_wp2
 refine bodyPost_ret (results_cell_row rfl _ _ (w.heap.size+1) 53 _ (0,0) _ rfl ((z.out.put ..)).heap Tryz.underlying53 rfl (by kernel_rfl)) rfl ?_
 rw[HV.out]
 exact zY rfl ab.out (Z.out.put z.out ..) (aa.out.put (by omega) ..)
theorem znk (n:List Tk) (j:Nat) (K D o:Nat) (S:Sv) (q:PS) (d:Nat) (w:World) (X:Mem (Cx.mk n j true) K D o S q w) (hk:((ze (Cx.mk n j true) q.pos).kind==2)=false) (ho:isT (Cx.mk n j true) q.pos 4 zn=false) (hp:q.pos<(Cx.mk n j true).ts.length) (hu:isT (Cx.mk n j true) q.pos 1 za7=false) (hn:zD (Cx.mk n j true) q.pos false=true) (hd:isT (Cx.mk n j true) (q.pos+1) 4 cPoint=false):
  Calls Tryz.prog 168 #[pv (Cx.mk n j true) K D S q (-1) d] w (Out (Cx.mk n j true) K D o (pE (Cx.mk n j true) .part d q) d S w):=by
 have HM:=zc X
 have L:=X.tok
 have I:(Cx.mk n j true).ts.length≤4000:=X.few
 have aq:=(zan X.tok).1
 clear X
 have HV:Hid (pE (Cx.mk n j true) .part d q=zbc (Cx.mk n j true) (ze (Cx.mk n j true) q.pos).text (adv q)):=by show pE (Cx.mk n j true) .part d q=_;rw[zb6,hk,ho,hu,zj,hn];show (if isT (Cx.mk n j true) (adv q).pos 4 cPoint then _ else _)=_;rw[zx,hd];rfl
 have ar:q.pos<n.length:=hp
 obtain⟨c0,_,_,_⟩:=L.cells hp (d:=⟨0,sNone,0,(Cx.mk n j true).fin⟩)
 change _=some (Value.int .i64 (ze (Cx.mk n j true) q.pos).kind) at c0
 generalize (ze (Cx.mk n j true) q.pos).kind=kd at c0 hk
 unfold pv
 go_enter Tryz.func168,Tryz.ntmps168
 go_wp2_with fail
 refine (zh (Cx.mk n j true) K D o S q (-1) d 4 zn _ (zq (zq L _) _) I (by decide)).mono ?_
 rintro e w1 ⟨rfl,aa⟩
 rw[ho]
 obtain⟨X0,X1,m1,t1⟩:=HM.out.two aa
 have A:=zc X0
 have z:=zc X1
 have N:=zc m1
 have ah:=zc t1
 clear X0 X1 m1 t1 aa
 obtain⟨a0,a1,a2,a3,a4,a5,a6,a7,a8,a9,M,Q,af⟩:=A.out.box
 go_wp2_with fail
 refine (zh (Cx.mk n j true) K D o S q (-1) d 1 za7 _ N.out.tok I (by decide)).mono ?_
 rintro e w2 ⟨rfl,H⟩
 rw[hu]
 replace A:=zc (A.out.below H)
 replace z:=zc (z.out.below H)
 have U:=zc (ah.out.below H)
 have ab:=zc (N.out.later H)
 clear H ah N
 clear a0 a1 a2 a3 a4 a5 a6 a7 a8 a9 M Q af
 obtain⟨a0,a1,a2,a3,a4,a5,a6,a7,a8,a9,M,Q,af⟩:=A.out.box
 go_wp2_with fail
 refine (zbe (Cx.mk n j true) K D o (.ok q) S q (-1) d false _ (zX q) ab.out).mono ?_
 rintro e w3 ⟨S3,V,z3,n3,rfl,i3,m3,s3⟩
 replace A:=zc (A.out.stp s3)
 replace z:=zc (z.out.stp s3)
 have ac:=zc (U.out.step s3)
 clear U
 have J:=zc m3
 have ad:=zc i3
 clear i3 m3 s3 ab
 clear a0 a1 a2 a3 a4 a5 a6 a7 a8 a9 M Q af
 obtain⟨hq,rfl,ae⟩:=zf5 ad.out hn
 have HQ:=zc hq
 have an:=zc ae
 have Y:V.pos=q.pos+1:=by rw[hq];rfl
 have ao:isT (Cx.mk n j true) V.pos 4 cPoint=false:=by rw[Y];exact hd
 clear hq ae ad
 have ap:w.heap.size+1<w3.heap.size:=z.out.lt
 unfold pv
 clear Y
 go_wp2_with fail
 refine (zh (Cx.mk n j true) K D o S3 V (-1) d 4 cPoint _ (J.out.alloc _).tok I (by decide)).mono ?_
 rintro e w4 ⟨rfl,E⟩
 rw[ao]
 replace A:=zc ((A.out.alloc _).below E)
 replace z:=zc ((z.out.alloc _).below E)
 replace O:=zc ((Bx.new J.out _).below E)
 have Z:Hid (SB w.heap.size S w S3 w4):=(ac.out.alloc _).below E
 have ag:Hid (Mem (Cx.mk n j true) K D o S3 V w4):=(J.out.alloc _).later E
 clear E ac J
 obtain⟨c0,c1,c2,c3,c4,c5,c6,c7,c8,c9,ai,am,cf⟩:=O.out.box
 go_wp2_with fail
 refine (zgD (Cx.mk n j true) K D o S3 V d n3 _ ag.out (by rw[HQ.out];simp[adv])).mono ?_
 rintro e w5 ⟨S5,q5,z5,rfl,i5,m5,s5⟩
 replace A:=zc (A.out.stp s5)
 replace z:=zc (z.out.stp s5)
 replace O:=zc (O.out.stp s5)
 have al:=zc (Z.out.step s5)
 clear Z
 have aj:=zc m5
 have ak:=zc i5
 clear i5 m5 s5 ag
 clear c0 c1 c2 c3 c4 c5 c6 c7 c8 c9 ai am cf
 obtain⟨b0,b1,b2,b3,b4,b5,b6,b7,b8,b9,av,au,bf⟩:=z.out.box
 unfold pv
 go_wp2
 refine bodyPost_ret (results_cell_row rfl _ _ (w.heap.size+1) 53 _ (0,0) _ rfl ((z.out.put ..)).heap Tryz.underlying53 rfl (by kernel_rfl)) rfl ?_
 rw[HV.out,←HQ.out,←an.out]
 exact zY rfl ak.out (aj.out.put z.out ..) (al.out.put (by omega) ..)
theorem znl (A:List Tk) (j:Nat) (K E o:Nat) (S:Sv) (q:PS) (d:Nat) (w:World) (hm:Mem (Cx.mk A j true) K E o S q w) (hk:((ze (Cx.mk A j true) q.pos).kind==2)=false) (ho:isT (Cx.mk A j true) q.pos 4 zn=false) (hp:q.pos<(Cx.mk A j true).ts.length) (hu:isT (Cx.mk A j true) q.pos 1 za7=false) (hn:zD (Cx.mk A j true) q.pos false=true) (hd:isT (Cx.mk A j true) (q.pos+1) 4 cPoint=true):
  Calls Tryz.prog 168 #[pv (Cx.mk A j true) K E S q (-1) d] w (Out (Cx.mk A j true) K E o (pE (Cx.mk A j true) .part d q) d S w):=by
 have HM:=zc hm
 have ae:=hm.tok
 have L:(Cx.mk A j true).ts.length≤4000:=hm.few
 have aN:=(zan hm.tok).1
 clear hm
 have HV:Hid (pE (Cx.mk A j true) .part d q=bd (bd (.ok (adv (adv q))) (zj (Cx.mk A j true) true)) fun y=>zbx (Cx.mk A j true) (ze (Cx.mk A j true) q.pos).text y.2 y.1):=by show pE (Cx.mk A j true) .part d q=_;rw[zb6,hk,ho,hu,zj,hn];show (if isT (Cx.mk A j true) (adv q).pos 4 cPoint then _ else _)=_;rw[zx,hd];rfl
 have aO:q.pos<A.length:=hp
 obtain⟨c0,_,_,_⟩:=ae.cells hp (d:=⟨0,sNone,0,(Cx.mk A j true).fin⟩)
 change _=some (Value.int .i64 (ze (Cx.mk A j true) q.pos).kind) at c0
 generalize (ze (Cx.mk A j true) q.pos).kind=kd at c0 hk
 unfold pv
 go_enter Tryz.func168,Tryz.ntmps168
 go_wp2_with fail
 refine (zh (Cx.mk A j true) K E o S q (-1) d 4 zn _ (zq (zq ae _) _) L (by decide)).mono ?_
 rintro e w1 ⟨rfl,ar⟩
 rw[ho]
 obtain⟨X0,X1,m1,t1⟩:=HM.out.two ar
 have z:=zc X0
 have n:=zc X1
 have ah:=zc m1
 have aA:=zc t1
 clear X0 X1 m1 t1 ar
 obtain⟨a0,a1,a2,a3,a4,a5,a6,a7,a8,a9,ag,aj,af⟩:=z.out.box
 go_wp2_with fail
 refine (zh (Cx.mk A j true) K E o S q (-1) d 1 za7 _ ah.out.tok L (by decide)).mono ?_
 rintro e w2 ⟨rfl,U⟩
 rw[hu]
 replace z:=zc (z.out.below U)
 replace n:=zc (n.out.below U)
 have ak:=zc (aA.out.below U)
 have au:=zc (ah.out.later U)
 clear U aA ah
 clear a0 a1 a2 a3 a4 a5 a6 a7 a8 a9 ag aj af
 obtain⟨a0,a1,a2,a3,a4,a5,a6,a7,a8,a9,ag,aj,af⟩:=z.out.box
 go_wp2_with fail
 refine (zbe (Cx.mk A j true) K E o (.ok q) S q (-1) d false _ (zX q) au.out).mono ?_
 rintro e w3 ⟨S3,q3,z3,n3,rfl,i3,m3,s3⟩
 replace z:=zc (z.out.stp s3)
 replace n:=zc (n.out.stp s3)
 have av:=zc (ak.out.step s3)
 clear ak
 have ad:=zc m3
 have aw:=zc i3
 clear i3 m3 s3 au
 clear a0 a1 a2 a3 a4 a5 a6 a7 a8 a9 ag aj af
 obtain⟨hq,rfl,ay⟩:=zf5 aw.out hn
 have HQ:=zc hq
 have ao:=zc ay
 have an:q3.pos=q.pos+1:=by rw[hq];rfl
 have aB:isT (Cx.mk A j true) q3.pos 4 cPoint=true:=by rw[an];exact hd
 clear hq ay aw
 have aL:w.heap.size+1<w3.heap.size:=n.out.lt
 unfold pv
 clear an
 go_wp2_with fail
 refine (zh (Cx.mk A j true) K E o S3 q3 (-1) d 4 cPoint _ (ad.out.alloc _).tok L (by decide)).mono ?_
 rintro e w4 ⟨rfl,M⟩
 rw[aB]
 replace z:=zc ((z.out.alloc _).below M)
 replace n:=zc ((n.out.alloc _).below M)
 replace D:=zc ((Bx.new ad.out _).below M)
 have aq:Hid (SB w.heap.size S w S3 w4):=(av.out.alloc _).below M
 have az:Hid (Mem (Cx.mk A j true) K E o S3 q3 w4):=(ad.out.alloc _).later M
 clear M av ad
 obtain⟨c0,c1,c2,c3,c4,c5,c6,c7,c8,c9,aD,aE,cf⟩:=D.out.box
 have ap:q3.pos<(Cx.mk A j true).ts.length:=za1 aB (by decide)
 have aK:q3.pos<A.length:=ap
 go_wp2_with fail
 refine (zbe (Cx.mk A j true) K E o (.ok (adv q3)) S3 (adv q3) (-1) d true _ (zX _) ((az.out.adv ap).set D.out 1 _)).mono ?_
 rintro e w5 ⟨Z,q5,z5,n5,rfl,i5,m5,s5⟩
 replace z:=zc ((z.out.set_other (by omega) 1 _).stp s5)
 replace n:=zc ((n.out.set_other (by omega) 1 _).stp s5)
 replace D:=zc ((D.out.at1 _).stp s5)
 have aa:Hid (SB w.heap.size S w Z w5):=(aq.out.set (by omega) 1 _).step s5
 clear aq
 have J:=zc m5
 have Q:=zc i5
 clear i5 m5 s5 az
 clear c0 c1 c2 c3 c4 c5 c6 c7 c8 c9 aD aE cf
 have aM:w.heap.size+1<w5.heap.size:=n.out.lt
 have aC:w3.heap.size<w5.heap.size:=D.out.lt
 cases hc:(decide (z5<0)&&isT (Cx.mk A j true) q5.pos 4 zn) with
 |true=>
  unfold pv
  go_wp2_with fail
  refine (zh (Cx.mk A j true) K E o Z q5 z5 d 4 zn _ (J.out.alloc _).tok L (by decide)).mono ?_
  rintro e w6 ⟨rfl,H⟩
  rw[hc]
  replace z:=zc ((z.out.alloc _).below H)
  replace n:=zc ((n.out.alloc _).below H)
  replace D:=zc ((D.out.alloc _).below H)
  replace I:=zc ((Bx.new J.out _).below H)
  have O:Hid (SB w.heap.size S w Z w6):=(aa.out.alloc _).below H
  have V:Hid (Mem (Cx.mk A j true) K E o Z q5 w6):=(J.out.alloc _).later H
  clear H aa J
  obtain⟨d0,d1,d2,d3,d4,d5,d6,d7,d8,d9,X,Y,df⟩:=I.out.box
  go_wp2_with fail
  refine (zad (Cx.mk A j true) K E o _ Z q5 z5 d zn _ Q.out.fst V.out).mono ?_
  rintro e w7 ⟨S7,q7,z7,rfl,i7,m7,N⟩
  replace z:=zc (z.out.stp N)
  replace n:=zc (n.out.stp N)
  replace D:=zc (D.out.stp N)
  replace I:=zc (I.out.stp N)
  have ac:=zc (O.out.step N)
  clear O
  have ab:=zc m7
  have ai:=zc i7
  clear i7 m7 N V
  clear d0 d1 d2 d3 d4 d5 d6 d7 d8 d9 X Y df
  go_wp2_with fail
  refine (zad (Cx.mk A j true) K E o _ S7 q7 z7 d za0 _ ai.out ab.out).mono ?_
  rintro e w8 ⟨S8,q8,z8,rfl,i8,m8,s8⟩
  replace z:=zc (z.out.stp s8)
  replace n:=zc (n.out.stp s8)
  replace D:=zc (D.out.stp s8)
  replace I:=zc (I.out.stp s8)
  have al:=zc (ac.out.step s8)
  clear ac
  have ax:=zc m8
  have am:=zc i8
  clear i8 m8 s8 ab
  obtain⟨d0,d1,d2,d3,d4,d5,d6,d7,d8,d9,X,Y,df⟩:=I.out.box
  unfold pv
  go_wp2_with fail
  refine (zcK (Cx.mk A j true) K E o _ S8 q8 z8 d ⟨5,0,n3,n5,0,0⟩ _ am.out (ax.out.put I.out ..) (zbh am.out)).mono ?_
  rintro e w9 ⟨S9,q9,z9,rfl,i9,m9,s9⟩
  replace z:=zc ((z.out.other (by omega) ..).stp s9)
  replace n:=zc ((n.out.other (by omega) ..).stp s9)
  replace D:=zc ((D.out.other (by omega) ..).stp s9)
  replace I:=zc ((I.out.put ..).stp s9)
  have aH:Hid (SB w.heap.size S w S9 w9):=(al.out.put (by omega) ..).step s9
  clear al
  have aJ:=zc m9
  have aI:=zc i9
  clear i9 m9 s9 ax
  clear d0 d1 d2 d3 d4 d5 d6 d7 d8 d9 X Y df
  obtain⟨b0,b1,b2,b3,b4,b5,b6,b7,b8,b9,aG,aF,bf⟩:=n.out.box
  unfold pv
  go_wp2
  refine bodyPost_ret (results_cell_row rfl _ _ (w.heap.size+1) 53 _ (0,0) _ rfl ((n.out.put ..)).heap Tryz.underlying53 rfl (by kernel_rfl)) rfl ?_
  rw[HV.out,←HQ.out,←ao.out,←zi8 Q.out hc]
  exact zY rfl aI.out (aJ.out.put n.out ..) (aH.out.put (by omega) ..)
 |false=>
  unfold pv
  go_wp2_with fail
  refine (zh (Cx.mk A j true) K E o Z q5 z5 d 4 zn _ (J.out.alloc _).tok L (by decide)).mono ?_
  rintro e w6 ⟨rfl,H⟩
  rw[hc]
  replace z:=zc ((z.out.alloc _).below H)
  replace n:=zc ((n.out.alloc _).below H)
  replace D:=zc ((D.out.alloc _).below H)
  replace I:=zc ((Bx.new J.out _).below H)
  have O:Hid (SB w.heap.size S w Z w6):=(aa.out.alloc _).below H
  have V:Hid (Mem (Cx.mk A j true) K E o Z q5 w6):=(J.out.alloc _).later H
  clear H aa J
  obtain⟨d0,d1,d2,d3,d4,d5,d6,d7,d8,d9,X,Y,df⟩:=I.out.box
  go_wp2_with fail
  refine (zcK (Cx.mk A j true) K E o _ Z q5 z5 d ⟨4,0,n3,n5,0,0⟩ _ Q.out.fst V.out (ziA Q.out)).mono ?_
  rintro e w7 ⟨S7,q7,z7,rfl,i7,m7,N⟩
  replace z:=zc (z.out.stp N)
  replace n:=zc (n.out.stp N)
  replace D:=zc (D.out.stp N)
  replace I:=zc (I.out.stp N)
  have ac:=zc (O.out.step N)
  clear O
  have ab:=zc m7
  have ai:=zc i7
  clear i7 m7 N V
  clear d0 d1 d2 d3 d4 d5 d6 d7 d8 d9 X Y df
  obtain⟨b0,b1,b2,b3,b4,b5,b6,b7,b8,b9,aG,aF,bf⟩:=n.out.box
  unfold pv
  go_wp2
  refine bodyPost_ret (results_cell_row rfl _ _ (w.heap.size+1) 53 _ (0,0) _ rfl ((n.out.put ..)).heap Tryz.underlying53 rfl (by kernel_rfl)) rfl ?_
  rw[HV.out,←HQ.out,←ao.out,←zi9 Q.out hc]
  exact zY rfl ai.out (ab.out.put n.out ..) (ac.out.put (by omega) ..)
theorem znm (o:List Tk) (j:Nat) (E D z:Nat) (S:Sv) (q:PS) (d:Nat) (w:World) (K:Mem (Cx.mk o j false) E D z S q w) (X: ¬q.pos<(Cx.mk o j false).ts.length):
  Calls Tryz.prog 168 #[pv (Cx.mk o j false) E D S q (-1) d] w (Out (Cx.mk o j false) E D z (pE (Cx.mk o j false) .part d q) d S w):=by
 have HM:=zc K
 have L:=K.tok
 have V:(Cx.mk o j false).ts.length≤4000:=K.few
 have ah:=(zan K.tok).1
 clear K
 have hk:((ze (Cx.mk o j false) q.pos).kind==2)=false:=by rw[zdl (by omega)];rfl
 have ho:isT (Cx.mk o j false) q.pos 4 zn=false:=zeE X (by decide)
 have hu:isT (Cx.mk o j false) q.pos 1 za7=false:=zeE X (by decide)
 have hn:zD (Cx.mk o j false) q.pos false=false:=zg0 X
 have HV:Hid (pE (Cx.mk o j false) .part d q= .error (zr (Cx.mk o j false) q.pos)):=by show pE (Cx.mk o j false) .part d q=_;rw[zb6,hk,ho,zj,hn];rfl
 have aj: ¬q.pos<o.length:=X
 unfold pv
 go_enter Tryz.func168,Tryz.ntmps168
 go_wp2_with fail
 refine (zh (Cx.mk o j false) E D z S q (-1) d 4 zn _ (zq (zq L _) _) V (by decide)).mono ?_
 rintro e w1 ⟨rfl,N⟩
 rw[ho]
 obtain⟨J,Q,m1,t1⟩:=HM.out.two N
 have A:=zc J
 have n:=zc Q
 have M:=zc m1
 have O:=zc t1
 clear J Q m1 t1 N
 obtain⟨a0,a1,a2,a3,a4,a5,a6,a7,a8,a9,Z,ad,af⟩:=A.out.box
 go_wp2_with fail
 refine (zbe (Cx.mk o j false) E D z (.ok q) S q (-1) d false _ (zX q) M.out).mono ?_
 rintro e w2 ⟨U,q2,z2,n2,rfl,i2,m2,Y⟩
 replace A:=zc (A.out.stp Y)
 replace n:=zc (n.out.stp Y)
 have I:=zc (O.out.step Y)
 clear O
 have H:=zc m2
 have aa:=zc i2
 clear i2 m2 Y M
 clear a0 a1 a2 a3 a4 a5 a6 a7 a8 a9 Z ad af
 obtain rfl:=zf6 aa.out hn
 have dz:decide ((0:Int)≤(zr (Cx.mk o j false) q.pos:Int))=true:=decide_eq_true (by omega)
 have ag:w.heap.size+1<w2.heap.size:=n.out.lt
 unfold pv
 go_upto_region 17 with fail
 refine zL (R:=fun W=>Bx E U W (w.heap.size) _∧Bx E U W (w.heap.size+1) _∧Bx E U W (w2.heap.size) _∧Mem (Cx.mk o j false) E D z U q2 W∧SB w.heap.size S w U W) ⟨(A.out.alloc _),(n.out.alloc _),(Bx.new H.out _),(H.out.alloc _),(I.out.alloc _)⟩ ?_
 clear A n I H
 rintro w3 ⟨J,Q,X2,m3,t3⟩
 have A:=zc J
 have n:=zc Q
 have ab:=zc X2
 have ae:=zc m3
 have ac:=zc t3
 clear m3 t3 J Q X2
 obtain⟨b0,b1,b2,b3,b4,b5,b6,b7,b8,b9,am,al,bf⟩:=n.out.box
 obtain⟨c0,c1,c2,c3,c4,c5,c6,c7,c8,c9,ai,ak,cf⟩:=ab.out.box
 go_wp2
 refine bodyPost_ret (results_cell_row rfl _ _ (w.heap.size+1) 53 _ (0,0) _ rfl ((n.out.put ..)).heap Tryz.underlying53 rfl (by kernel_rfl)) rfl ?_
 rw[HV.out]
 exact zY rfl (show Is (.error (zr (Cx.mk o j false) q.pos)) q2 _ from rfl) (ae.out.put n.out ..) (ac.out.put (by omega) ..)
theorem znn (n:List Tk) (j:Nat) (E D z:Nat) (S:Sv) (q:PS) (d:Nat) (w:World) (L:Mem (Cx.mk n j false) E D z S q w) (hk:((ze (Cx.mk n j false) q.pos).kind==2)=false) (ho:isT (Cx.mk n j false) q.pos 4 zn=false) (hp:q.pos<(Cx.mk n j false).ts.length) (hn:zD (Cx.mk n j false) q.pos false=false):
  Calls Tryz.prog 168 #[pv (Cx.mk n j false) E D S q (-1) d] w (Out (Cx.mk n j false) E D z (pE (Cx.mk n j false) .part d q) d S w):=by
 have HM:=zc L
 have H:=L.tok
 have V:(Cx.mk n j false).ts.length≤4000:=L.few
 have ag:=(zan L.tok).1
 clear L
 have HV:Hid (pE (Cx.mk n j false) .part d q= .error (zr (Cx.mk n j false) q.pos)):=by show pE (Cx.mk n j false) .part d q=_;rw[zb6,hk,ho,zj,hn];rfl
 have ai:q.pos<n.length:=hp
 obtain⟨c0,_,_,_⟩:=H.cells hp (d:=⟨0,sNone,0,(Cx.mk n j false).fin⟩)
 change _=some (Value.int .i64 (ze (Cx.mk n j false) q.pos).kind) at c0
 generalize (ze (Cx.mk n j false) q.pos).kind=kd at c0 hk
 unfold pv
 go_enter Tryz.func168,Tryz.ntmps168
 go_wp2_with fail
 refine (zh (Cx.mk n j false) E D z S q (-1) d 4 zn _ (zq (zq H _) _) V (by decide)).mono ?_
 rintro e w1 ⟨rfl,N⟩
 rw[ho]
 obtain⟨K,Q,m1,t1⟩:=HM.out.two N
 have A:=zc K
 have o:=zc Q
 have M:=zc m1
 have O:=zc t1
 clear K Q m1 t1 N
 obtain⟨a0,a1,a2,a3,a4,a5,a6,a7,a8,a9,Y,ac,af⟩:=A.out.box
 go_wp2_with fail
 refine (zbe (Cx.mk n j false) E D z (.ok q) S q (-1) d false _ (zX q) M.out).mono ?_
 rintro e w2 ⟨U,q2,z2,n2,rfl,i2,m2,X⟩
 replace A:=zc (A.out.stp X)
 replace o:=zc (o.out.stp X)
 have J:=zc (O.out.step X)
 clear O
 have I:=zc m2
 have Z:=zc i2
 clear i2 m2 X M
 clear a0 a1 a2 a3 a4 a5 a6 a7 a8 a9 Y ac af
 obtain rfl:=zf6 Z.out hn
 have dz:decide ((0:Int)≤(zr (Cx.mk n j false) q.pos:Int))=true:=decide_eq_true (by omega)
 have ae:w.heap.size+1<w2.heap.size:=o.out.lt
 unfold pv
 go_upto_region 17 with fail
 refine zL (R:=fun W=>Bx E U W (w.heap.size) _∧Bx E U W (w.heap.size+1) _∧Bx E U W (w2.heap.size) _∧Mem (Cx.mk n j false) E D z U q2 W∧SB w.heap.size S w U W) ⟨(A.out.alloc _),(o.out.alloc _),(Bx.new I.out _),(I.out.alloc _),(J.out.alloc _)⟩ ?_
 clear A o J I
 rintro w3 ⟨K,Q,X2,m3,t3⟩
 have A:=zc K
 have o:=zc Q
 have aa:=zc X2
 have ad:=zc m3
 have ab:=zc t3
 clear m3 t3 K Q X2
 obtain⟨b0,b1,b2,b3,b4,b5,b6,b7,b8,b9,al,ak,bf⟩:=o.out.box
 obtain⟨c0,c1,c2,c3,c4,c5,c6,c7,c8,c9,ah,aj,cf⟩:=aa.out.box
 go_wp2
 refine bodyPost_ret (results_cell_row rfl _ _ (w.heap.size+1) 53 _ (0,0) _ rfl ((o.out.put ..)).heap Tryz.underlying53 rfl (by kernel_rfl)) rfl ?_
 rw[HV.out]
 exact zY rfl (show Is (.error (zr (Cx.mk n j false) q.pos)) q2 _ from rfl) (ad.out.put o.out ..) (ab.out.put (by omega) ..)
theorem ziC (H:List Tk) (o:Nat) (E A n:Nat) (S:Sv) (q:PS) (d:Nat) (w:World) (L:Mem (Cx.mk H o false) E A n S q w) (D:Nat):
  Calls Tryz.prog 168 #[pv (Cx.mk H o false) E A S q (D:Int) d] w (Out (Cx.mk H o false) E A n (.error D) d S w):=by
 have HM:=zc L
 have M:=L.tok
 have X:(Cx.mk H o false).ts.length≤4000:=L.few
 have ah:=(zan L.tok).1
 clear L
 have hz: ¬(D:Int)<0:=by omega
 have hs: ∀k s,(decide ((D:Int)<0)&&isT (Cx.mk H o false) q.pos k s)=false:=fun k s=>by rw[decide_eq_false hz];rfl
 unfold pv
 go_enter Tryz.func168,Tryz.ntmps168
 go_wp2_with fail
 refine (zh (Cx.mk H o false) E A n S q (D:Int) d 4 zn _ (zq (zq M _) _) X (by decide)).mono ?_
 rintro e w1 ⟨rfl,O⟩
 rw[hs]
 obtain⟨K,U,m1,t1⟩:=HM.out.two O
 have z:=zc K
 have j:=zc U
 have N:=zc m1
 have Q:=zc t1
 clear K U m1 t1 O
 obtain⟨a0,a1,a2,a3,a4,a5,a6,a7,a8,a9,Z,ad,af⟩:=z.out.box
 go_wp2_with fail
 refine (zbe (Cx.mk H o false) E A n (.error D) S q (D:Int) d false _ (show Is (.error D) q _ from rfl) N.out).mono ?_
 rintro e w2 ⟨V,q2,z2,n2,rfl,i2,m2,Y⟩
 replace z:=zc (z.out.stp Y)
 replace j:=zc (j.out.stp Y)
 have J:=zc (Q.out.step Y)
 clear Q
 have I:=zc m2
 have aa:=zc i2
 clear i2 m2 Y N
 clear a0 a1 a2 a3 a4 a5 a6 a7 a8 a9 Z ad af
 obtain rfl:z2=(D:Int):=aa.out
 have dz:decide ((0:Int)≤(D:Int))=true:=decide_eq_true (by omega)
 have ag:w.heap.size+1<w2.heap.size:=j.out.lt
 unfold pv
 go_upto_region 17 with fail
 refine zL (R:=fun W=>Bx E V W (w.heap.size) _∧Bx E V W (w.heap.size+1) _∧Bx E V W (w2.heap.size) _∧Mem (Cx.mk H o false) E A n V q2 W∧SB w.heap.size S w V W) ⟨(z.out.alloc _),(j.out.alloc _),(Bx.new I.out _),(I.out.alloc _),(J.out.alloc _)⟩ ?_
 clear z j J I
 rintro w3 ⟨K,U,X2,m3,t3⟩
 have z:=zc K
 have j:=zc U
 have ab:=zc X2
 have ae:=zc m3
 have ac:=zc t3
 clear m3 t3 K U X2
 obtain⟨b0,b1,b2,b3,b4,b5,b6,b7,b8,b9,al,ak,bf⟩:=j.out.box
 obtain⟨c0,c1,c2,c3,c4,c5,c6,c7,c8,c9,ai,aj,cf⟩:=ab.out.box
 go_wp2
 refine bodyPost_ret (results_cell_row rfl _ _ (w.heap.size+1) 53 _ (0,0) _ rfl ((j.out.put ..)).heap Tryz.underlying53 rfl (by kernel_rfl)) rfl ?_
 exact zY rfl (show Is (.error D) q2 _ from rfl) (ae.out.put j.out ..) (ac.out.put (by omega) ..)
theorem zno (n:List Tk) (j:Nat) (K A o:Nat) (S:Sv) (q:PS) (d:Nat) (w:World) (N:Mem (Cx.mk n j false) K A o S q w) (hk:((ze (Cx.mk n j false) q.pos).kind==2)=false) (ho:isT (Cx.mk n j false) q.pos 4 zn=false) (hp:q.pos<(Cx.mk n j false).ts.length) (hn:zD (Cx.mk n j false) q.pos false=true) (hd:isT (Cx.mk n j false) (q.pos+1) 4 cPoint=false):
  Calls Tryz.prog 168 #[pv (Cx.mk n j false) K A S q (-1) d] w (Out (Cx.mk n j false) K A o (pE (Cx.mk n j false) .part d q) d S w):=by
 have HM:=zc N
 have I:=N.tok
 have J:(Cx.mk n j false).ts.length≤4000:=N.few
 have ao:=(zan N.tok).1
 clear N
 have HV:Hid (pE (Cx.mk n j false) .part d q=zbc (Cx.mk n j false) (ze (Cx.mk n j false) q.pos).text (adv q)):=by show pE (Cx.mk n j false) .part d q=_;rw[zb6,hk,ho,zj,hn];show (if isT (Cx.mk n j false) (adv q).pos 4 cPoint then _ else _)=_;rw[zx,hd];rfl
 have ap:q.pos<n.length:=hp
 obtain⟨c0,_,_,_⟩:=I.cells hp (d:=⟨0,sNone,0,(Cx.mk n j false).fin⟩)
 change _=some (Value.int .i64 (ze (Cx.mk n j false) q.pos).kind) at c0
 generalize (ze (Cx.mk n j false) q.pos).kind=kd at c0 hk
 unfold pv
 go_enter Tryz.func168,Tryz.ntmps168
 go_wp2_with fail
 refine (zh (Cx.mk n j false) K A o S q (-1) d 4 zn _ (zq (zq I _) _) J (by decide)).mono ?_
 rintro e w1 ⟨rfl,Y⟩
 rw[ho]
 obtain⟨X0,X1,m1,t1⟩:=HM.out.two Y
 have D:=zc X0
 have z:=zc X1
 have U:=zc m1
 have ac:=zc t1
 clear X0 X1 m1 t1 Y
 obtain⟨a0,a1,a2,a3,a4,a5,a6,a7,a8,a9,ag,ak,af⟩:=D.out.box
 go_wp2_with fail
 refine (zbe (Cx.mk n j false) K A o (.ok q) S q (-1) d false _ (zX q) U.out).mono ?_
 rintro e w2 ⟨S2,V,z2,n2,rfl,i2,m2,s2⟩
 replace D:=zc (D.out.stp s2)
 replace z:=zc (z.out.stp s2)
 have M:=zc (ac.out.step s2)
 clear ac
 have H:=zc m2
 have X:=zc i2
 clear i2 m2 s2 U
 clear a0 a1 a2 a3 a4 a5 a6 a7 a8 a9 ag ak af
 obtain⟨hq,rfl,aa⟩:=zf5 X.out hn
 have HQ:=zc hq
 have ah:=zc aa
 have Q:V.pos=q.pos+1:=by rw[hq];rfl
 have am:isT (Cx.mk n j false) V.pos 4 cPoint=false:=by rw[Q];exact hd
 clear hq aa X
 have an:w.heap.size+1<w2.heap.size:=z.out.lt
 unfold pv
 clear Q
 go_wp2_with fail
 refine (zh (Cx.mk n j false) K A o S2 V (-1) d 4 cPoint _ (H.out.alloc _).tok J (by decide)).mono ?_
 rintro e w3 ⟨rfl,E⟩
 rw[am]
 replace D:=zc ((D.out.alloc _).below E)
 replace z:=zc ((z.out.alloc _).below E)
 replace L:=zc ((Bx.new H.out _).below E)
 have Z:Hid (SB w.heap.size S w S2 w3):=(M.out.alloc _).below E
 have ab:Hid (Mem (Cx.mk n j false) K A o S2 V w3):=(H.out.alloc _).later E
 clear E M H
 obtain⟨c0,c1,c2,c3,c4,c5,c6,c7,c8,c9,ad,ae,cf⟩:=L.out.box
 go_wp2_with fail
 refine (zgD (Cx.mk n j false) K A o S2 V d n2 _ ab.out (by rw[HQ.out];simp[adv])).mono ?_
 rintro e w4 ⟨S4,q4,z4,rfl,i4,m4,O⟩
 replace D:=zc (D.out.stp O)
 replace z:=zc (z.out.stp O)
 replace L:=zc (L.out.stp O)
 have ai:=zc (Z.out.step O)
 clear Z
 have al:=zc m4
 have aj:=zc i4
 clear i4 m4 O ab
 clear c0 c1 c2 c3 c4 c5 c6 c7 c8 c9 ad ae cf
 obtain⟨b0,b1,b2,b3,b4,b5,b6,b7,b8,b9,ar,aq,bf⟩:=z.out.box
 unfold pv
 go_wp2
 refine bodyPost_ret (results_cell_row rfl _ _ (w.heap.size+1) 53 _ (0,0) _ rfl ((z.out.put ..)).heap Tryz.underlying53 rfl (by kernel_rfl)) rfl ?_
 rw[HV.out,←HQ.out,←ah.out]
 exact zY rfl aj.out (al.out.put z.out ..) (ai.out.put (by omega) ..)
theorem znp (A:List Tk) (j:Nat) (K E o:Nat) (S:Sv) (q:PS) (d:Nat) (w:World) (hm:Mem (Cx.mk A j false) K E o S q w) (hk:((ze (Cx.mk A j false) q.pos).kind==2)=false) (ho:isT (Cx.mk A j false) q.pos 4 zn=false) (hp:q.pos<(Cx.mk A j false).ts.length) (hn:zD (Cx.mk A j false) q.pos false=true) (hd:isT (Cx.mk A j false) (q.pos+1) 4 cPoint=true):
  Calls Tryz.prog 168 #[pv (Cx.mk A j false) K E S q (-1) d] w (Out (Cx.mk A j false) K E o (pE (Cx.mk A j false) .part d q) d S w):=by
 have HM:=zc hm
 have ac:=hm.tok
 have L:(Cx.mk A j false).ts.length≤4000:=hm.few
 have aJ:=(zan hm.tok).1
 clear hm
 have HV:Hid (pE (Cx.mk A j false) .part d q=bd (bd (.ok (adv (adv q))) (zj (Cx.mk A j false) true)) fun y=>zbx (Cx.mk A j false) (ze (Cx.mk A j false) q.pos).text y.2 y.1):=by show pE (Cx.mk A j false) .part d q=_;rw[zb6,hk,ho,zj,hn];show (if isT (Cx.mk A j false) (adv q).pos 4 cPoint then _ else _)=_;rw[zx,hd];rfl
 have aK:q.pos<A.length:=hp
 obtain⟨c0,_,_,_⟩:=ac.cells hp (d:=⟨0,sNone,0,(Cx.mk A j false).fin⟩)
 change _=some (Value.int .i64 (ze (Cx.mk A j false) q.pos).kind) at c0
 generalize (ze (Cx.mk A j false) q.pos).kind=kd at c0 hk
 unfold pv
 go_enter Tryz.func168,Tryz.ntmps168
 go_wp2_with fail
 refine (zh (Cx.mk A j false) K E o S q (-1) d 4 zn _ (zq (zq ac _) _) L (by decide)).mono ?_
 rintro e w1 ⟨rfl,al⟩
 rw[ho]
 obtain⟨X0,X1,m1,t1⟩:=HM.out.two al
 have z:=zc X0
 have n:=zc X1
 have ah:=zc m1
 have au:=zc t1
 clear X0 X1 m1 t1 al
 obtain⟨a0,a1,a2,a3,a4,a5,a6,a7,a8,a9,aB,aF,af⟩:=z.out.box
 go_wp2_with fail
 refine (zbe (Cx.mk A j false) K E o (.ok q) S q (-1) d false _ (zX q) ah.out).mono ?_
 rintro e w2 ⟨S2,q2,z2,n2,rfl,i2,m2,s2⟩
 replace z:=zc (z.out.stp s2)
 replace n:=zc (n.out.stp s2)
 have ae:=zc (au.out.step s2)
 clear au
 have ab:=zc m2
 have aj:=zc i2
 clear i2 m2 s2 ah
 clear a0 a1 a2 a3 a4 a5 a6 a7 a8 a9 aB aF af
 obtain⟨hq,rfl,aq⟩:=zf5 aj.out hn
 have HQ:=zc hq
 have ai:=zc aq
 have ag:q2.pos=q.pos+1:=by rw[hq];rfl
 have av:isT (Cx.mk A j false) q2.pos 4 cPoint=true:=by rw[ag];exact hd
 clear hq aq aj
 have aH:w.heap.size+1<w2.heap.size:=n.out.lt
 unfold pv
 clear ag
 go_wp2_with fail
 refine (zh (Cx.mk A j false) K E o S2 q2 (-1) d 4 cPoint _ (ab.out.alloc _).tok L (by decide)).mono ?_
 rintro e w3 ⟨rfl,M⟩
 rw[av]
 replace z:=zc ((z.out.alloc _).below M)
 replace n:=zc ((n.out.alloc _).below M)
 replace D:=zc ((Bx.new ab.out _).below M)
 have ao:Hid (SB w.heap.size S w S2 w3):=(ae.out.alloc _).below M
 have ar:Hid (Mem (Cx.mk A j false) K E o S2 q2 w3):=(ab.out.alloc _).later M
 clear M ae ab
 obtain⟨c0,c1,c2,c3,c4,c5,c6,c7,c8,c9,ax,aA,cf⟩:=D.out.box
 have ak:q2.pos<(Cx.mk A j false).ts.length:=za1 av (by decide)
 have aG:q2.pos<A.length:=ak
 go_wp2_with fail
 refine (zbe (Cx.mk A j false) K E o (.ok (adv q2)) S2 (adv q2) (-1) d true _ (zX _) ((ar.out.adv ak).set D.out 1 _)).mono ?_
 rintro e w4 ⟨S4,q4,z4,n4,rfl,i4,m4,s4⟩
 replace z:=zc ((z.out.set_other (by omega) 1 _).stp s4)
 replace n:=zc ((n.out.set_other (by omega) 1 _).stp s4)
 replace D:=zc ((D.out.at1 _).stp s4)
 have aa:Hid (SB w.heap.size S w S4 w4):=(ao.out.set (by omega) 1 _).step s4
 clear ao
 have J:=zc m4
 have U:=zc i4
 clear i4 m4 s4 ar
 clear c0 c1 c2 c3 c4 c5 c6 c7 c8 c9 ax aA cf
 have aI:w.heap.size+1<w4.heap.size:=n.out.lt
 have aw:w2.heap.size<w4.heap.size:=D.out.lt
 cases hc:(decide (z4<0)&&isT (Cx.mk A j false) q4.pos 4 zn) with
 |true=>
  unfold pv
  go_wp2_with fail
  refine (zh (Cx.mk A j false) K E o S4 q4 z4 d 4 zn _ (J.out.alloc _).tok L (by decide)).mono ?_
  rintro e w5 ⟨rfl,H⟩
  rw[hc]
  replace z:=zc ((z.out.alloc _).below H)
  replace n:=zc ((n.out.alloc _).below H)
  replace D:=zc ((D.out.alloc _).below H)
  replace I:=zc ((Bx.new J.out _).below H)
  have Q:Hid (SB w.heap.size S w S4 w5):=(aa.out.alloc _).below H
  have O:Hid (Mem (Cx.mk A j false) K E o S4 q4 w5):=(J.out.alloc _).later H
  clear H aa J
  obtain⟨d0,d1,d2,d3,d4,d5,d6,d7,d8,d9,V,X,df⟩:=I.out.box
  go_wp2_with fail
  refine (zad (Cx.mk A j false) K E o _ S4 q4 z4 d zn _ U.out.fst O.out).mono ?_
  rintro e w6 ⟨S6,q6,z6,rfl,i6,m6,N⟩
  replace z:=zc (z.out.stp N)
  replace n:=zc (n.out.stp N)
  replace D:=zc (D.out.stp N)
  replace I:=zc (I.out.stp N)
  have Y:=zc (Q.out.step N)
  clear Q
  have Z:=zc m6
  have ad:=zc i6
  clear i6 m6 N O
  clear d0 d1 d2 d3 d4 d5 d6 d7 d8 d9 V X df
  go_wp2_with fail
  refine (zad (Cx.mk A j false) K E o _ S6 q6 z6 d za0 _ ad.out Z.out).mono ?_
  rintro e w7 ⟨S7,q7,z7,rfl,i7,m7,s7⟩
  replace z:=zc (z.out.stp s7)
  replace n:=zc (n.out.stp s7)
  replace D:=zc (D.out.stp s7)
  replace I:=zc (I.out.stp s7)
  have an:=zc (Y.out.step s7)
  clear Y
  have am:=zc m7
  have ap:=zc i7
  clear i7 m7 s7 Z
  obtain⟨d0,d1,d2,d3,d4,d5,d6,d7,d8,d9,V,X,df⟩:=I.out.box
  unfold pv
  go_wp2_with fail
  refine (zcK (Cx.mk A j false) K E o _ S7 q7 z7 d ⟨5,0,n2,n4,0,0⟩ _ ap.out (am.out.put I.out ..) (zbh ap.out)).mono ?_
  rintro e w8 ⟨S8,q8,z8,rfl,i8,m8,s8⟩
  replace z:=zc ((z.out.other (by omega) ..).stp s8)
  replace n:=zc ((n.out.other (by omega) ..).stp s8)
  replace D:=zc ((D.out.other (by omega) ..).stp s8)
  replace I:=zc ((I.out.put ..).stp s8)
  have ay:Hid (SB w.heap.size S w S8 w8):=(an.out.put (by omega) ..).step s8
  clear an
  have aE:=zc m8
  have az:=zc i8
  clear i8 m8 s8 am
  clear d0 d1 d2 d3 d4 d5 d6 d7 d8 d9 V X df
  obtain⟨b0,b1,b2,b3,b4,b5,b6,b7,b8,b9,aD,aC,bf⟩:=n.out.box
  unfold pv
  go_wp2
  refine bodyPost_ret (results_cell_row rfl _ _ (w.heap.size+1) 53 _ (0,0) _ rfl ((n.out.put ..)).heap Tryz.underlying53 rfl (by kernel_rfl)) rfl ?_
  rw[HV.out,←HQ.out,←ai.out,←zi8 U.out hc]
  exact zY rfl az.out (aE.out.put n.out ..) (ay.out.put (by omega) ..)
 |false=>
  unfold pv
  go_wp2_with fail
  refine (zh (Cx.mk A j false) K E o S4 q4 z4 d 4 zn _ (J.out.alloc _).tok L (by decide)).mono ?_
  rintro e w5 ⟨rfl,H⟩
  rw[hc]
  replace z:=zc ((z.out.alloc _).below H)
  replace n:=zc ((n.out.alloc _).below H)
  replace D:=zc ((D.out.alloc _).below H)
  replace I:=zc ((Bx.new J.out _).below H)
  have Q:Hid (SB w.heap.size S w S4 w5):=(aa.out.alloc _).below H
  have O:Hid (Mem (Cx.mk A j false) K E o S4 q4 w5):=(J.out.alloc _).later H
  clear H aa J
  obtain⟨d0,d1,d2,d3,d4,d5,d6,d7,d8,d9,V,X,df⟩:=I.out.box
  go_wp2_with fail
  refine (zcK (Cx.mk A j false) K E o _ S4 q4 z4 d ⟨4,0,n2,n4,0,0⟩ _ U.out.fst O.out (ziA U.out)).mono ?_
  rintro e w6 ⟨S6,q6,z6,rfl,i6,m6,N⟩
  replace z:=zc (z.out.stp N)
  replace n:=zc (n.out.stp N)
  replace D:=zc (D.out.stp N)
  replace I:=zc (I.out.stp N)
  have Y:=zc (Q.out.step N)
  clear Q
  have Z:=zc m6
  have ad:=zc i6
  clear i6 m6 N O
  clear d0 d1 d2 d3 d4 d5 d6 d7 d8 d9 V X df
  obtain⟨b0,b1,b2,b3,b4,b5,b6,b7,b8,b9,aD,aC,bf⟩:=n.out.box
  unfold pv
  go_wp2
  refine bodyPost_ret (results_cell_row rfl _ _ (w.heap.size+1) 53 _ (0,0) _ rfl ((n.out.put ..)).heap Tryz.underlying53 rfl (by kernel_rfl)) rfl ?_
  rw[HV.out,←HQ.out,←ai.out,←zi9 U.out hc]
  exact zY rfl ad.out (Z.out.put n.out ..) (Y.out.put (by omega) ..)
def zgE (C:Cx) (gt cap base m:Nat):Prop:=∀(x:PR) (S:Sv) (q:PS) (z:Int) (d:Nat) (w:World),Is x q z→Mem C gt cap base S q w→(z<0→C.ts.length-q.pos<m)→d≤20→
 Calls Tryz.prog 168 #[pv C gt cap S q z d] w (Out C gt cap base (bd x (pE C .part d)) d S w)
def ziD (C:Cx) (gt cap base m:Nat):Prop:=∀(x:PR) (S:Sv) (q:PS) (z:Int) (d:Nat) (w:World),Is x q z→Mem C gt cap base S q w→(z<0→C.ts.length-q.pos<m)→d≤20→
 Calls Tryz.prog 136 #[pv C gt cap S q z d] w (Out C gt cap base (bd x (pE C .prod d)) d S w)
theorem SumOK.mono {C:Cx} {o n j m k:Nat} (h:SumOK C o n j m) (E:k≤m):SumOK C o n j k:=fun x S q z d w H I A D=>h x S q z d w H I (fun g=>Nat.lt_of_lt_of_le (A g) E) D
theorem znq {C:Cx} {D o j m:Nat} (Y:SumOK C D o j m):zgE C D o j (m+1):=by
 intro x S q z d w V E X M
 by_cases Q:z<0
 ·obtain⟨rfl,rfl⟩:=zaC V Q
  rw[zz]
  have O:SumOK C D o j (C.ts.length-q.pos):=Y.mono (by have:=X Q;omega)
  cases I:((ze C q.pos).kind==2) with
  |true=>exact zne C D o j S q d w E I
  |false=>
   cases J:isT C q.pos 4 zn with
   |true=>
    by_cases U:20≤d
    ·exact znf C D o j S q d w E I J U M
    ·exact zng C D o j S q d w E I J (by omega) O
   |false=>
    obtain⟨A,n,K⟩:=C
    cases K with
    |true=>
     by_cases H:q.pos<A.length
     ·cases N:isT (Cx.mk A n true) q.pos 1 za7 with
      |true=>exact znj A n D o j S q d w E I J H N
      |false=>
       cases L:zD (Cx.mk A n true) q.pos false with
       |false=>exact zni A n D o j S q d w E I J H N L
       |true=>
        cases M:isT (Cx.mk A n true) (q.pos+1) 4 cPoint with
        |false=>exact znk A n D o j S q d w E I J H N L M
        |true=>exact znl A n D o j S q d w E I J H N L M
     ·exact znh A n D o j S q d w E H
    |false=>
     by_cases H:q.pos<A.length
     ·cases L:zD (Cx.mk A n false) q.pos false with
      |false=>exact znn A n D o j S q d w E I J H L
      |true=>
       cases M:isT (Cx.mk A n false) (q.pos+1) 4 cPoint with
       |false=>exact zno A n D o j S q d w E I J H L M
       |true=>exact znp A n D o j S q d w E I J H L M
     ·exact znm A n D o j S q d w E H
 ·obtain⟨e,rfl,rfl⟩:=zdc V Q
  rw[zdU]
  obtain⟨A,n,K⟩:=C
  cases K with
  |true=>exact ziB A n D o j S q d w E e
  |false=>exact ziC A n D o j S q d w E e
theorem zgF {C:Cx} {x:PR} {q:PS} {z:Int} (h:Is x q z) (F:PS→Ex):bd x (zN C (F q))=bd x fun q'=>zN C (F q') q':=by
 cases x with
 |ok a=>obtain⟨rfl,_⟩:=h;rfl
 |error e=>rfl
theorem ziE {C:Cx} {y:PS→Ex} {x:PR} {q:PS} {n:Nat} (o: ∀a,x= .ok a→n≤a.pos) (h:(bd x fun q'=>zN C (y q') q')= .ok q):n≤q.pos:=by
 obtain⟨a,j,z⟩:=zf h
 obtain⟨rfl,_⟩:=zb5 z
 exact o a j
theorem znr {C:Cx} {d m:Nat} {x:PR} {q n:PS} {z j:Int} (o:Is x q z) (A:Is (bd x (pE C .part d)) n j) (E:z<0→C.ts.length-q.pos<m) (I:j<0):C.ts.length-n.pos<m:=by
 obtain⟨e,_⟩:=zaC A I
 obtain⟨a,H,D⟩:=zf e
 subst H
 obtain⟨rfl,rfl⟩:=o
 have:=zaY D
 have:=E (by decide)
 omega
theorem zns {C:Cx} {d m:Nat} {x:PR} {q n:PS} {z j:Int} (o:Is x q z) (A:Is (bd x (pE C .prod d)) n j) (E:z<0→C.ts.length-q.pos<m) (I:j<0):C.ts.length-n.pos<m:=by
 obtain⟨e,_⟩:=zaC A I
 obtain⟨a,H,D⟩:=zf e
 subst H
 obtain⟨rfl,rfl⟩:=o
 have:=zaY D
 have:=E (by decide)
 omega
theorem znt {C:Cx} {d:Nat} {j q:PS} {z:Int} (h:Is (bd (.ok (adv j)) (pE C .part d)) q z) (n:z<0):1≤q.pos:=by
 obtain⟨e,_⟩:=zaC h n
 have:=zaY (show pE C .part d (adv j)= .ok q from e)
 rw[zx] at this
 omega
theorem ziF {C:Cx} {d:Nat} {j q:PS} {z:Int} (h:Is (bd (.ok (adv j)) (pE C .prod d)) q z) (n:z<0):1≤q.pos:=by
 obtain⟨e,_⟩:=zaC h n
 have:=zaY (show pE C .prod d (adv j)= .ok q from e)
 rw[zx] at this
 omega
theorem znu {C:Cx} {d:Nat} {F:PS→Ex} {j q:PS} {z:Int} (h:Is (bd (bd (.ok (adv j)) (pE C .part d)) fun q'=>zN C (F q') q') q z) (o:z<0):j.pos+1≤q.pos:=by
 obtain⟨e,_⟩:=zaC h o
 exact ziE (fun a n=>by have:=zaY (show pE C .part d (adv j)= .ok a from n);rw[zx] at this;exact this) e
theorem ziG {C:Cx} {d:Nat} {F:PS→Ex} {j q:PS} {z:Int} (h:Is (bd (bd (.ok (adv j)) (pE C .prod d)) fun q'=>zN C (F q') q') q z) (o:z<0):j.pos+1≤q.pos:=by
 obtain⟨e,_⟩:=zaC h o
 exact ziE (fun a n=>by have:=zaY (show pE C .prod d (adv j)= .ok a from n);rw[zx] at this;exact this) e
theorem znv {C:Cx} {d:Nat} {q:PS} (j:isT C q.pos 4 zw=true) (_:q.pos<C.ts.length):
  bd (.ok q) (pE C .prodT d)=bd (bd (bd (.ok (adv q)) (pE C .part d)) fun q'=>zN C ⟨8,0,sNone,sNone,(q.ex.length:Int)-1,(q'.ex.length:Int)-1⟩ q') (pE C .prodT d):=by
 show pE C .prodT d q=_
 rw[zfo,if_pos j]
 rfl
theorem ziH {C:Cx} {d:Nat} {q:PS} {k:Int} (j:(isT C q.pos 4 zbU||isT C q.pos 4 zbb)=true) (n:zcY C q.pos=k) (_:q.pos<C.ts.length):
  bd (.ok q) (pE C .sumT d)=bd (bd (bd (.ok (adv q)) (pE C .prod d)) fun q'=>zN C ⟨k,0,sNone,sNone,(q.ex.length:Int)-1,(q'.ex.length:Int)-1⟩ q') (pE C .sumT d):=by
 show pE C .sumT d q=_
 rw[ze7,if_pos j,n]
 rfl
theorem znw {C:Cx} {d:Nat} {x:PR} {q:PS} {z:Int} (n:Is x q z) (j:(decide (z<0)&&isT C q.pos 4 zw)=false):Is (bd x (pE C .prodT d)) q z:=by
 cases x with
 |ok a=>
  obtain⟨rfl,rfl⟩:=n
  rw[Bool.and_eq_false_iff] at j
  rw[zz,zfo,j.resolve_left (by decide)]
  exact⟨rfl,rfl⟩
 |error e=>exact n
theorem znx {C:Cx} {d:Nat} {x:PR} {q:PS} {z:Int} (o:Is x q z) (n:(decide (z<0)&&isT C q.pos 4 zbU)=false) (j:(decide (z<0)&&isT C q.pos 4 zbb)=false):Is (bd x (pE C .sumT d)) q z:=by
 cases x with
 |ok a=>
  obtain⟨rfl,rfl⟩:=o
  rw[Bool.and_eq_false_iff] at n j
  rw[zz,ze7,n.resolve_left (by decide),j.resolve_left (by decide)]
  exact⟨rfl,rfl⟩
 |error e=>exact o
theorem zny {C:Cx} {i:Nat} (h:isT C i 4 zbU=true):isT C i 4 zbb=false:=by
 simp only[isT,Bool.and_eq_true,beq_iff_eq] at h
 simp only[isT,h.2]
 rw[Bool.and_eq_false_iff]
 exact .inr (by simp)
theorem ziI {C:Cx} {gt H D m:Nat} (hP:zgE C gt H D m):ziD C gt H D m:=by
 intro x S q z d w hx hm hl ad
 have HP:=zc hP
 have HM:=zc hm
 have HX:=zc hx
 have HL:=zc hl
 have ae:=hm.few
 clear hP hm hx hl
 unfold pv
 go_enter Tryz.func136,Tryz.ntmps136
 go_wp2_with fail
 refine (HP.out x S q z d _ HX.out ((HM.out.alloc _).alloc _) HL.out ad).mono ?_
 rintro e w1 ⟨S1,q1,z1,rfl,i1,m1,s1⟩
 obtain⟨X0,X1,t1⟩:=HM.out.two2 s1
 have j:=zc X0
 have n:=zc X1
 have ar:=zc m1
 have ax:=zc t1
 have ak:=zc i1
 clear X0 X1 i1 m1 t1 s1
 obtain⟨V,Q,X,a3,a4,M,L,Y,U,Z,o,A,N⟩:=j.out.box
 unfold pv
 go_wp2
 go_loopg [] (C.ts.length+1) (fun k wr=>∃(x':PR) (J:Sv) (I:PS) (z':Int),Is x' I z'∧bd x' (pE C .prodT d)=bd x (pE C .prod d)∧(z'<0→C.ts.length-I.pos<k)∧(z'<0→C.ts.length-I.pos<m)∧Mem C gt H D J I wr∧SB w.heap.size S w J wr∧Bx gt J wr w.heap.size #[.slice (some ⟨gt,0,none⟩) C.ts.length H,.int .i64 I.pos,.int .i64 C.fin,.bool C.scr,.slice J.rq.a I.rq.length J.rq.cap,.slice J.im.a I.im.length J.im.cap,.slice J.ep.a I.ep.length J.ep.cap,.slice J.st.a I.st.length J.st.cap,.slice J.ex.a I.ex.length J.ex.cap,.slice J.la.a I.la.length J.la.cap,.int .i64 z',.int .i64 d]∧Bx gt J wr (w.heap.size+1) #[.slice none 0 0,.int .i64 0,.int .i64 0,.bool false,.slice none 0 0,.slice none 0 0,.slice none 0 0,.slice none 0 0,.slice none 0 0,.slice none 0 0,.int .i64 0,.int .i64 0])
 case atStart=>exact⟨_,S1,q1,z1,ak.out,by rw[zM];exact zab fun a _=>(zhD C d a).symm,fun _=>by omega,fun hz=>znr HX.out ak.out HL.out hz,(ar.out.put j.out ..),(ax.out.put (by omega) ..),(j.out.put ..),(n.out.other (by omega) ..)⟩
 case round=>
  obtain⟨x2,S2,O,z2,i2,e2,l2,b2,m2,t2,X0,X1⟩:=hrel
  have j:=zc X0
  have n:=zc X1
  have K:=zc m2
  have aa:=zc t2
  have al:=zc i2
  have ao:=zc e2
  have aw:=zc l2
  have aq:=zc b2
  have aD:=m2.inv.ex
  clear X0 X1 i2 m2 t2 e2 l2 b2
  cases hc:(decide (z2<0)&&isT C O.pos 4 zw) with
  |true=>
   obtain⟨V,Q,X,a3,a4,M,L,Y,U,Z,o,A,N⟩:=j.out.box
   go_wp2_with fail
   refine (zh C gt H D S2 O z2 d 4 zw _ K.out.tok ae (by decide)).mono ?_
   rintro e w3 ⟨rfl,E⟩
   rw[hc]
   replace j:=zc (j.out.below E)
   replace n:=zc (n.out.below E)
   have ab:=zc (aa.out.below E)
   have ac:=zc (K.out.later E)
   clear E aa K
   clear V Q X a3 a4 M L Y U Z o A N
   rw[Bool.and_eq_true,decide_eq_true_eq] at hc
   obtain⟨hz,hs⟩:=hc
   have hp:O.pos<C.ts.length:=za1 hs (by decide)
   obtain⟨rfl,rfl⟩:=zaC al.out hz
   have aC:=aw.out hz
   have az:=aq.out hz
   skip
   obtain⟨V,Q,X,a3,a4,M,L,Y,U,Z,o,A,N⟩:=j.out.box
   go_wp2_with fail
   refine (HP.out (.ok (adv O)) S2 (adv O) (-1) d _ (zX _) ((ac.out.adv hp).set j.out 1 _) (fun _=>by rw[zx];omega) ad).mono ?_
   rintro e w4 ⟨S4,q4,z4,rfl,i4,m4,s4⟩
   replace j:=zc ((j.out.at1 _).stp s4)
   replace n:=zc ((n.out.set_other (by omega) 1 _).stp s4)
   have am:Hid (SB w.heap.size S w S4 w4):=(ab.out.set (by omega) 1 _).step s4
   clear ab
   have an:=zc m4
   have ai:=zc i4
   clear i4 m4 s4 ac
   clear V Q X a3 a4 M L Y U Z o A N
   obtain⟨V,Q,X,a3,a4,M,L,Y,U,Z,o,A,N⟩:=j.out.box
   unfold pv
   go_upto_region 6 with fail
   refine zL (R:=fun W=>Bx gt S4 W (w.heap.size) _∧Bx gt S4 W (w.heap.size+1) _∧Mem C gt H D S4 q4 W∧SB w.heap.size S w S4 W) ⟨(j.out.put ..),(n.out.other (by omega) ..),(an.out.put j.out ..),(am.out.put (by omega) ..)⟩ ?_
   clear V Q X a3 a4 M L Y U Z o A N
   clear j n am an
   rintro w5 ⟨X0,X1,m5,t5⟩
   have j:=zc X0
   have n:=zc X1
   have ah:=zc m5
   have aj:=zc t5
   clear m5 t5 X0 X1
   obtain⟨V,Q,X,a3,a4,M,L,Y,U,Z,o,A,N⟩:=j.out.box
   have ay:=ah.out.inv.ex
   go_wp2_with fail
   refine (zcK C gt H D _ S4 q4 z4 d ⟨8,0,sNone,sNone,(O.ex.length:Int)-1,(q4.ex.length:Int)-1⟩ _ ai.out ah.out (fun h=>znt ai.out h)).mono ?_
   rintro e w6 ⟨S6,q6,z6,rfl,i6,m6,s6⟩
   replace j:=zc (j.out.stp s6)
   replace n:=zc (n.out.stp s6)
   have ap:=zc (aj.out.step s6)
   clear aj
   have au:=zc m6
   have av:=zc i6
   clear i6 m6 s6 ah
   clear V Q X a3 a4 M L Y U Z o A N
   have HI:Hid (Is (bd (bd (.ok (adv O)) (pE C .part d)) fun I=>zN C ⟨8,0,sNone,sNone,(O.ex.length:Int)-1,(I.ex.length:Int)-1⟩ I) q6 z6):=by rw[←zgF ai.out (fun I=>⟨8,0,sNone,sNone,(O.ex.length:Int)-1,(I.ex.length:Int)-1⟩)];exact av.out
   have ag:Hid (z6<0→O.pos+1≤q6.pos):=fun h=>znu HI.out h
   obtain⟨V,Q,X,a3,a4,M,L,Y,U,Z,o,A,N⟩:=j.out.box
   unfold pv
   go_wp2
   go_roundg (gk-1)
   case rel=>exact⟨_,S6,q6,z6,HI.out,by rw[←ao.out];exact (znv (d:=d) hs hp).symm,fun h=>by have:=ag.out h;omega,fun h=>by have:=ag.out h;omega,(au.out.put j.out ..),(ap.out.put (by omega) ..),(j.out.put ..),(n.out.other (by omega) ..)⟩
   case measure=>omega
  |false=>
   obtain⟨V,Q,X,a3,a4,M,L,Y,U,Z,o,A,N⟩:=j.out.box
   go_wp2_with fail
   refine (zh C gt H D S2 O z2 d 4 zw _ K.out.tok ae (by decide)).mono ?_
   rintro e w3 ⟨rfl,E⟩
   rw[hc]
   replace j:=zc (j.out.below E)
   replace n:=zc (n.out.below E)
   have ab:=zc (aa.out.below E)
   have ac:=zc (K.out.later E)
   clear E aa K
   clear V Q X a3 a4 M L Y U Z o A N
   obtain⟨V,Q,X,a3,a4,M,L,Y,U,Z,o,A,N⟩:=j.out.box
   obtain⟨b0,b1,b2,b3,b4,b5,b6,b7,b8,b9,aB,aA,bf⟩:=n.out.box
   go_wp2
   refine bodyPost_ret (results_cell_row rfl _ _ (w.heap.size+1) 53 _ (0,0) _ rfl ((n.out.put ..)).heap Tryz.underlying53 rfl (by kernel_rfl)) rfl ?_
   exact zY rfl (show Is (bd x (pE C .prod d)) O z2 from by rw[←ao.out];exact znw al.out hc) (ac.out.put n.out ..) (ab.out.put (by omega) ..)
theorem ziJ {C:Cx} {gt I D m:Nat} (hP:ziD C gt I D m):SumOK C gt I D m:=by
 intro x S q z d w hx hm hl ao
 have HP:=zc hP
 have HM:=zc hm
 have HX:=zc hx
 have HL:=zc hl
 have ab:=hm.few
 clear hP hm hx hl
 unfold pv
 go_enter Tryz.func75,Tryz.ntmps75
 go_wp2_with fail
 refine (HP.out x S q z d _ HX.out ((HM.out.alloc _).alloc _) HL.out ao).mono ?_
 rintro e w1 ⟨S1,q1,z1,rfl,i1,m1,s1⟩
 obtain⟨X0,X1,t1⟩:=HM.out.two2 s1
 have j:=zc X0
 have n:=zc X1
 have aG:=zc m1
 have aK:=zc t1
 have ay:=zc i1
 clear X0 X1 i1 m1 t1 s1
 obtain⟨O,M,Q,Y,X,K,J,U,N,V,o,A,L⟩:=j.out.box
 unfold pv
 go_wp2
 go_loopg [] (C.ts.length+1) (fun k wr=>∃(x':PR) (S':Sv) (q':PS) (z':Int),Is x' q' z'∧bd x' (pE C .sumT d)=bd x (pE C .sum d)∧(z'<0→C.ts.length-q'.pos<k)∧(z'<0→C.ts.length-q'.pos<m)∧Mem C gt I D S' q' wr∧SB w.heap.size S w S' wr∧Bx gt S' wr w.heap.size #[.slice (some ⟨gt,0,none⟩) C.ts.length I,.int .i64 q'.pos,.int .i64 C.fin,.bool C.scr,.slice S'.rq.a q'.rq.length S'.rq.cap,.slice S'.im.a q'.im.length S'.im.cap,.slice S'.ep.a q'.ep.length S'.ep.cap,.slice S'.st.a q'.st.length S'.st.cap,.slice S'.ex.a q'.ex.length S'.ex.cap,.slice S'.la.a q'.la.length S'.la.cap,.int .i64 z',.int .i64 d]∧Bx gt S' wr (w.heap.size+1) #[.slice none 0 0,.int .i64 0,.int .i64 0,.bool false,.slice none 0 0,.slice none 0 0,.slice none 0 0,.slice none 0 0,.slice none 0 0,.slice none 0 0,.int .i64 0,.int .i64 0])
 case atStart=>exact⟨_,S1,q1,z1,ay.out,by rw[zM];exact zab fun a _=>(zhC C d a).symm,fun _=>by omega,fun hz=>zns HX.out ay.out HL.out hz,(aG.out.put j.out ..),(aK.out.put (by omega) ..),(j.out.put ..),(n.out.other (by omega) ..)⟩
 case round=>
  obtain⟨x2,S2,H,z2,i2,e2,l2,b2,m2,t2,X0,X1⟩:=hrel
  have j:=zc X0
  have n:=zc X1
  have aj:=zc m2
  have aq:=zc t2
  have aw:=zc i2
  have ax:=zc e2
  have aC:=zc l2
  have az:=zc b2
  have aN:=m2.inv.ex
  clear X0 X1 i2 m2 t2 e2 l2 b2
  cases hc:(decide (z2<0)&&isT C H.pos 4 zbU) with
  |true=>
   obtain⟨O,M,Q,Y,X,K,J,U,N,V,o,A,L⟩:=j.out.box
   go_wp2_with fail
   refine (zh C gt I D S2 H z2 d 4 zbU _ aj.out.tok ab (by decide)).mono ?_
   rintro e w3 ⟨rfl,Z⟩
   rw[hc]
   replace j:=zc (j.out.below Z)
   replace n:=zc (n.out.below Z)
   have ah:=zc (aq.out.below Z)
   have aa:=zc (aj.out.later Z)
   clear Z aq aj
   clear O M Q Y X K J U N V o A L
   rw[Bool.and_eq_true,decide_eq_true_eq] at hc
   obtain⟨hz,hs⟩:=hc
   have aA:isT C H.pos 4 zbb=false:=zny hs
   have ac:(decide (z2<0)&&isT C H.pos 4 zbb)=false:=by rw[aA,Bool.and_false]
   obtain⟨O,M,Q,Y,X,K,J,U,N,V,o,A,L⟩:=j.out.box
   go_wp2_with fail
   refine (zh C gt I D S2 H z2 d 4 zbb _ aa.out.tok ab (by decide)).mono ?_
   rintro e w4 ⟨rfl,E⟩
   rw[ac]
   replace j:=zc (j.out.below E)
   replace n:=zc (n.out.below E)
   have ag:=zc (ah.out.below E)
   have ad:=zc (aa.out.later E)
   clear E ah aa
   clear O M Q Y X K J U N V o A L
   clear ac
   have hp:H.pos<C.ts.length:=za1 hs (by decide)
   obtain⟨rfl,rfl⟩:=zaC aw.out hz
   have aH:=aC.out hz
   have aE:=az.out hz
   skip
   obtain⟨O,M,Q,Y,X,K,J,U,N,V,o,A,L⟩:=j.out.box
   go_wp2_with fail
   refine (HP.out (.ok (adv H)) S2 (adv H) (-1) d _ (zX _) ((ad.out.adv hp).set j.out 1 _) (fun _=>by rw[zx];omega) ao).mono ?_
   rintro e w5 ⟨S5,q5,z5,rfl,i5,m5,s5⟩
   replace j:=zc ((j.out.at1 _).stp s5)
   replace n:=zc ((n.out.set_other (by omega) 1 _).stp s5)
   have am:Hid (SB w.heap.size S w S5 w5):=(ag.out.set (by omega) 1 _).step s5
   clear ag
   have al:=zc m5
   have au:=zc i5
   clear i5 m5 s5 ad
   clear O M Q Y X K J U N V o A L
   obtain⟨O,M,Q,Y,X,K,J,U,N,V,o,A,L⟩:=j.out.box
   unfold pv
   go_upto_region 9 with fail
   refine zL (R:=fun W=>Bx gt S5 W (w.heap.size) _∧Bx gt S5 W (w.heap.size+1) _∧Mem C gt I D S5 q5 W∧SB w.heap.size S w S5 W) ⟨(j.out.put ..),(n.out.other (by omega) ..),(al.out.put j.out ..),(am.out.put (by omega) ..)⟩ ?_
   clear O M Q Y X K J U N V o A L
   clear j n am al
   rintro w6 ⟨X0,X1,m6,t6⟩
   have j:=zc X0
   have n:=zc X1
   have ai:=zc m6
   have ak:=zc t6
   clear m6 t6 X0 X1
   obtain⟨O,M,Q,Y,X,K,J,U,N,V,o,A,L⟩:=j.out.box
   have aB:=ai.out.inv.ex
   go_wp2_with fail
   refine (zcK C gt I D _ S5 q5 z5 d ⟨6,0,sNone,sNone,(H.ex.length:Int)-1,(q5.ex.length:Int)-1⟩ _ au.out ai.out (fun h=>ziF au.out h)).mono ?_
   rintro e w7 ⟨S7,q7,z7,rfl,i7,m7,s7⟩
   replace j:=zc (j.out.stp s7)
   replace n:=zc (n.out.stp s7)
   have ar:=zc (ak.out.step s7)
   clear ak
   have ap:=zc m7
   have aI:=zc i7
   clear i7 m7 s7 ai
   clear O M Q Y X K J U N V o A L
   have HI:Hid (Is (bd (bd (.ok (adv H)) (pE C .prod d)) fun q'=>zN C ⟨6,0,sNone,sNone,(H.ex.length:Int)-1,(q'.ex.length:Int)-1⟩ q') q7 z7):=by rw[←zgF au.out (fun q'=>⟨6,0,sNone,sNone,(H.ex.length:Int)-1,(q'.ex.length:Int)-1⟩)];exact aI.out
   have ae:Hid (z7<0→H.pos+1≤q7.pos):=fun h=>ziG HI.out h
   obtain⟨O,M,Q,Y,X,K,J,U,N,V,o,A,L⟩:=j.out.box
   unfold pv
   go_wp2
   go_roundg (gk-1)
   case rel=>exact⟨_,S7,q7,z7,HI.out,by rw[←ax.out];exact (ziH (d:=d) (by rw[hs];rfl) (show zcY C H.pos=6 by rw[zcY,aA];rfl) hp).symm,fun h=>by have:=ae.out h;omega,fun h=>by have:=ae.out h;omega,(ap.out.put j.out ..),(ar.out.put (by omega) ..),(j.out.put ..),(n.out.other (by omega) ..)⟩
   case measure=>omega
  |false=>
   obtain⟨O,M,Q,Y,X,K,J,U,N,V,o,A,L⟩:=j.out.box
   go_wp2_with fail
   refine (zh C gt I D S2 H z2 d 4 zbU _ aj.out.tok ab (by decide)).mono ?_
   rintro e w3 ⟨rfl,Z⟩
   rw[hc]
   replace j:=zc (j.out.below Z)
   replace n:=zc (n.out.below Z)
   have ah:=zc (aq.out.below Z)
   have aa:=zc (aj.out.later Z)
   clear Z aq aj
   clear O M Q Y X K J U N V o A L
   cases ac:(decide (z2<0)&&isT C H.pos 4 zbb) with
   |true=>
    obtain⟨O,M,Q,Y,X,K,J,U,N,V,o,A,L⟩:=j.out.box
    go_wp2_with fail
    refine (zh C gt I D S2 H z2 d 4 zbb _ aa.out.tok ab (by decide)).mono ?_
    rintro e w4 ⟨rfl,E⟩
    rw[ac]
    replace j:=zc (j.out.below E)
    replace n:=zc (n.out.below E)
    have ag:=zc (ah.out.below E)
    have ad:=zc (aa.out.later E)
    clear E ah aa
    clear O M Q Y X K J U N V o A L
    obtain⟨O,M,Q,Y,X,K,J,U,N,V,o,A,L⟩:=j.out.box
    go_wp2_with fail
    refine (zh C gt I D S2 H z2 d 4 zbb _ ad.out.tok ab (by decide)).mono ?_
    rintro e w5 ⟨rfl,an⟩
    rw[ac]
    replace j:=zc (j.out.below an)
    replace n:=zc (n.out.below an)
    have am:=zc (ag.out.below an)
    have al:=zc (ad.out.later an)
    clear an ag ad
    clear O M Q Y X K J U N V o A L
    rw[Bool.and_eq_true,decide_eq_true_eq] at ac
    obtain⟨hz,hs⟩:=ac
    have hp:H.pos<C.ts.length:=za1 hs (by decide)
    obtain⟨rfl,rfl⟩:=zaC aw.out hz
    have aH:=aC.out hz
    have aE:=az.out hz
    skip
    obtain⟨O,M,Q,Y,X,K,J,U,N,V,o,A,L⟩:=j.out.box
    go_wp2_with fail
    refine (HP.out (.ok (adv H)) S2 (adv H) (-1) d _ (zX _) ((al.out.adv hp).set j.out 1 _) (fun _=>by rw[zx];omega) ao).mono ?_
    rintro e w6 ⟨S6,q6,z6,rfl,i6,m6,s6⟩
    replace j:=zc ((j.out.at1 _).stp s6)
    replace n:=zc ((n.out.set_other (by omega) 1 _).stp s6)
    have ak:Hid (SB w.heap.size S w S6 w6):=(am.out.set (by omega) 1 _).step s6
    clear am
    have ai:=zc m6
    have av:=zc i6
    clear i6 m6 s6 al
    clear O M Q Y X K J U N V o A L
    obtain⟨O,M,Q,Y,X,K,J,U,N,V,o,A,L⟩:=j.out.box
    unfold pv
    go_upto_region 9 with fail
    refine zL (R:=fun W=>Bx gt S6 W (w.heap.size) _∧Bx gt S6 W (w.heap.size+1) _∧Mem C gt I D S6 q6 W∧SB w.heap.size S w S6 W) ⟨(j.out.put ..),(n.out.other (by omega) ..),(ai.out.put j.out ..),(ak.out.put (by omega) ..)⟩ ?_
    clear O M Q Y X K J U N V o A L
    clear j n ak ai
    rintro w7 ⟨X0,X1,m7,t7⟩
    have j:=zc X0
    have n:=zc X1
    have ap:=zc m7
    have ar:=zc t7
    clear m7 t7 X0 X1
    obtain⟨O,M,Q,Y,X,K,J,U,N,V,o,A,L⟩:=j.out.box
    have aB:=ap.out.inv.ex
    go_wp2_with fail
    refine (zcK C gt I D _ S6 q6 z6 d ⟨7,0,sNone,sNone,(H.ex.length:Int)-1,(q6.ex.length:Int)-1⟩ _ av.out ap.out (fun h=>ziF av.out h)).mono ?_
    rintro e w8 ⟨S8,q8,z8,rfl,i8,m8,s8⟩
    replace j:=zc (j.out.stp s8)
    replace n:=zc (n.out.stp s8)
    have aD:=zc (ar.out.step s8)
    clear ar
    have aJ:=zc m8
    have aF:=zc i8
    clear i8 m8 s8 ap
    clear O M Q Y X K J U N V o A L
    have HI:Hid (Is (bd (bd (.ok (adv H)) (pE C .prod d)) fun q'=>zN C ⟨7,0,sNone,sNone,(H.ex.length:Int)-1,(q'.ex.length:Int)-1⟩ q') q8 z8):=by rw[←zgF av.out (fun q'=>⟨7,0,sNone,sNone,(H.ex.length:Int)-1,(q'.ex.length:Int)-1⟩)];exact aF.out
    have ae:Hid (z8<0→H.pos+1≤q8.pos):=fun h=>ziG HI.out h
    obtain⟨O,M,Q,Y,X,K,J,U,N,V,o,A,L⟩:=j.out.box
    unfold pv
    go_wp2
    go_roundg (gk-1)
    case rel=>exact⟨_,S8,q8,z8,HI.out,by rw[←ax.out];exact (ziH (d:=d) (by rw[hs,Bool.or_true]) (show zcY C H.pos=7 by rw[zcY,hs];rfl) hp).symm,fun h=>by have:=ae.out h;omega,fun h=>by have:=ae.out h;omega,(aJ.out.put j.out ..),(aD.out.put (by omega) ..),(j.out.put ..),(n.out.other (by omega) ..)⟩
    case measure=>omega
   |false=>
    obtain⟨O,M,Q,Y,X,K,J,U,N,V,o,A,L⟩:=j.out.box
    go_wp2_with fail
    refine (zh C gt I D S2 H z2 d 4 zbb _ aa.out.tok ab (by decide)).mono ?_
    rintro e w4 ⟨rfl,E⟩
    rw[ac]
    replace j:=zc (j.out.below E)
    replace n:=zc (n.out.below E)
    have ag:=zc (ah.out.below E)
    have ad:=zc (aa.out.later E)
    clear E ah aa
    clear O M Q Y X K J U N V o A L
    obtain⟨O,M,Q,Y,X,K,J,U,N,V,o,A,L⟩:=j.out.box
    obtain⟨b0,b1,b2,b3,b4,b5,b6,b7,b8,b9,aM,aL,bf⟩:=n.out.box
    go_wp2
    refine bodyPost_ret (results_cell_row rfl _ _ (w.heap.size+1) 53 _ (0,0) _ rfl ((n.out.put ..)).heap Tryz.underlying53 rfl (by kernel_rfl)) rfl ?_
    exact zY rfl (show Is (bd x (pE C .sum d)) H z2 from by rw[←ax.out];exact znx aw.out hc ac) (ad.out.put n.out ..) (ag.out.put (by omega) ..)
theorem znz (C:Cx) (A n j:Nat):zgE C A n j 0:=by
 intro x S q z d w J H K L
 by_cases I:z<0
 ·have:=K I
  omega
 ·obtain⟨e,rfl,rfl⟩:=zdc J I
  rw[zdU]
  obtain⟨E,o,D⟩:=C
  cases D with
  |true=>exact ziB E o A n j S q d w H e
  |false=>exact ziC E o A n j S q d w H e
theorem zn0 (C:Cx) (o n j:Nat) (m:Nat):SumOK C o n j m:=by
 induction m with
 |zero=>exact ziJ (ziI (znz C o n j))
 |succ m q=>exact ziJ (ziI (znq q))
theorem zcN (C:Cx) (o n j:Nat) (x:PR) (S:Sv) (q:PS) (z:Int) (w:World) (A:Is x q z) (D:Mem C o n j S q w):
  Calls Tryz.prog 75 #[pv C o n S q z 0] w (Out C o n j (bd x (pE C .sum 0)) 0 S w):=
 zn0 C o n j (C.ts.length+1) x S q z 0 w A D (fun _=>by omega) (by omega)
theorem Is2.withN {y:PRN} {q q':PS} {z z':Int} {n:ByteArray} {F:PR→ByteArray→PR} (h:Is2 y q z n) (D: ∀e n,F (.error e) n= .error e) (j:Is (F (zaK y) n) q' z'):Is2 (withN y F) q' z' n:=by
 cases y with
 |ok a=>
  obtain⟨_,_,rfl⟩:=h
  have e:zaK (.ok a)= .ok a.1:=rfl
  rw[e] at j
  show Is2 (bd (F (.ok a.1) a.2) fun q=>.ok (q,a.2)) q' z' a.2
  cases o:F (.ok a.1) a.2 with
  |ok b=>rw[o] at j;exact⟨j.1,j.2,rfl⟩
  |error e=>rw[o] at j;exact j
 |error e=>
  have A:zaK (.error e)= .error e:=rfl
  rw[A,D] at j
  exact j
theorem ziK {C:Cx} {z n j:Nat} {y:PRN} {d:Nat} {S o:Sv} {w q:World} {q':PS} {z':Int} {A:ByteArray} {v:Value} (E:v=pv C z n o q' z' d) (I:Is2 y q' z' A) (H:Mem C z n j o q' q) (D:SB w.heap.size S w o q):zdo C z n j y d S w (.returned (.tuple #[v,.string A])) q:=
 ⟨o,q',z',A,by rw[E],I,H,D.done⟩
theorem zgG (C:Cx) (E D o:Nat) (S:Sv) (q:PS) (w:World) (hm:Mem C E D o S q w):
  Calls Tryz.prog 72 #[pv C E D S q (-1) 0] w (zdo C E D o (zcj C q) 0 S w):=by
 have HM:=zc hm
 clear hm
 unfold pv
 go_enter Tryz.func72,Tryz.ntmps72
 go_wp2_with fail
 refine (zaH C E D o (.ok q) S q (-1) 0 zC _ (zX q) ((HM.out.alloc _).alloc _)).mono ?_
 rintro e w1 ⟨S1,q1,z1,rfl,i1,m1,s1⟩
 obtain⟨M,X1,t1⟩:=HM.out.two2 s1
 have z:=zc M
 have j:=zc X1
 have X:=zc m1
 have ae:=zc t1
 have af:=zc i1
 clear M X1 i1 m1 t1 s1
 go_wp2_with fail
 refine (zbe C E D o _ S1 q1 z1 0 false _ af.out X.out).mono ?_
 rintro e w2 ⟨S2,q2,z2,n2,rfl,i2,m2,s2⟩
 replace z:=zc (z.out.stp s2)
 replace j:=zc (j.out.stp s2)
 have L:=zc (ae.out.step s2)
 clear ae
 have J:=zc m2
 have Z:=zc i2
 clear i2 m2 s2 X
 have al:w.heap.size+1<w2.heap.size:=j.out.lt
 unfold pv
 go_wp2_with fail
 refine (zad C E D o _ S2 q2 z2 0 cEq _ Z.out.fst (J.out.alloc _)).mono ?_
 rintro e w3 ⟨S3,q3,z3,rfl,i3,m3,s3⟩
 replace z:=zc ((z.out.alloc _).stp s3)
 replace j:=zc ((j.out.alloc _).stp s3)
 replace A:=zc ((Bx.new J.out _).stp s3)
 have ab:Hid (SB w.heap.size S w S3 w3):=(L.out.alloc _).step s3
 clear L
 have ac:=zc m3
 have aj:=zc i3
 clear i3 m3 s3 J
 go_wp2_with fail
 refine (zcN C E D o _ S3 q3 z3 _ aj.out ac.out).mono ?_
 rintro e w4 ⟨S4,q4,z4,rfl,i4,m4,U⟩
 replace z:=zc (z.out.stp U)
 replace j:=zc (j.out.stp U)
 replace A:=zc (A.out.stp U)
 have aa:=zc (ab.out.step U)
 clear ab
 have ad:=zc m4
 have ag:=zc i4
 clear i4 m4 U ac
 go_wp2_with fail
 refine (zad C E D o _ S4 q4 z4 0 cSemi _ ag.out ad.out).mono ?_
 rintro e w5 ⟨K,q5,z5,rfl,i5,m5,s5⟩
 replace z:=zc (z.out.stp s5)
 replace j:=zc (j.out.stp s5)
 replace A:=zc (A.out.stp s5)
 have V:=zc (aa.out.step s5)
 clear aa
 have O:=zc m5
 have Q:=zc i5
 clear i5 m5 s5 ad
 obtain⟨c0,c1,c2,c3,c4,c5,c6,c7,c8,c9,H,I,cf⟩:=A.out.box
 unfold pv
 go_upto_region 3 with fail
 refine zL (R:=fun W=>Bx E K W (w.heap.size) _∧Bx E K W (w.heap.size+1) _∧Bx E K W (w2.heap.size) _∧Mem C E D o K q5 W∧SB w.heap.size S w K W) ⟨(z.out.other (by omega) ..),(j.out.other (by omega) ..),(A.out.put ..),(O.out.put A.out ..),(V.out.put (by omega) ..)⟩ ?_
 clear c0 c1 c2 c3 c4 c5 c6 c7 c8 c9 H I cf
 clear z j A V O
 rintro w6 ⟨M,X1,X2,m6,t6⟩
 have z:=zc M
 have j:=zc X1
 have A:=zc X2
 have Y:=zc m6
 have N:=zc t6
 clear m6 t6 M X1 X2
 obtain⟨c0,c1,c2,c3,c4,c5,c6,c7,c8,c9,H,I,cf⟩:=A.out.box
 go_wp2_with fail
 refine (zcL C E D o _ K q5 z5 0 1 n2 _ Q.out Y.out (zbh Q.out)).mono ?_
 rintro e w7 ⟨S7,q7,z7,rfl,i7,m7,s7⟩
 replace z:=zc (z.out.stp s7)
 replace j:=zc (j.out.stp s7)
 replace A:=zc (A.out.stp s7)
 have ai:=zc (N.out.step s7)
 clear N
 have ah:=zc m7
 have ak:=zc i7
 clear i7 m7 s7 Y
 clear c0 c1 c2 c3 c4 c5 c6 c7 c8 c9 H I cf
 obtain⟨b0,b1,b2,b3,b4,b5,b6,b7,b8,b9,an,am,bf⟩:=j.out.box
 unfold pv
 go_wp2
 refine bodyPost_ret (zaA rfl _ _ (w.heap.size+1) 53 _ (0,0) _ rfl ((j.out.put ..)).heap Tryz.underlying53 rfl (by kernel_rfl)) rfl ?_
 exact ziK rfl (Z.out.withN (F:=fun x n=>_) (fun _ _=>rfl) ak.out) (ah.out.put j.out ..) (ai.out.put (by omega) ..)
theorem zgH (C:Cx) (E D A:Nat) (S:Sv) (q:PS) (w:World) (hm:Mem C E D A S q w):
  Calls Tryz.prog 73 #[pv C E D S q (-1) 0] w (zdo C E D A (fnP C q) 0 S w):=by
 have HM:=zc hm
 clear hm
 unfold pv
 go_enter Tryz.func73,Tryz.ntmps73
 go_wp2_with fail
 refine (zaH C E D A (.ok q) S q (-1) 0 zT _ (zX q) ((HM.out.alloc _).alloc _)).mono ?_
 rintro e w1 ⟨S1,q1,z1,rfl,i1,m1,s1⟩
 obtain⟨K,X1,t1⟩:=HM.out.two2 s1
 have z:=zc K
 have o:=zc X1
 have ar:=zc m1
 have aL:=zc t1
 have aT:=zc i1
 clear K X1 i1 m1 t1 s1
 go_wp2_with fail
 refine (zbe C E D A _ S1 q1 z1 0 false _ aT.out ar.out).mono ?_
 rintro e w2 ⟨S2,q2,z2,n2,rfl,i2,m2,s2⟩
 replace z:=zc (z.out.stp s2)
 replace o:=zc (o.out.stp s2)
 have aj:=zc (aL.out.step s2)
 clear aL
 have ah:=zc m2
 have av:=zc i2
 clear i2 m2 s2 ar
 have aZ:w.heap.size+1<w2.heap.size:=o.out.lt
 unfold pv
 go_wp2_with fail
 refine (zad C E D A _ S2 q2 z2 0 zn _ av.out.fst (ah.out.alloc _)).mono ?_
 rintro e w3 ⟨S3,q3,z3,rfl,i3,m3,s3⟩
 replace z:=zc ((z.out.alloc _).stp s3)
 replace o:=zc ((o.out.alloc _).stp s3)
 replace j:=zc ((Bx.new ah.out _).stp s3)
 have aD:Hid (SB w.heap.size S w S3 w3):=(aj.out.alloc _).step s3
 clear aj
 have aI:=zc m3
 have aX:=zc i3
 clear i3 m3 s3 ah
 go_wp2_with fail
 refine (zad C E D A _ S3 q3 z3 0 za0 _ aX.out aI.out).mono ?_
 rintro e w4 ⟨S4,q4,z4,rfl,i4,m4,s4⟩
 replace z:=zc (z.out.stp s4)
 replace o:=zc (o.out.stp s4)
 replace j:=zc (j.out.stp s4)
 have ax:=zc (aD.out.step s4)
 clear aD
 have aJ:=zc m4
 have aW:=zc i4
 clear i4 m4 s4 aI
 go_wp2_with fail
 refine (zad C E D A _ S4 q4 z4 0 zJ _ aW.out aJ.out).mono ?_
 rintro e w5 ⟨S5,q5,z5,rfl,i5,m5,s5⟩
 replace z:=zc (z.out.stp s5)
 replace o:=zc (o.out.stp s5)
 replace j:=zc (j.out.stp s5)
 have ap:=zc (ax.out.step s5)
 clear ax
 have al:=zc m5
 have aS:=zc i5
 clear i5 m5 s5 aJ
 obtain⟨c0,Z,L,O,c4,X,c6,c7,N,Q,H,I,U⟩:=j.out.box
 unfold pv
 go_upto_region 3 with fail
 refine zL (R:=fun W=>Bx E S5 W (w.heap.size) _∧Bx E S5 W (w.heap.size+1) _∧Bx E S5 W (w2.heap.size) _∧Mem C E D A S5 q5 W∧SB w.heap.size S w S5 W) ⟨(z.out.other (by omega) ..),(o.out.other (by omega) ..),(j.out.put ..),(al.out.put j.out ..),(ap.out.put (by omega) ..)⟩ ?_
 clear c0 Z L O c4 X c6 c7 N Q H I U
 clear z o j ap al
 rintro w6 ⟨K,X1,X2,m6,t6⟩
 have z:=zc K
 have o:=zc X1
 have j:=zc X2
 have au:=zc m6
 have ak:=zc t6
 clear m6 t6 K X1 X2
 obtain⟨c0,Z,L,O,c4,X,c6,c7,N,Q,H,I,U⟩:=j.out.box
 go_wp2_with fail
 refine (zaH C E D A _ S5 q5 z5 0 zdT _ aS.out au.out).mono ?_
 rintro e w7 ⟨S7,q7,z7,rfl,i7,m7,s7⟩
 replace z:=zc (z.out.stp s7)
 replace o:=zc (o.out.stp s7)
 replace j:=zc (j.out.stp s7)
 have aB:=zc (ak.out.step s7)
 clear ak
 have aA:=zc m7
 have aY:=zc i7
 clear i7 m7 s7 au
 clear c0 Z L O c4 X c6 c7 N Q H I U
 go_wp2_with fail
 refine (zcN C E D A _ S7 q7 z7 _ aY.out aA.out).mono ?_
 rintro e w8 ⟨S8,q8,z8,rfl,i8,m8,s8⟩
 replace z:=zc (z.out.stp s8)
 replace o:=zc (o.out.stp s8)
 replace j:=zc (j.out.stp s8)
 have am:=zc (aB.out.step s8)
 clear aB
 have aG:=zc m8
 have aU:=zc i8
 clear i8 m8 s8 aA
 obtain⟨c0,Z,L,O,c4,X,c6,c7,N,Q,H,I,U⟩:=j.out.box
 unfold pv
 go_upto_region 4 with fail
 refine zL (R:=fun W=>Bx E S8 W (w.heap.size) _∧Bx E S8 W (w.heap.size+1) _∧Bx E S8 W (w2.heap.size) _∧Mem C E D A S8 q8 W∧SB w.heap.size S w S8 W) ⟨(z.out.other (by omega) ..),(o.out.other (by omega) ..),(j.out.put ..),(aG.out.put j.out ..),(am.out.put (by omega) ..)⟩ ?_
 clear c0 Z L O c4 X c6 c7 N Q H I U
 clear z o j am aG
 rintro w9 ⟨K,X1,X2,m9,t9⟩
 have z:=zc K
 have o:=zc X1
 have j:=zc X2
 have aN:=zc m9
 have aF:=zc t9
 clear m9 t9 K X1 X2
 obtain⟨c0,Z,L,O,c4,X,c6,c7,N,Q,H,I,U⟩:=j.out.box
 go_wp2_with fail
 refine (zad C E D A _ S8 q8 z8 0 cSemi _ aU.out aN.out).mono ?_
 rintro e a4 ⟨aQ,aV,aP,rfl,aH,aE,V⟩
 replace z:=zc (z.out.stp V)
 replace o:=zc (o.out.stp V)
 replace j:=zc (j.out.stp V)
 have ac:=zc (aF.out.step V)
 clear aF
 have af:=zc aE
 have ai:=zc aH
 clear aH aE V aN
 clear c0 Z L O c4 X c6 c7 N Q H I U
 go_wp2_with fail
 refine (zad C E D A _ aQ aV aP 0 zbm _ ai.out af.out).mono ?_
 rintro e a7 ⟨J,aC,aR,rfl,ao,aK,Y⟩
 replace z:=zc (z.out.stp Y)
 replace o:=zc (o.out.stp Y)
 replace j:=zc (j.out.stp Y)
 have ad:=zc (ac.out.step Y)
 clear ac
 have aa:=zc aK
 have ae:=zc ao
 clear ao aK Y af
 obtain⟨c0,Z,L,O,c4,X,c6,c7,N,Q,H,I,U⟩:=j.out.box
 unfold pv
 go_upto_region 5 with fail
 refine zL (R:=fun W=>Bx E J W (w.heap.size) _∧Bx E J W (w.heap.size+1) _∧Bx E J W (w2.heap.size) _∧Mem C E D A J aC W∧SB w.heap.size S w J W) ⟨(z.out.other (by omega) ..),(o.out.other (by omega) ..),(j.out.put ..),(aa.out.put j.out ..),(ad.out.put (by omega) ..)⟩ ?_
 clear c0 Z L O c4 X c6 c7 N Q H I U
 clear z o j ad aa
 rintro a0 ⟨K,X1,X2,aq,aO⟩
 have z:=zc K
 have o:=zc X1
 have j:=zc X2
 have ab:=zc aq
 have ag:=zc aO
 clear aq aO K X1 X2
 obtain⟨c0,Z,L,O,c4,X,c6,c7,N,Q,H,I,U⟩:=j.out.box
 go_wp2_with fail
 refine (zcL C E D A _ J aC aR 0 2 n2 _ ae.out ab.out (zbh ae.out)).mono ?_
 rintro e a1 ⟨a5,a8,a6,rfl,an,aM,M⟩
 replace z:=zc (z.out.stp M)
 replace o:=zc (o.out.stp M)
 replace j:=zc (j.out.stp M)
 have aw:=zc (ag.out.step M)
 clear ag
 have ay:=zc aM
 have az:=zc an
 clear an aM M ab
 clear c0 Z L O c4 X c6 c7 N Q H I U
 obtain⟨b0,b1,b2,b3,b4,b5,b6,b7,b8,b9,a3,a2,bf⟩:=o.out.box
 unfold pv
 go_wp2
 refine bodyPost_ret (zaA rfl _ _ (w.heap.size+1) 53 _ (0,0) _ rfl ((o.out.put ..)).heap Tryz.underlying53 rfl (by kernel_rfl)) rfl ?_
 exact ziK rfl (av.out.withN (F:=fun x n=>_) (fun _ _=>rfl) az.out) (ay.out.put o.out ..) (aw.out.put (by omega) ..)
end Go.Proofs.YticdggnnpjachaaGreat
