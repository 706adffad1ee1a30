/-
  A row of pairs of names beside a program under way. No program is spoken of but for the numbers of its types.
  What spec's l4Tail answers: the walk.
  What spec's l4List answers: the walk.
  What spec's l4Part answers,if l4Sum answers so behind it: the walks.
  What spec's l4Part answers where no number and no bracket stands,in a script: the walks.
  What spec's l4Part answers where no number and no bracket stands: the walks.
  What spec's l4Part,l4Product and l4Sum answer: the walks of the two loops,and the three together.
  What spec's l4Let and l4Fn answer: the walks.
-/
import Derived.Deep.DeepCutAuto
import Derived.Test.YticdggnnpjachaaGreatCbSpecBox
namespace Go.Proofs.YticdggnnpjachaaGreat
set_option maxRecDepth 100000
set_option maxHeartbeats 6400000
open Go.RowKit Go.PlainAid
structure Row (S:Sv) (w:World) (base B:Nat) (r:Rw) (l:List Ep):Prop where
 own:OwnR w base 102 4 r l.length (l.flatMap epL)
 free: ∀k,r.blk=some k→¬S.has k
 new: ∀k,r.blk=some k→B≤k
 addr: ∃g,r.a=some ⟨g,0,none⟩
theorem Row.ne {o b:Nat} {S:Sv} {w:World} {j B:Nat} {r:Rw} {l:List Ep} {n:Array Value} (h:Row S w j B r l) (z:Bx o S w b n): ∀k,r.blk=some k→k≠b:=by
 rintro k q rfl
 obtain⟨_,_,c,g⟩:=h.own.typed q
 rw[z.heap] at g
 simp only[Option.some.injEq,Obj.cells.injEq] at g
 exact absurd g.2.1 (by decide)
theorem Row.stp {S o:Sv} {w q:World} {j B:Nat} {r:Rw} {l:List Ep} (h:Row S w j B r l) (s:Stp S w o q):Row o q j B r l:=
 ⟨h.own.keep fun k n=>s.block k (h.own.typed n).2.1 (h.free k n),fun k n g=>(s.sub k g).elim (h.free k n) fun z=>by have:=(h.own.typed n).2.1;omega,h.new,h.addr⟩
theorem Row.below {S:Sv} {w n:World} {j B:Nat} {r:Rw} {l:List Ep} (h:Row S w j B r l) (s:Below w.heap.size w n):Row S n j B r l:=h.stp (Stp.below s)
theorem Row.alloc {S:Sv} {w:World} {j B:Nat} {r:Rw} {l:List Ep} (h:Row S w j B r l) (o:Obj):Row S (w.alloc o) j B r l:=h.below ((Below.refl _ _).alloc (Nat.le_refl _) _)
theorem Row.drew {S:Sv} {w:World} {j B:Nat} {r:Rw} {l:List Ep} (h:Row S w j B r l):Row S w.drew j B r l:=⟨h.own,h.free,h.new,h.addr⟩
theorem Row.set {o b:Nat} {S:Sv} {w:World} {j B:Nat} {r:Rw} {l:List Ep} {n:Array Value} (h:Row S w j B r l) (z:Bx o S w b n) (i:Nat) (u:Value):Row S (w.setCell ⟨b,i,none⟩ u) j B r l:=
 ⟨h.own.keep fun k q=>zi (h.ne z k q),h.free,h.new,h.addr⟩
theorem Row.put {H b:Nat} {S:Sv} {w:World} {j B:Nat} {r:Rw} {l:List Ep} {E:Array Value} (h:Row S w j B r l) (L:Bx H S w b E) (z q M I N J D Q O A o n:Value):Row S (set12 w b z q M I N J D Q O A o n) j B r l:=
 ⟨h.own.keep fun k K=>zeQ (h.ne L k K) _ _ _ _ _ _ _ _ _ _ _ _,h.free,h.new,h.addr⟩
theorem Row.nil {C:Cx} {z n j B:Nat} {S:Sv} {q:PS} {w:World} (h:Mem C z n j S q w) (A:B≤w.heap.size):Row S (w.alloc (.cells #[] 102 (0,0))) j B ⟨some ⟨w.heap.size,0,none⟩,0⟩ []:=by
 refine⟨World.ownsRow_lit w #[] 0 h.base (by unfold maxLen;omega) rfl,fun k o g=>?_,fun k o=>?_,⟨_,rfl⟩⟩
 ·simp only[Rw.blk,Value.ownBlock,Option.some.injEq] at o
  have:=(h.own.has g).2
  omega
 ·simp only[Rw.blk,Value.ownBlock,Option.some.injEq] at o
  omega
theorem Row.grow {C:Cx} {K D j B:Nat} {S:Sv} {q:PS} {W E:World} {r H:Rw} {l:List Ep} {x:Ep} (h:Row S W j B r l) (z:Mem C K D j S q W) (Q:B≤W.heap.size) (L:W.grownBy E r.blk) (M:OwnR E j 102 4 H (l.length+1) (l.flatMap epL++epL x)) (A:H.blk=r.blk∨H.blk=some W.heap.size):
  Row S E j B H (l++[x])∧Mem C K D j S q E:=by
 refine⟨⟨?_,fun k o g=>?_,fun k o=>?_,M.addr.resolve_left (by omega)⟩,?_⟩
 ·have e:(l++[x]).length=l.length+1:=by simp
  rw[e]
  simpa using M
 ·rcases A with e|e
  ·exact h.free k (by rw[←e];exact o) g
  ·have N:W.heap.size=k:=Option.some.inj (e.symm.trans o)
   have:=(z.own.has g).2
   omega
 ·rcases A with e|e
  ·exact h.new k (by rw[←e];exact o)
  ·have N:W.heap.size=k:=Option.some.inj (e.symm.trans o)
   omega
 ·have n: ∀k,k<W.heap.size→r.blk≠some k→E.heap[k]? =W.heap[k]?:=fun k o I=>L.block k o fun e=>I e.symm
  refine⟨z.own.keep fun k o=>n k (z.own.has o).2 fun e=>h.free k e o,z.inv,zbz z.tok (n K (zan z.tok).1 fun e=>?_),z.few,Nat.le_trans z.base L.size⟩
  obtain⟨_,_,c,g⟩:=h.own.typed e
  obtain⟨O,J⟩:=zfr z.tok
  rw[g] at J
  simp only[Option.some.injEq,Obj.cells.injEq] at J
  exact absurd J.2.1 (by decide)
theorem Row.bx {q b:Nat} {S:Sv} {W z:World} {n B:Nat} {r:Rw} {l:List Ep} {o:Array Value} (h:Row S W n B r l) (j:Bx q S W b o) (A:W.grownBy z r.blk):Bx q S z b o:=
 ⟨(A.block b j.lt fun e=>h.ne j b e.symm rfl).trans j.heap,j.free,j.ne⟩
theorem Row.sb {S S0:Sv} {w W q:World} {o:Nat} {B:Nat} {r:Rw} {l:List Ep} (h:Row S W o B r l) (j:SB B S0 w S W) (n:W.grownBy q r.blk):SB B S0 w S q:=
 ⟨n.os.trans j.os,n.tape.trans j.tape,n.output.trans j.output,Nat.le_trans j.size n.size,j.low,fun k A z=>(n.block k (by have:=j.size;have:=j.low;omega) fun e=>by have:=h.new k e.symm;omega).trans (j.block k A z),j.sub⟩
theorem Mem.list3 {C:Cx} {D A j:Nat} {S n:Sv} {q:PS} {w o:World} {z cb:Array Value} (h:Mem C D A j S q w) (s:Stp S (((w.alloc (.cells z 53 (0,0))).alloc (.cells cb 53 (0,0))).alloc (.cells #[] 102 (0,0))) n o):
  Bx D n o w.heap.size z∧Bx D n o (w.heap.size+1) cb∧Row n o j w.heap.size ⟨some ⟨w.heap.size+1+1,0,none⟩,0⟩ []∧SB w.heap.size S w n o:=by
 refine⟨(((Bx.new h _).alloc _).alloc _).stp s,?_,?_,(SB.start (zcI w _ _ _)).step s⟩
 ·have:=((Bx.new (h.alloc (.cells z 53 (0,0))) cb).alloc (.cells #[] 102 (0,0))).stp s
  rw[zk] at this
  exact this
 ·have:=(Row.nil (B:=w.heap.size) ((h.alloc (.cells z 53 (0,0))).alloc (.cells cb 53 (0,0))) (zaT w _ _).size).stp s
  rw[zc1] at this
  exact this
def Is3 (y:PRL) (q:PS) (z:Int) (l:List Ep):Prop:=
 match y with
 | .ok a=>q=a.1∧z= -1∧l=a.2
 | .error e=>z=(e:Int)
def zmX (C:Cx) (gt cap base:Nat) (y:PRL) (d:Nat) (S:Sv) (w:World) (e:Ending) (w':World):Prop:=
 ∃S' q' z' r l,e= .returned (.tuple #[pv C gt cap S' q' z' d,.slice r.a l.length r.cap,.bool (za8 l)])∧Is3 y q' z' l∧Mem C gt cap base S' q' w'∧Stp S w S' w'∧Row S' w' base w.heap.size r l∧l.length≤4001
theorem zi4 (l:List Ep) (x:Ep):za8 (l++[x])=(za8 l||(x.loc.toList==[100,101,102,97,117,108,116])):=by simp[za8]
theorem zmY {o:Func} {p u v:Tmp} {n:TypeId} (h:o.results= #[.cell p n,.tmp u,.tmp v]) (tmps:Array Value) (P:Program) (w:World):
  (results o tmps).run P w=((asAddr (tmps.getD p undef)).run P w).andThen fun a q=>((loadVar n a).run P q).andThen fun x j=>.ok (.tuple #[x,tmps.getD u undef,tmps.getD v undef]) j:=by
 simp only[results,h]
 simp[Sem.run_bind,Result.andThen]
theorem zi5 {P:Program} {q:Func} {p u v:Tmp} {n:TypeId} (h:q.results= #[.cell p n,.tmp u,.tmp v]) (tmps:Array Value) (w:World) (g:Nat) (t:TypeId) (j:Array Value) (o:Nat×Nat) (d:TypeDesc)
  (D:tmps.getD p undef= .pointer (some ⟨g,0,none⟩)) (z:w.heap[g]? =some (.cells j t o))
  (H:P.underlying n=some d) (E:(match d with| .struct _| .array _ _=>true|_=>false)=true) (A:(P.info? n).map (·.size)=some j.size):
  (results q tmps).run P w= .ok (.tuple #[.agg j,tmps.getD u undef,tmps.getD v undef]) w:=by
 rw[zmY h,D]
 simp[asAddr,Result.andThen,run_loadVar_row w g t n j o d z H E A]
theorem zbh {C:Cx} {x:PR} {k:Int} {s:ByteArray} {q:PS} {z:Int} (h:Is (bd x (zd C k s)) q z):z<0→1≤q.pos:=by
 intro n
 obtain⟨e,_⟩:=zaC h n
 obtain⟨a,_,j⟩:=zf e
 obtain⟨rfl,_⟩:=zb4 j
 simp[adv]
theorem zgD (C:Cx) (L z o:Nat) (S:Sv) (q:PS) (d:Nat) (nm:ByteArray) (w:World) (hm:Mem C L z o S q w) (hp:1≤q.pos):
  Calls Tryz.prog 191 #[pv C L z S q (-1) d,.string nm] w (Out C L z o (zbc C nm q) d S w):=by
 have HM:=zc hm
 have A:=hm.tok
 have O:=hm.few
 clear hm
 cases hi:isT C q.pos 4 zn with
 |true=>
  have HV:Hid (zbc C nm q=bd (bd (bd (.ok q) (zd C 4 zn)) (zd C 4 za0)) (zN C ⟨3,0,nm,sNone,0,0⟩)):=if_pos hi
  unfold pv
  go_enter Tryz.func191,Tryz.ntmps191
  go_wp2_with fail
  refine (zh C L z o S q (-1) d 4 zn _ (zq (zq A _) _) O (by decide)).mono ?_
  rintro e w1 ⟨rfl,I⟩
  rw[hi]
  obtain⟨X0,X1,m1,t1⟩:=HM.out.two I
  have n:=zc X0
  have j:=zc X1
  have J:=zc m1
  have H:=zc t1
  clear X0 X1 m1 t1 I
  clear A
  obtain⟨a0,a1,a2,a3,V,a5,a6,a7,U,a9,E,D,Y⟩:=n.out.box
  go_wp2_with fail
  refine (zad C L z o (.ok q) S q (-1) d zn _ (zX q) J.out).mono ?_
  rintro e w2 ⟨S2,q2,z2,rfl,i2,m2,M⟩
  replace n:=zc (n.out.stp M)
  replace j:=zc (j.out.stp M)
  have N:=zc (H.out.step M)
  clear H
  have K:=zc m2
  have Q:=zc i2
  clear i2 m2 M J
  clear a0 a1 a2 a3 V a5 a6 a7 U a9 E D Y
  go_wp2_with fail
  refine (zad C L z o _ S2 q2 z2 d za0 _ Q.out K.out).mono ?_
  rintro e w3 ⟨S3,q3,z3,rfl,i3,m3,s3⟩
  replace n:=zc (n.out.stp s3)
  replace j:=zc (j.out.stp s3)
  have Z:=zc (N.out.step s3)
  clear N
  have X:=zc m3
  have aa:=zc i3
  clear i3 m3 s3 K
  obtain⟨a0,a1,a2,a3,V,a5,a6,a7,U,a9,E,D,Y⟩:=n.out.box
  unfold pv
  go_wp2_with fail
  refine (zcJ C L z o _ S3 q3 z3 d ⟨3,0,nm,sNone,0,0⟩ _ aa.out (X.out.put n.out ..) (zbh aa.out)).mono ?_
  rintro e w4 ⟨S4,q4,z4,rfl,i4,m4,s4⟩
  replace n:=zc ((n.out.put ..).stp s4)
  replace j:=zc ((j.out.other (by omega) ..).stp s4)
  have ag:Hid (SB w.heap.size S w S4 w4):=(Z.out.put (by omega) ..).step s4
  clear Z
  have ab:=zc m4
  have ac:=zc i4
  clear i4 m4 s4 X
  clear a0 a1 a2 a3 V a5 a6 a7 U a9 E D Y
  obtain⟨b0,b1,b2,b3,b4,b5,b6,b7,b8,b9,ae,ad,bf⟩:=j.out.box
  unfold pv
  go_wp2
  refine bodyPost_ret (results_cell_row rfl _ _ (w.heap.size+1) 53 _ (0,0) _ rfl ((j.out.put ..)).heap Tryz.underlying53 rfl (by kernel_rfl)) rfl ?_
  rw[HV.out]
  exact zY rfl ac.out (ab.out.put j.out ..) (ag.out.put (by omega) ..)
 |false=>
  have HV:Hid (zbc C nm q=bd (.ok q) (zN C ⟨2,0,nm,sNone,0,0⟩)):=by show zbc C nm q=_;rw[zbc,hi];rfl
  unfold pv
  go_enter Tryz.func191,Tryz.ntmps191
  go_wp2_with fail
  refine (zh C L z o S q (-1) d 4 zn _ (zq (zq A _) _) O (by decide)).mono ?_
  rintro e w1 ⟨rfl,I⟩
  rw[hi]
  obtain⟨X0,X1,m1,t1⟩:=HM.out.two I
  have n:=zc X0
  have j:=zc X1
  have J:=zc m1
  have H:=zc t1
  clear X0 X1 m1 t1 I
  clear A
  obtain⟨a0,a1,a2,a3,V,a5,a6,a7,U,a9,E,D,Y⟩:=n.out.box
  go_wp2_with fail
  refine (zcJ C L z o (.ok q) S q (-1) d ⟨2,0,nm,sNone,0,0⟩ _ (zX q) J.out (fun _=>hp)).mono ?_
  rintro e w2 ⟨S2,q2,z2,rfl,i2,m2,M⟩
  replace n:=zc (n.out.stp M)
  replace j:=zc (j.out.stp M)
  have N:=zc (H.out.step M)
  clear H
  have K:=zc m2
  have Q:=zc i2
  clear i2 m2 M J
  clear a0 a1 a2 a3 V a5 a6 a7 U a9 E D Y
  obtain⟨b0,b1,b2,b3,b4,b5,b6,b7,b8,b9,ae,ad,bf⟩:=j.out.box
  unfold pv
  go_wp2
  refine bodyPost_ret (results_cell_row rfl _ _ (w.heap.size+1) 53 _ (0,0) _ rfl ((j.out.put ..)).heap Tryz.underlying53 rfl (by kernel_rfl)) rfl ?_
  rw[HV.out]
  exact zY rfl Q.out (K.out.put j.out ..) (N.out.put (by omega) ..)
theorem zmZ {C:Cx} {j:Bool} {l:List Ep} {Y:PRN} {z E:ByteArray} {L H A:PS} {M I q:Int} (N:Is2 Y L M z) (o:Is2 (bd Y (asP C j)) H I E) (K:(decide (I<0)&&isT C H.pos 4 zbw)=false) (n:Is (bd (zaK (bd Y (asP C j))) (zd C 4 zbm)) A q):
  Is3 (bd Y fun a=>bd (asP C j a) fun b=>if isT C b.1.pos 4 zbw then zax C j (adv b.1) (l++[⟨0,b.2,a.2,sNone⟩]) else bd (zd C 4 zbm b.1) fun q'=>.ok (q',l++[⟨0,b.2,a.2,sNone⟩])) A q (l++[⟨0,E,z,sNone⟩]):=by
 cases Y with
 |error e=>exact n
 |ok a=>
  obtain⟨_,_,rfl⟩:=N
  rw[zz] at o n ⊢
  cases D:asP C j a with
  |error e=>rw[D] at n;exact n
  |ok b=>
   rw[D] at o n
   obtain⟨rfl,rfl,rfl⟩:=o
   rw[Bool.and_eq_false_iff] at K
   rw[zz,K.resolve_left (by decide)]
   have e:bd (zaK (.ok b)) (zd C 4 zbm)=zd C 4 zbm b.1:=rfl
   rw[e] at n
   show Is3 (bd (zd C 4 zbm b.1) _) _ _ _
   cases J:zd C 4 zbm b.1 with
   |error e=>rw[J] at n;exact n
   |ok c=>rw[J] at n;exact⟨n.1,n.2,rfl⟩
theorem zna {C:Cx} {n:Bool} {l:List Ep} {o K z:PS} {I J:ByteArray} {L A:Int} (E:Is2 (bd (.ok o) (zj C true)) K L I) (j:Is2 (bd (bd (.ok o) (zj C true)) (asP C n)) z A J) (N:A<0) (M:isT C z.pos 4 zbw=true):
  (bd (.ok o) fun q=>zax C n q l)=(bd (.ok (adv z)) fun q=>zax C n q (l++[⟨0,J,I,sNone⟩]))∧o.pos+1≤z.pos:=by
 rw[zz] at E j ⊢
 rw[zz,zfs]
 cases D:zj C true o with
 |error e=>rw[D] at j;have:A=(e:Int):=j;omega
 |ok a=>
  rw[D] at E j
  obtain⟨_,_,rfl⟩:=E
  rw[zz] at j ⊢
  obtain⟨rfl,_⟩:=zbd D
  cases H:asP C n (adv o,(ze C o.pos).text) with
  |error e=>rw[H] at j;have:A=(e:Int):=j;omega
  |ok b=>
   rw[H] at j
   obtain⟨rfl,rfl,rfl⟩:=j
   have:=ze8 H
   rw[zz,M]
   exact⟨rfl,this⟩
theorem znb {C:Cx} {j:Bool} {x:PR} {q o:PS} {z n:Int} {l:List Ep} (A:Is x q z) (D: ¬z<0) (E:Is (bd x (zd C 4 zbm)) o n):Is3 (bd x fun q=>zax C j q l) o n l:=by
 obtain⟨e,rfl,_⟩:=zdc A D
 exact E
theorem znc {C:Cx} {j:Bool} {Y:PRN} {n q:PS} {o D:Int} {H A:ByteArray} (z:Is2 Y n o H) (E:(decide (o<0)&&isT C n.pos 1 sAs)=true) (I:Is2 (bd (.ok (adv n)) (zj C j)) q D A):Is2 (bd Y (asP C j)) q D A:=by
 rw[Bool.and_eq_true,decide_eq_true_eq] at E
 cases Y with
 |error e=>have:o=(e:Int):=z;omega
 |ok a=>
  obtain⟨rfl,_,_⟩:=z
  rw[zz,asP,if_pos E.2]
  exact I
theorem znd {C:Cx} {q:Bool} {Y:PRN} {j:PS} {n:Int} {o:ByteArray} (z:Is2 Y j n o) (A:(decide (n<0)&&isT C j.pos 1 sAs)=false) (D:((o.toList==[100,101,102,97,117,108,116])&& !exp)=true):Is2 (bd Y (asP C q)) j (zbp C j.pos n) o:=by
 cases Y with
 |error e=>
  have h:n=(e:Int):=z
  show zbp C j.pos n=(e:Int)
  rw[zbp,if_neg (by omega)]
  exact h
 |ok a=>
  obtain⟨rfl,rfl,rfl⟩:=z
  rw[Bool.and_eq_false_iff] at A
  rw[zz,asP,A.resolve_left (by decide),D]
  rfl
theorem zi6 {C:Cx} {q:Bool} {Y:PRN} {j:PS} {o:Int} {n:ByteArray} (z:Is2 Y j o n) (A:(decide (o<0)&&isT C j.pos 1 sAs)=false) (D:((n.toList==[100,101,102,97,117,108,116])&& !exp)=false):Is2 (bd Y (asP C q)) j o n:=by
 cases Y with
 |error e=>exact z
 |ok a=>
  obtain⟨rfl,rfl,rfl⟩:=z
  rw[Bool.and_eq_false_iff] at A
  rw[zz,asP,A.resolve_left (by decide),D]
  exact⟨rfl,rfl,rfl⟩
theorem zi7 (C:Cx) (K J z:Nat) (S:Sv) (q:PS) (d:Nat) (ai:Bool) (w:World) (hm:Mem C K J z S q w):
  Calls Tryz.prog 130 #[pv C K J S q (-1) d,.bool ai] w (zmX C K J z (zcw C ai q) d S w):=by
 obtain⟨i0,hi,aX,aU,aZ⟩:=info_parts Tryz.infoExp
 have HM:=zc hm
 have aj:=hm.few
 clear hm
 unfold pv
 go_enter Tryz.func130,Tryz.ntmps130
 go_wp2_with fail
 refine (zad C K J z (.ok q) S q (-1) d zJ _ (zX q) (((HM.out.alloc _).alloc _).alloc _)).mono ?_
 rintro e w1 ⟨S1,q1,z1,rfl,i1,m1,s1⟩
 obtain⟨X0,X1,R0,t1⟩:=HM.out.list3 s1
 have j:=zc X0
 have n:=zc X1
 have A:=zc R0
 have aQ:=zc t1
 have aR:=zc m1
 have aJ:=zc i1
 clear i1 m1 s1 X0 X1 R0 t1
 obtain⟨Z,a1,a2,a3,V,a5,Y,a7,U,a9,E,D,X⟩:=j.out.box
 unfold pv
 go_wp2
 go_loopg [7,8] (C.ts.length+1) (fun k o an wr=>∃(x':PR) (S':Sv) (q':PS) (z':Int) (r:Rw) (l:List Ep),Is x' q' z'∧bd x' (fun q=>zax C ai q l)=zcw C ai q∧(z'<0→C.ts.length-q'.pos<k)∧(l.length≤q'.pos∨l=[])∧o= .slice r.a l.length r.cap∧an= .bool (za8 l)∧Mem C K J z S' q' wr∧SB w.heap.size S w S' wr∧Bx K S' wr w.heap.size #[.slice (some ⟨K,0,none⟩) C.ts.length J,.int .i64 q'.pos,.int .i64 C.fin,.bool C.scr,.slice S'.rq.a q'.rq.length S'.rq.cap,.slice S'.im.a q'.im.length S'.im.cap,.slice S'.ep.a q'.ep.length S'.ep.cap,.slice S'.st.a q'.st.length S'.st.cap,.slice S'.ex.a q'.ex.length S'.ex.cap,.slice S'.la.a q'.la.length S'.la.cap,.int .i64 z',.int .i64 d]∧Bx K S' wr (w.heap.size+1) #[.slice none 0 0,.int .i64 0,.int .i64 0,.bool false,.slice none 0 0,.slice none 0 0,.slice none 0 0,.slice none 0 0,.slice none 0 0,.slice none 0 0,.int .i64 0,.int .i64 0]∧Row S' wr z w.heap.size r l)
 case atStart=>exact⟨_,S1,q1,z1,_,[],aJ.out,rfl,fun _=>by omega,.inr rfl,rfl,rfl,(aR.out.put j.out ..),(aQ.out.put (by omega) ..),(j.out.put ..),(n.out.other (by omega) ..),(A.out.put j.out ..)⟩
 case round=>
  obtain⟨x2,S2,q2,z2,r,l,i2,e2,l2,n2,rfl,rfl,m2,t2,X0,X1,R0⟩:=hrel
  have j:=zc X0
  have n:=zc X1
  have ao:=zc m2
  have ap:=zc t2
  have aw:=zc i2
  have ay:=zc e2
  have aY:=zc l2
  have A:=zc R0
  have be:l.length≤4000:=n2.elim (fun g=>by have:=m2.inv.pos;omega) (fun g=>by rw[g];simp)
  have aI:=zc n2
  clear X0 X1 i2 m2 t2 e2 l2 R0 n2
  by_cases hz:z2<0
  ·skip
   obtain⟨rfl,rfl⟩:=zaC aw.out hz
   have bg:=aY.out hz
   obtain⟨Z,a1,a2,a3,V,a5,Y,a7,U,a9,E,D,X⟩:=j.out.box
   go_wp2_with fail
   refine (zbe C K J z (.ok q2) S2 q2 (-1) d true _ (zX q2) ao.out).mono ?_
   rintro e w3 ⟨Q,q3,z3,n3,rfl,i3,m3,s3⟩
   replace j:=zc (j.out.stp s3)
   replace n:=zc (n.out.stp s3)
   have am:=zc (ap.out.step s3)
   have I:Hid (Row Q w3 z w.heap.size r l):=A.out.stp s3
   clear A
   have A:=zc I
   clear I
   clear ap
   have al:=zc m3
   have ac:=zc i3
   clear i3 m3 s3 ao
   clear Z a1 a2 a3 V a5 Y a7 U a9 E D X
   have bb:w.heap.size+1<w3.heap.size:=n.out.lt
   unfold pv
   go_upto_region 6 with fail
   refine zL (R:=fun W=>Bx K Q W (w.heap.size) _∧Bx K Q W (w.heap.size+1) _∧Bx K Q W (w3.heap.size) _∧Row Q W z w.heap.size r l∧Mem C K J z Q q3 W∧SB w.heap.size S w Q W) ⟨(j.out.alloc _),(n.out.alloc _),(Bx.new al.out _),(A.out.alloc _),(al.out.alloc _),(am.out.alloc _)⟩ ?_
   clear j n am al
   clear A
   rintro w4 ⟨X0,X1,X2,R0,m4,t4⟩
   have A:=zc R0
   clear R0
   have j:=zc X0
   have n:=zc X1
   have L:=zc X2
   have az:=zc m4
   have aD:=zc t4
   clear m4 t4 X0 X1 X2
   obtain⟨Z,a1,a2,a3,V,a5,Y,a7,U,a9,E,D,X⟩:=j.out.box
   obtain⟨c0,c1,c2,c3,c4,c5,c6,c7,c8,c9,aN,aS,cf⟩:=L.out.box
   go_upto_region 7 with fail
   refine zL (R:=fun W=>Bx K Q W (w.heap.size) _∧Bx K Q W (w.heap.size+1) _∧Bx K Q W (w3.heap.size) _∧Row Q W z w.heap.size r l∧Mem C K J z Q q3 W∧SB w.heap.size S w Q W) ⟨(j.out.put ..),(n.out.other (by omega) ..),(L.out.other (by omega) ..),(A.out.put j.out ..),(az.out.put j.out ..),(aD.out.put (by omega) ..)⟩ ?_
   clear Z a1 a2 a3 V a5 Y a7 U a9 E D X c0 c1 c2 c3 c4 c5 c6 c7 c8 c9 aN aS cf
   clear j n L aD az
   clear A
   rintro w5 ⟨X0,X1,X2,R0,m5,t5⟩
   have A:=zc R0
   clear R0
   have j:=zc X0
   have n:=zc X1
   have L:=zc X2
   have ah:=zc m5
   have ak:=zc t5
   clear m5 t5 X0 X1 X2
   skip
   obtain⟨Z,a1,a2,a3,V,a5,Y,a7,U,a9,E,D,X⟩:=j.out.box
   skip
   go_wp2_with fail
   refine (zh C K J z Q q3 z3 d 1 sAs _ ah.out.tok aj (by decide)).mono ?_
   rintro e w6 ⟨rfl,ag⟩
   replace j:=zc (j.out.below ag)
   replace n:=zc (n.out.below ag)
   replace L:=zc (L.out.below ag)
   have O:=zc (ak.out.below ag)
   have M:=zc (ah.out.later ag)
   have I:Hid (Row Q w6 z w.heap.size r l):=A.out.below ag
   clear A
   have A:=zc I
   clear I
   clear ag ak ah
   clear Z a1 a2 a3 V a5 Y a7 U a9 E D X
   go_upto_if 28 with fail
   go_cut [11] (fun aG wx=>∃(N:Sv) (q5:PS) (z5:Int) (n5:ByteArray),aG= .string n5∧Is2 (bd (bd (.ok q2) (zj C true)) (asP C ai)) q5 z5 n5∧Mem C K J z N q5 wx∧SB w.heap.size S w N wx∧Bx K N wx w.heap.size #[.slice (some ⟨K,0,none⟩) C.ts.length J,.int .i64 q5.pos,.int .i64 C.fin,.bool C.scr,.slice N.rq.a q5.rq.length N.rq.cap,.slice N.im.a q5.im.length N.im.cap,.slice N.ep.a q5.ep.length N.ep.cap,.slice N.st.a q5.st.length N.st.cap,.slice N.ex.a q5.ex.length N.ex.cap,.slice N.la.a q5.la.length N.la.cap,.int .i64 z5,.int .i64 d]∧Bx K N wx (w.heap.size+1) #[.slice none 0 0,.int .i64 0,.int .i64 0,.bool false,.slice none 0 0,.slice none 0 0,.slice none 0 0,.slice none 0 0,.slice none 0 0,.slice none 0 0,.int .i64 0,.int .i64 0]∧Row N wx z w.heap.size r l)
   case first=>
    cases hb:(decide (z3<0)&&isT C q3.pos 1 sAs) with
    |true=>
     have aW:q3.pos<C.ts.length:=by rw[Bool.and_eq_true] at hb;exact za1 hb.2 (by decide)
     obtain⟨Z,a1,a2,a3,V,a5,Y,a7,U,a9,E,D,X⟩:=j.out.box
     have aO:z3= -1:=by rw[Bool.and_eq_true,decide_eq_true_eq] at hb;exact (zaC ac.out.fst hb.1).2
     subst aO
     go_wp2_with fail
     refine (zbe C K J z (.ok (adv q3)) Q (adv q3) (-1) d ai _ (zX _) ((M.out.adv aW).set j.out 1 _)).mono ?_
     rintro e w7 ⟨S7,q7,z7,n7,rfl,i7,m7,s7⟩
     have ad:Hid (Bx K S7 w7 _ _):=(j.out.at1 _).stp s7
     have ae:Hid (Bx K S7 w7 _ _):=(n.out.set_other (by omega) 1 _).stp s7
     have ar:Hid (Bx K S7 w7 _ _):=(L.out.set_other (by omega) 1 _).stp s7
     have ab:Hid (SB w.heap.size S w S7 w7):=(O.out.set (by omega) 1 _).step s7
     replace A:=zc ((A.out.set j.out 1 _).stp s7)
     clear j n L O
     have j:=zc ad
     have n:=zc ae
     have L:=zc ar
     clear ad ae ar
     have aa:=zc m7
     have aV:=zc i7
     clear i7 m7 s7 M
     clear Z a1 a2 a3 V a5 Y a7 U a9 E D X
     have ba:w.heap.size+1<w7.heap.size:=n.out.lt
     have aE:w3.heap.size<w7.heap.size:=L.out.lt
     unfold pv
     go_upto_region 11 with fail
     refine zL (R:=fun W=>Bx K S7 W (w.heap.size) _∧Bx K S7 W (w.heap.size+1) _∧Bx K S7 W (w3.heap.size) _∧Bx K S7 W (w7.heap.size) _∧Row S7 W z w.heap.size r l∧Mem C K J z S7 q7 W∧SB w.heap.size S w S7 W) ⟨(j.out.alloc _),(n.out.alloc _),(L.out.alloc _),(Bx.new aa.out _),(A.out.alloc _),(aa.out.alloc _),(ab.out.alloc _)⟩ ?_
     clear j n L ab aa
     clear A
     rintro w8 ⟨X0,X1,X2,X3,R0,m8,t8⟩
     have A:=zc R0
     clear R0
     have j:=zc X0
     have n:=zc X1
     have L:=zc X2
     have aF:=zc X3
     have ax:=zc m8
     have av:=zc t8
     clear m8 t8 X0 X1 X2 X3
     obtain⟨Z,a1,a2,a3,V,a5,Y,a7,U,a9,E,D,X⟩:=j.out.box
     obtain⟨d0,d1,d2,d3,d4,d5,d6,d7,d8,d9,bc,bi,df⟩:=aF.out.box
     go_wp2
     go_meet
     case rel=>exact⟨S7,q7,z7,n7,rfl,znc ac.out hb aV.out,(ax.out.put j.out ..),(av.out.put (by omega) ..),(j.out.put ..),(n.out.other (by omega) ..),(A.out.put j.out ..)⟩
    |false=>
     cases e3:(n3.toList==[100,101,102,97,117,108,116]) with
     |true=>
      cases ai with
      |false=>
       obtain⟨Z,a1,a2,a3,V,a5,Y,a7,U,a9,E,D,X⟩:=j.out.box
       go_wp2_with fail
       refine (zda C K J z Q q3 z3 d _ M.out.tok aj).mono ?_
       rintro e w7 ⟨rfl,H⟩
       replace j:=zc (j.out.below H)
       replace n:=zc (n.out.below H)
       replace L:=zc (L.out.below H)
       have ab:=zc (O.out.below H)
       have aa:=zc (M.out.later H)
       have I:Hid (Row Q w7 z w.heap.size r l):=A.out.below H
       clear A
       have A:=zc I
       clear I
       clear H O M
       clear Z a1 a2 a3 V a5 Y a7 U a9 E D X
       obtain⟨Z,a1,a2,a3,V,a5,Y,a7,U,a9,E,D,X⟩:=j.out.box
       unfold pv
       go_wp2
       go_meet
       case rel=>exact⟨Q,q3,(zbp C q3.pos z3),n3,rfl,znd ac.out hb (by rw[e3];rfl),(aa.out.put j.out ..),(ab.out.put (by omega) ..),(j.out.put ..),(n.out.other (by omega) ..),(A.out.put j.out ..)⟩
      |true=>
       obtain⟨Z,a1,a2,a3,V,a5,Y,a7,U,a9,E,D,X⟩:=j.out.box
       go_wp2
       go_meet
       case rel=>exact⟨Q,q3,z3,n3,rfl,zi6 ac.out hb (by rw[e3];rfl),M.out,O.out,j.out,n.out,A.out⟩
     |false=>
      obtain⟨Z,a1,a2,a3,V,a5,Y,a7,U,a9,E,D,X⟩:=j.out.box
      go_wp2
      go_meet
      case rel=>exact⟨Q,q3,z3,n3,rfl,zi6 ac.out hb (by rw[e3];rfl),M.out,O.out,j.out,n.out,A.out⟩
   case rest=>
    obtain⟨N,q5,z5,n5,rfl,i5,m5,t5,X0,X1,R0⟩:=hcut
    clear j n L A M O
    have j:=zc X0
    have n:=zc X1
    have ah:=zc m5
    have ak:=zc t5
    have aq:=zc i5
    have A:=zc R0
    clear X0 X1 i5 m5 t5 R0
    go_upto_region 15 with fail
    go_cut [8] (fun s8 wx=>s8= .bool (za8 l||(n3.toList==[100,101,102,97,117,108,116]))∧wx=wc)
    case first=>
     cases ha:za8 l with
     |true=>
      go_wp2
      go_meet
      case rel=>exact⟨by rw[ha];rfl,rfl⟩
     |false=>
      cases e3:(n3.toList==[100,101,102,97,117,108,116]) with
      |true=>
       go_wp2
       go_meet
       case rel=>exact⟨by rw[ha,e3];rfl,rfl⟩
      |false=>
       go_wp2
       go_meet
       case rel=>exact⟨by rw[ha,e3];rfl,rfl⟩
    case rest=>
     obtain⟨rfl,rfl⟩:=hcut
     have au:=fun o=>A.out.own.alloc o
     have aM:=ah.out.base
     go_wp2_with (at_builtin;refine zcu _ rfl _ _ 24 rfl z 102 i0 _ 4 56 Tryz.underlying24 hi aX aU aZ rfl (by decide) (by decide) r l.length _ (by rfl) (au _) wc.heap.size (epL ⟨0,n5,n3,sNone⟩) (by rfl) (by exact heap_alloc_new wc _) rfl (by intro u hu;simp[epL] at hu;rcases hu with rfl|rfl|rfl|rfl<;>rfl) (by omega) (by rw[zk];omega) ?_)
     intro r' w6 hr hg aC
     obtain⟨R6,m6⟩:=(A.out.alloc _).grow (x:=⟨0,n5,n3,sNone⟩) (ah.out.alloc _) (by rw[zk];have:=ak.out.size;omega) hg hr (by rw[zk];exact aC)
     have ad:Hid (Bx K N w6 _ _):=(A.out.alloc _).bx (j.out.alloc _) hg
     have ae:Hid (Bx K N w6 _ _):=(A.out.alloc _).bx (n.out.alloc _) hg
     have O:Hid (SB w.heap.size S w N w6):=(A.out.alloc _).sb (ak.out.alloc _) hg
     have M:=zc m6
     clear j n A hr hg aC au aM ah ak m6
     have j:=zc ad
     have n:=zc ae
     have A:=zc R6
     clear ad ae R6
     cases hc:(decide (z5<0)&&isT C q5.pos 4 zbw) with
     |true=>
      obtain⟨Z,a1,a2,a3,V,a5,Y,a7,U,a9,E,D,X⟩:=j.out.box
      go_wp2_with fail
      refine (zh C K J z N q5 z5 d 4 zbw _ M.out.tok aj (by decide)).mono ?_
      rintro e w7 ⟨rfl,H⟩
      rw[hc]
      replace j:=zc (j.out.below H)
      replace n:=zc (n.out.below H)
      have ab:=zc (O.out.below H)
      have aa:=zc (M.out.later H)
      have I:Hid (Row N w7 z w.heap.size r' (l++[⟨0,n5,n3,sNone⟩])):=A.out.below H
      clear A
      have A:=zc I
      clear I
      clear H O M
      clear Z a1 a2 a3 V a5 Y a7 U a9 E D X
      rw[Bool.and_eq_true,decide_eq_true_eq] at hc
      obtain⟨aB,aA⟩:=hc
      have aL:q5.pos<C.ts.length:=za1 aA (by decide)
      obtain⟨E5,P5⟩:=zna (l:=l) ac.out aq.out aB aA
      have HE:=zc E5
      obtain rfl:z5= -1:=(zaC aq.out.fst aB).2
      have aH:Hid ((l++[(⟨0,n5,n3,sNone⟩:Ep)]).length≤q5.pos+1∨l++[(⟨0,n5,n3,sNone⟩:Ep)]=[]):=.inl (by simp only[List.length_append,List.length_singleton];exact aI.out.elim (fun g=>by omega) (fun g=>by rw[g];simp))
      clear E5
      obtain⟨Z,a1,a2,a3,V,a5,Y,a7,U,a9,E,D,X⟩:=j.out.box
      go_wp2
      go_roundg (gk-1)
      case rel=>exact⟨.ok (adv q5),N,adv q5,-1,r',l++[⟨0,n5,n3,sNone⟩],zX _,by rw[←ay.out];exact HE.out.symm,fun _=>by rw[zx];omega,aH.out,by simp,by rw[zi4],((aa.out.adv aL).set j.out 1 _),(ab.out.set (by omega) 1 _),(j.out.at1 _),(n.out.set_other (by omega) 1 _),(A.out.set j.out 1 _)⟩
      case measure=>omega
     |false=>
      obtain⟨Z,a1,a2,a3,V,a5,Y,a7,U,a9,E,D,X⟩:=j.out.box
      go_wp2_with fail
      refine (zh C K J z N q5 z5 d 4 zbw _ M.out.tok aj (by decide)).mono ?_
      rintro e w7 ⟨rfl,H⟩
      rw[hc]
      replace j:=zc (j.out.below H)
      replace n:=zc (n.out.below H)
      have ab:=zc (O.out.below H)
      have aa:=zc (M.out.later H)
      have I:Hid (Row N w7 z w.heap.size r' (l++[⟨0,n5,n3,sNone⟩])):=A.out.below H
      clear A
      have A:=zc I
      clear I
      clear H O M
      clear Z a1 a2 a3 V a5 Y a7 U a9 E D X
      obtain⟨Z,a1,a2,a3,V,a5,Y,a7,U,a9,E,D,X⟩:=j.out.box
      go_wp2_with fail
      refine (zad C K J z _ N q5 z5 d zbm _ aq.out.fst aa.out).mono ?_
      rintro e w8 ⟨S8,q8,z8,rfl,i8,m8,s8⟩
      replace j:=zc (j.out.stp s8)
      replace n:=zc (n.out.stp s8)
      have av:=zc (ab.out.step s8)
      have I:Hid (Row S8 w8 z w.heap.size r' (l++[⟨0,n5,n3,sNone⟩])):=A.out.stp s8
      clear A
      have A:=zc I
      clear I
      clear ab
      have ax:=zc m8
      have aT:=zc i8
      clear i8 m8 s8 aa
      clear Z a1 a2 a3 V a5 Y a7 U a9 E D X
      obtain⟨b0,b1,b2,b3,b4,b5,b6,b7,b8,b9,aP,aK,bf⟩:=n.out.box
      unfold pv
      go_wp2
      refine bodyPost_ret (zi5 rfl _ _ (w.heap.size+1) 53 _ (0,0) _ rfl ((n.out.put ..)).heap Tryz.underlying53 rfl (by kernel_rfl)) rfl ?_
      exact⟨S8,q8,z8,r',l++[⟨0,n5,n3,sNone⟩],by simp[pv,zi4],by rw[←ay.out,zz,zfs];exact zmZ ac.out aq.out hc aT.out,(ax.out.put n.out ..),((av.out.put (by omega) ..)).done,(A.out.put n.out ..),by simp;omega⟩
  ·skip
   obtain⟨Z,a1,a2,a3,V,a5,Y,a7,U,a9,E,D,X⟩:=j.out.box
   go_wp2_with fail
   refine (zad C K J z _ S2 q2 z2 d zbm _ aw.out ao.out).mono ?_
   rintro e w3 ⟨Q,q3,z3,rfl,i3,m3,s3⟩
   replace j:=zc (j.out.stp s3)
   replace n:=zc (n.out.stp s3)
   have am:=zc (ap.out.step s3)
   have I:Hid (Row Q w3 z w.heap.size r l):=A.out.stp s3
   clear A
   have A:=zc I
   clear I
   clear ap
   have al:=zc m3
   have ac:=zc i3
   clear i3 m3 s3 ao
   clear Z a1 a2 a3 V a5 Y a7 U a9 E D X
   obtain⟨b0,b1,b2,b3,b4,b5,b6,b7,b8,b9,aP,aK,bf⟩:=n.out.box
   unfold pv
   go_wp2
   refine bodyPost_ret (zi5 rfl _ _ (w.heap.size+1) 53 _ (0,0) _ rfl ((n.out.put ..)).heap Tryz.underlying53 rfl (by kernel_rfl)) rfl ?_
   exact⟨Q,q3,z3,r,l,rfl,by rw[←ay.out];exact znb aw.out (by omega) ac.out,(al.out.put n.out ..),((am.out.put (by omega) ..)).done,(A.out.put n.out ..),by omega⟩
def SumOK (C:Cx) (gt cap base m:Nat):Prop:=∀(x:PR) (S:Sv) (q:PS) (z:Int) (d:Nat) (w:World),Is x q z→Mem C gt cap base S q w→(z<0→C.ts.length-q.pos<m)→d≤20→
 Calls Tryz.prog 75 #[pv C gt cap S q z d] w (Out C gt cap base (bd x (pE C .sum d)) d S w)
theorem zf5 {C:Cx} {o:Bool} {q n:PS} {j:Int} {z:ByteArray} (h:Is2 (bd (.ok q) (zj C o)) n j z) (A:zD C q.pos o=true):n=adv q∧j= -1∧z=(ze C q.pos).text:=by
 rw[zz,zj,if_pos A] at h
 exact h
theorem zf6 {C:Cx} {o:Bool} {q z:PS} {j:Int} {A:ByteArray} (h:Is2 (bd (.ok q) (zj C o)) z j A) (n:zD C q.pos o=false):j=(zr C q.pos:Int):=by
 rw[zz,zj,n] at h
 exact h
theorem zi8 {C:Cx} {n:ByteArray} {y:Except Nat (PS×ByteArray)} {q:PS} {z:Int} {f:ByteArray} (h:Is2 y q z f) (j:(decide (z<0)&&isT C q.pos 4 zn)=true):bd (bd (bd (zaK y) (zd C 4 zn)) (zd C 4 za0)) (zN C ⟨5,0,n,f,0,0⟩)=bd y fun a=>zbx C n a.2 a.1:=by
 rw[Bool.and_eq_true,decide_eq_true_eq] at j
 cases y with
 |ok a=>
  obtain⟨rfl,_,rfl⟩:=h
  show _=zbx C n a.2 a.1
  rw[zbx,if_pos j.2]
  rfl
 |error e=>rfl
theorem zi9 {C:Cx} {n:ByteArray} {y:Except Nat (PS×ByteArray)} {q:PS} {z:Int} {f:ByteArray} (h:Is2 y q z f) (j:(decide (z<0)&&isT C q.pos 4 zn)=false):bd (zaK y) (zN C ⟨4,0,n,f,0,0⟩)=bd y fun a=>zbx C n a.2 a.1:=by
 cases y with
 |ok a=>
  obtain⟨rfl,rfl,rfl⟩:=h
  rw[Bool.and_eq_false_iff] at j
  show _=zbx C n a.2 a.1
  rw[zbx,j.resolve_left (by decide)]
  rfl
 |error e=>rfl
theorem ziA {C:Cx} {o:Bool} {x:PR} {q:PS} {z:Int} {n:ByteArray} (h:Is2 (bd x (zj C o)) q z n):z<0→1≤q.pos:=by
 intro D
 cases j:bd x (zj C o) with
 |error e=>rw[j] at h;have:z=(e:Int):=h;omega
 |ok a=>
  rw[j] at h
  obtain⟨rfl,_,_⟩:=h
  obtain⟨b,_,A⟩:=zf j
  obtain⟨rfl,_⟩:=zbd A
  simp[adv]
theorem zne (C:Cx) (D o j:Nat) (S:Sv) (q:PS) (d:Nat) (w:World) (H:Mem C D o j S q w) (M:((ze C q.pos).kind==2)=true):
  Calls Tryz.prog 168 #[pv C D o S q (-1) d] w (Out C D o j (pE C .part d q) d S w):=by
 have HM:=zc H
 have z:=H.tok
 have aa:C.ts.length≤4000:=H.few
 have V:=(zan H.tok).1
 clear H
 have O:q.pos<C.ts.length:=zfn M (by decide)
 have U:Hid (pE C .part d q=bd (.ok (adv q)) (zN C ⟨1,(ze C q.pos).num,sNone,sNone,0,0⟩)):=by show pE C .part d q=_;rw[zb6,if_pos M];rfl
 obtain⟨Y,_,Q,_⟩:=z.cells O (d:=⟨0,sNone,0,C.fin⟩)
 change _=some (Value.int .i64 (ze C q.pos).kind) at Y
 change _=some (Value.int .i64 (ze C q.pos).num) at Q
 have E:Hid (Mem C D o j S (adv q) w):=HM.out.adv O
 generalize (ze C q.pos).kind=kd at Y M
 have HN:Hid (∀n,n=(ze C q.pos).num→pE C .part d q=bd (.ok (adv q)) (zN C ⟨1,n,sNone,sNone,0,0⟩)):=fun n e=>by rw[e];exact U.out
 generalize I:(ze C q.pos).num=nm at Q
 have J:Hid (nm=(ze C q.pos).num):=I.symm
 clear I U z
 unfold pv
 go_enter Tryz.func168,Tryz.ntmps168
 go_wp2_with fail
 refine (zcJ C D o j (.ok (adv q)) S (adv q) (-1) d ⟨1,nm,sNone,sNone,0,0⟩ _ (zX _) ((E.out.alloc _).alloc _) (fun _=>by simp[adv])).mono ?_
 rintro e w1 ⟨S1,q1,z1,rfl,i1,Z,s1⟩
 obtain⟨X0,X1,X⟩:=E.out.two2 s1
 have A:=zc X1
 have N:=zc Z
 have L:=zc X
 have K:=zc i1
 clear X0 X1 i1 Z X s1
 obtain⟨b0,b1,b2,b3,b4,b5,b6,b7,b8,b9,ab,ac,bf⟩:=A.out.box
 unfold pv
 go_wp2
 refine bodyPost_ret (results_cell_row rfl _ _ (w.heap.size+1) 53 _ (0,0) _ rfl ((A.out.put ..)).heap Tryz.underlying53 rfl (by kernel_rfl)) rfl ?_
 rw[HN.out nm J.out]
 exact zY rfl K.out (N.out.put A.out ..) (L.out.put (by omega) ..)
theorem znf (C:Cx) (I z j:Nat) (S:Sv) (q:PS) (d:Nat) (w:World) (J:Mem C I z j S q w) (V:((ze C q.pos).kind==2)=false) (N:isT C q.pos 4 zn=true) (hd:20≤d) (aa:d≤20):
  Calls Tryz.prog 168 #[pv C I z S q (-1) d] w (Out C I z j (pE C .part d q) d S w):=by
 have HM:=zc J
 have A:=J.tok
 have D:C.ts.length≤4000:=J.few
 have X:=(zan J.tok).1
 clear J
 have hp:q.pos<C.ts.length:=za1 N (by decide)
 have HV:Hid (pE C .part d q= .error (zr C q.pos)):=by show pE C .part d q=_;rw[zb6,V,N];simp[hd]
 have qd:decide ((20:Int)≤(d:Int))=true:=decide_eq_true (by omega)
 obtain⟨Z,_,_,_⟩:=A.cells hp (d:=⟨0,sNone,0,C.fin⟩)
 change _=some (Value.int .i64 (ze C q.pos).kind) at Z
 generalize (ze C q.pos).kind=kd at Z V
 unfold pv
 go_enter Tryz.func168,Tryz.ntmps168
 go_wp2_with fail
 refine (zh C I z j S q (-1) d 4 zn _ (zq (zq A _) _) D (by decide)).mono ?_
 rintro e w1 ⟨rfl,L⟩
 rw[N]
 obtain⟨X0,X1,m1,Y⟩:=HM.out.two L
 have E:=zc X0
 have n:=zc X1
 have H:=zc m1
 have K:=zc Y
 clear X0 X1 m1 Y L
 obtain⟨a0,a1,a2,a3,a4,a5,a6,a7,a8,a9,M,U,af⟩:=E.out.box
 go_wp2_with fail
 refine (zda C I z j S q (-1) d _ H.out.tok D).mono ?_
 rintro e w2 ⟨rfl,o⟩
 replace E:=zc (E.out.below o)
 replace n:=zc (n.out.below o)
 have O:=zc (K.out.below o)
 have Q:=zc (H.out.later o)
 clear o K H
 clear a0 a1 a2 a3 a4 a5 a6 a7 a8 a9 M U af
 obtain⟨b0,b1,b2,b3,b4,b5,b6,b7,b8,b9,ab,ac,bf⟩:=n.out.box
 unfold pv
 go_wp2
 refine bodyPost_ret (results_cell_row rfl _ _ (w.heap.size+1) 53 _ (0,0) _ rfl ((n.out.put ..)).heap Tryz.underlying53 rfl (by kernel_rfl)) rfl ?_
 rw[HV.out]
 exact zY rfl (show Is (.error (zr C q.pos)) q _ from rfl) (Q.out.put n.out ..) (O.out.put (by omega) ..)
theorem zng (C:Cx) (H z o:Nat) (S:Sv) (q:PS) (d:Nat) (w:World) (J:Mem C H z o S q w) (hk:((ze C q.pos).kind==2)=false) (ho:isT C q.pos 4 zn=true) (hd:d<20) (hS:SumOK C H z o (C.ts.length-q.pos)):
  Calls Tryz.prog 168 #[pv C H z S q (-1) d] w (Out C H z o (pE C .part d q) d S w):=by
 have HM:=zc J
 have I:=J.tok
 have Y:C.ts.length≤4000:=J.few
 have ae:=(zan J.tok).1
 clear J
 have hp:q.pos<C.ts.length:=za1 ho (by decide)
 have HV:Hid (pE C .part d q=bd (bd (.ok (adv q)) (pE C .sum (d+1))) (zd C 4 za0)):=by show pE C .part d q=_;rw[zb6,hk,ho,if_neg (by decide),if_pos rfl,if_neg (by omega)];rfl
 have HS:=zc hS
 clear hS
 have qd:decide ((20:Int)≤(d:Int))=false:=decide_eq_false (by omega)
 obtain⟨c0,_,_,_⟩:=I.cells hp (d:=⟨0,sNone,0,C.fin⟩)
 change _=some (Value.int .i64 (ze C q.pos).kind) at c0
 generalize (ze C q.pos).kind=kd at c0 hk
 unfold pv
 go_enter Tryz.func168,Tryz.ntmps168
 go_wp2_with fail
 refine (zh C H z o S q (-1) d 4 zn _ (zq (zq I _) _) Y (by decide)).mono ?_
 rintro e w1 ⟨rfl,O⟩
 rw[ho]
 obtain⟨X,V,m1,t1⟩:=HM.out.two O
 have j:=zc X
 have n:=zc V
 have Q:=zc m1
 have N:=zc t1
 clear X V m1 t1 O
 obtain⟨a0,a1,a2,a3,a4,a5,a6,a7,Z,a9,E,A,af⟩:=j.out.box
 go_wp2_with fail
 refine (HS.out (.ok (adv q)) S (adv q) (-1) (d+1) _ (zX _) (((Q.out.adv hp).set j.out 1 _).set (j.out.at1 _) 11 _) (fun _=>by show C.ts.length-(q.pos+1)<_;omega) (by omega)).mono ?_
 rintro e w2 ⟨S2,q2,z2,rfl,i2,m2,s2⟩
 replace j:=zc (((j.out.at1 _).at11 _).stp s2)
 replace n:=zc (((n.out.set_other (by omega) 1 _).set_other (by omega) 11 _).stp s2)
 have U:Hid (SB w.heap.size S w S2 w2):=((N.out.set (by omega) 1 _).set (by omega) 11 _).step s2
 clear N
 have M:=zc m2
 have ab:=zc i2
 clear i2 m2 s2 Q
 clear a0 a1 a2 a3 a4 a5 a6 a7 Z a9 E A af
 go_wp2_with fail
 refine (zad C H z o _ S2 q2 z2 (d+1) za0 _ ab.out M.out).mono ?_
 rintro e w3 ⟨S3,q3,z3,rfl,i3,m3,s3⟩
 replace j:=zc (j.out.stp s3)
 replace n:=zc (n.out.stp s3)
 have L:=zc (U.out.step s3)
 clear U
 have K:=zc m3
 have ad:=zc i3
 clear i3 m3 s3 M
 obtain⟨a0,a1,a2,a3,a4,a5,a6,a7,Z,a9,E,A,af⟩:=j.out.box
 obtain⟨D,hD⟩: ∃D:Nat,D=d+1:=⟨_,rfl⟩
 rw[←hD]
 have aj:(D:Int)-1=d:=by omega
 have ag:D≤20:=by omega
 clear hD hd qd
 unfold pv
 go_upto_region 11 with fail
 refine zL (R:=fun W=>Bx H S3 W (w.heap.size) _∧Bx H S3 W (w.heap.size+1) _∧Mem C H z o S3 q3 W∧SB w.heap.size S w S3 W) ⟨(j.out.put ..),(n.out.other (by omega) ..),(K.out.put j.out ..),(L.out.put (by omega) ..)⟩ ?_
 clear a0 a1 a2 a3 a4 a5 a6 a7 Z a9 E A af
 clear j n L K
 rintro w4 ⟨X,V,m4,t4⟩
 have j:=zc X
 have n:=zc V
 have aa:=zc m4
 have ac:=zc t4
 clear m4 t4 X V
 obtain⟨a0,a1,a2,a3,a4,a5,a6,a7,Z,a9,E,A,af⟩:=j.out.box
 obtain⟨b0,b1,b2,b3,b4,b5,b6,b7,b8,b9,ai,ah,bf⟩:=n.out.box
 go_wp2
 refine bodyPost_ret (results_cell_row rfl _ _ (w.heap.size+1) 53 _ (0,0) _ rfl (((n.out.set_other (by omega) 11 _).put ..)).heap Tryz.underlying53 rfl (by kernel_rfl)) rfl ?_
 rw[HV.out]
 exact zY rfl ad.out ((aa.out.set j.out 11 _).put (n.out.set_other (by omega) 11 _) ..) ((ac.out.set (by omega) 11 _).put (by omega) ..)
theorem znh (o:List Tk) (j:Nat) (H D z:Nat) (S:Sv) (q:PS) (d:Nat) (w:World) (N:Mem (Cx.mk o j true) H D z S q w) (hp: ¬q.pos<(Cx.mk o j true).ts.length):
  Calls Tryz.prog 168 #[pv (Cx.mk o j true) H D S q (-1) d] w (Out (Cx.mk o j true) H D z (pE (Cx.mk o j true) .part d q) d S w):=by
 have HM:=zc N
 have O:=N.tok
 have I:(Cx.mk o j true).ts.length≤4000:=N.few
 have ag:=(zan N.tok).1
 clear N
 have hk:((ze (Cx.mk o j true) q.pos).kind==2)=false:=by rw[zdl (by omega)];rfl
 have ho:isT (Cx.mk o j true) q.pos 4 zn=false:=zeC hp (by decide)
 have hu:isT (Cx.mk o j true) q.pos 1 za7=false:=zeC hp (by decide)
 have hn:zD (Cx.mk o j true) q.pos false=false:=zgy hp
 have HV:Hid (pE (Cx.mk o j true) .part d q= .error (zr (Cx.mk o j true) q.pos)):=by show pE (Cx.mk o j true) .part d q=_;rw[zb6,hk,ho,hu,zj,hn];rfl
 have al: ¬q.pos<o.length:=hp
 unfold pv
 go_enter Tryz.func168,Tryz.ntmps168
 go_wp2_with fail
 refine (zh (Cx.mk o j true) H D z S q (-1) d 4 zn _ (zq (zq O _) _) I (by decide)).mono ?_
 rintro e w1 ⟨rfl,X⟩
 rw[ho]
 obtain⟨X0,Z,m1,t1⟩:=HM.out.two X
 have A:=zc X0
 have n:=zc Z
 have M:=zc m1
 have V:=zc t1
 clear X0 Z m1 t1 X
 obtain⟨a0,a1,a2,a3,a4,a5,a6,a7,a8,a9,L,J,af⟩:=A.out.box
 go_wp2_with fail
 refine (zh (Cx.mk o j true) H D z S q (-1) d 1 za7 _ M.out.tok I (by decide)).mono ?_
 rintro e w2 ⟨rfl,E⟩
 rw[hu]
 replace A:=zc (A.out.below E)
 replace n:=zc (n.out.below E)
 have Y:=zc (V.out.below E)
 have U:=zc (M.out.later E)
 clear E V M
 clear a0 a1 a2 a3 a4 a5 a6 a7 a8 a9 L J af
 obtain⟨a0,a1,a2,a3,a4,a5,a6,a7,a8,a9,L,J,af⟩:=A.out.box
 go_wp2_with fail
 refine (zbe (Cx.mk o j true) H D z (.ok q) S q (-1) d false _ (zX q) U.out).mono ?_
 rintro e w3 ⟨S3,q3,z3,n3,rfl,i3,m3,s3⟩
 replace A:=zc (A.out.stp s3)
 replace n:=zc (n.out.stp s3)
 have Q:=zc (Y.out.step s3)
 clear Y
 have K:=zc m3
 have ad:=zc i3
 clear i3 m3 s3 U
 clear a0 a1 a2 a3 a4 a5 a6 a7 a8 a9 L J af
 obtain rfl:=zf6 ad.out hn
 have dz:decide ((0:Int)≤(zr (Cx.mk o j true) q.pos:Int))=true:=decide_eq_true (by omega)
 have ae:w.heap.size+1<w3.heap.size:=n.out.lt
 unfold pv
 go_upto_region 17 with fail
 refine zL (R:=fun W=>Bx H S3 W (w.heap.size) _∧Bx H S3 W (w.heap.size+1) _∧Bx H S3 W (w3.heap.size) _∧Mem (Cx.mk o j true) H D z S3 q3 W∧SB w.heap.size S w S3 W) ⟨(A.out.alloc _),(n.out.alloc _),(Bx.new K.out _),(K.out.alloc _),(Q.out.alloc _)⟩ ?_
 clear A n Q K
 rintro w4 ⟨X0,Z,X2,m4,t4⟩
 have A:=zc X0
 have n:=zc Z
 have ab:=zc X2
 have aa:=zc m4
 have ac:=zc t4
 clear m4 t4 X0 Z X2
 obtain⟨b0,b1,b2,b3,b4,b5,b6,b7,b8,b9,aj,ah,bf⟩:=n.out.box
 obtain⟨c0,c1,c2,c3,c4,c5,c6,c7,c8,c9,ai,ak,cf⟩:=ab.out.box
 go_wp2
 refine bodyPost_ret (results_cell_row rfl _ _ (w.heap.size+1) 53 _ (0,0) _ rfl ((n.out.put ..)).heap Tryz.underlying53 rfl (by kernel_rfl)) rfl ?_
 rw[HV.out]
 exact zY rfl (show Is (.error (zr (Cx.mk o j true) q.pos)) q3 _ from rfl) (aa.out.put n.out ..) (ac.out.put (by omega) ..)
theorem zni (n:List Tk) (j:Nat) (H D z:Nat) (S:Sv) (q:PS) (d:Nat) (w:World) (O:Mem (Cx.mk n j true) H D z S q w) (hk:((ze (Cx.mk n j true) q.pos).kind==2)=false) (ho:isT (Cx.mk n j true) q.pos 4 zn=false) (hp:q.pos<(Cx.mk n j true).ts.length) (hu:isT (Cx.mk n j true) q.pos 1 za7=false) (hn:zD (Cx.mk n j true) q.pos false=false):
  Calls Tryz.prog 168 #[pv (Cx.mk n j true) H D S q (-1) d] w (Out (Cx.mk n j true) H D z (pE (Cx.mk n j true) .part d q) d S w):=by
 have HM:=zc O
 have I:=O.tok
 have J:(Cx.mk n j true).ts.length≤4000:=O.few
 have ag:=(zan O.tok).1
 clear O
 have HV:Hid (pE (Cx.mk n j true) .part d q= .error (zr (Cx.mk n j true) q.pos)):=by show pE (Cx.mk n j true) .part d q=_;rw[zb6,hk,ho,hu,zj,hn];rfl
 have al:q.pos<n.length:=hp
 obtain⟨c0,_,_,_⟩:=I.cells hp (d:=⟨0,sNone,0,(Cx.mk n j true).fin⟩)
 change _=some (Value.int .i64 (ze (Cx.mk n j true) q.pos).kind) at c0
 generalize (ze (Cx.mk n j true) q.pos).kind=kd at c0 hk
 unfold pv
 go_enter Tryz.func168,Tryz.ntmps168
 go_wp2_with fail
 refine (zh (Cx.mk n j true) H D z S q (-1) d 4 zn _ (zq (zq I _) _) J (by decide)).mono ?_
 rintro e w1 ⟨rfl,X⟩
 rw[ho]
 obtain⟨X0,Z,m1,t1⟩:=HM.out.two X
 have A:=zc X0
 have o:=zc Z
 have N:=zc m1
 have V:=zc t1
 clear X0 Z m1 t1 X
 obtain⟨a0,a1,a2,a3,a4,a5,a6,a7,a8,a9,M,K,af⟩:=A.out.box
 go_wp2_with fail
 refine (zh (Cx.mk n j true) H D z S q (-1) d 1 za7 _ N.out.tok J (by decide)).mono ?_
 rintro e w2 ⟨rfl,E⟩
 rw[hu]
 replace A:=zc (A.out.below E)
 replace o:=zc (o.out.below E)
 have Y:=zc (V.out.below E)
 have U:=zc (N.out.later E)
 clear E V N
 clear a0 a1 a2 a3 a4 a5 a6 a7 a8 a9 M K af
 obtain⟨a0,a1,a2,a3,a4,a5,a6,a7,a8,a9,M,K,af⟩:=A.out.box
 go_wp2_with fail
 refine (zbe (Cx.mk n j true) H D z (.ok q) S q (-1) d false _ (zX q) U.out).mono ?_
 rintro e w3 ⟨S3,q3,z3,n3,rfl,i3,m3,s3⟩
 replace A:=zc (A.out.stp s3)
 replace o:=zc (o.out.stp s3)
 have Q:=zc (Y.out.step s3)
 clear Y
 have L:=zc m3
 have ad:=zc i3
 clear i3 m3 s3 U
 clear a0 a1 a2 a3 a4 a5 a6 a7 a8 a9 M K af
 obtain rfl:=zf6 ad.out hn
 have dz:decide ((0:Int)≤(zr (Cx.mk n j true) q.pos:Int))=true:=decide_eq_true (by omega)
 have ae:w.heap.size+1<w3.heap.size:=o.out.lt
 unfold pv
 go_upto_region 17 with fail
 refine zL (R:=fun W=>Bx H S3 W (w.heap.size) _∧Bx H S3 W (w.heap.size+1) _∧Bx H S3 W (w3.heap.size) _∧Mem (Cx.mk n j true) H D z S3 q3 W∧SB w.heap.size S w S3 W) ⟨(A.out.alloc _),(o.out.alloc _),(Bx.new L.out _),(L.out.alloc _),(Q.out.alloc _)⟩ ?_
 clear A o Q L
 rintro w4 ⟨X0,Z,X2,m4,t4⟩
 have A:=zc X0
 have o:=zc Z
 have ab:=zc X2
 have aa:=zc m4
 have ac:=zc t4
 clear m4 t4 X0 Z X2
 obtain⟨b0,b1,b2,b3,b4,b5,b6,b7,b8,b9,aj,ah,bf⟩:=o.out.box
 obtain⟨c0,c1,c2,c3,c4,c5,c6,c7,c8,c9,ai,ak,cf⟩:=ab.out.box
 go_wp2
 refine bodyPost_ret (results_cell_row rfl _ _ (w.heap.size+1) 53 _ (0,0) _ rfl ((o.out.put ..)).heap Tryz.underlying53 rfl (by kernel_rfl)) rfl ?_
 rw[HV.out]
 exact zY rfl (show Is (.error (zr (Cx.mk n j true) q.pos)) q3 _ from rfl) (aa.out.put o.out ..) (ac.out.put (by omega) ..)
theorem ziB (I:List Tk) (z:Nat) (H A n:Nat) (S:Sv) (q:PS) (d:Nat) (w:World) (O:Mem (Cx.mk I z true) H A n S q w) (D:Nat):
  Calls Tryz.prog 168 #[pv (Cx.mk I z true) H A S q (D:Int) d] w (Out (Cx.mk I z true) H A n (.error D) d S w):=by
 have HM:=zc O
 have Q:=O.tok
 have J:(Cx.mk I z true).ts.length≤4000:=O.few
 have ag:=(zan O.tok).1
 clear O
 have hz: ¬(D:Int)<0:=by omega
 have hs: ∀k s,(decide ((D:Int)<0)&&isT (Cx.mk I z true) q.pos k s)=false:=fun k s=>by rw[decide_eq_false hz];rfl
 unfold pv
 go_enter Tryz.func168,Tryz.ntmps168
 go_wp2_with fail
 refine (zh (Cx.mk I z true) H A n S q (D:Int) d 4 zn _ (zq (zq Q _) _) J (by decide)).mono ?_
 rintro e w1 ⟨rfl,Y⟩
 rw[hs]
 obtain⟨X0,X1,m1,t1⟩:=HM.out.two Y
 have o:=zc X0
 have j:=zc X1
 have N:=zc m1
 have X:=zc t1
 clear X0 X1 m1 t1 Y
 obtain⟨a0,a1,a2,a3,a4,a5,a6,a7,a8,a9,M,K,af⟩:=o.out.box
 go_wp2_with fail
 refine (zh (Cx.mk I z true) H A n S q (D:Int) d 1 za7 _ N.out.tok J (by decide)).mono ?_
 rintro e w2 ⟨rfl,E⟩
 rw[hs]
 replace o:=zc (o.out.below E)
 replace j:=zc (j.out.below E)
 have Z:=zc (X.out.below E)
 have V:=zc (N.out.later E)
 clear E X N
 clear a0 a1 a2 a3 a4 a5 a6 a7 a8 a9 M K af
 obtain⟨a0,a1,a2,a3,a4,a5,a6,a7,a8,a9,M,K,af⟩:=o.out.box
 go_wp2_with fail
 refine (zbe (Cx.mk I z true) H A n (.error D) S q (D:Int) d false _ (show Is (.error D) q _ from rfl) V.out).mono ?_
 rintro e w3 ⟨S3,q3,z3,n3,rfl,i3,m3,s3⟩
 replace o:=zc (o.out.stp s3)
 replace j:=zc (j.out.stp s3)
 have U:=zc (Z.out.step s3)
 clear Z
 have L:=zc m3
 have ad:=zc i3
 clear i3 m3 s3 V
 clear a0 a1 a2 a3 a4 a5 a6 a7 a8 a9 M K af
 obtain rfl:z3=(D:Int):=ad.out
 have dz:decide ((0:Int)≤(D:Int))=true:=decide_eq_true (by omega)
 have ae:w.heap.size+1<w3.heap.size:=j.out.lt
 unfold pv
 go_upto_region 17 with fail
 refine zL (R:=fun W=>Bx H S3 W (w.heap.size) _∧Bx H S3 W (w.heap.size+1) _∧Bx H S3 W (w3.heap.size) _∧Mem (Cx.mk I z true) H A n S3 q3 W∧SB w.heap.size S w S3 W) ⟨(o.out.alloc _),(j.out.alloc _),(Bx.new L.out _),(L.out.alloc _),(U.out.alloc _)⟩ ?_
 clear o j U L
 rintro w4 ⟨X0,X1,X2,m4,t4⟩
 have o:=zc X0
 have j:=zc X1
 have ab:=zc X2
 have aa:=zc m4
 have ac:=zc t4
 clear m4 t4 X0 X1 X2
 obtain⟨b0,b1,b2,b3,b4,b5,b6,b7,b8,b9,aj,ah,bf⟩:=j.out.box
 obtain⟨c0,c1,c2,c3,c4,c5,c6,c7,c8,c9,ai,ak,cf⟩:=ab.out.box
 go_wp2
 refine bodyPost_ret (results_cell_row rfl _ _ (w.heap.size+1) 53 _ (0,0) _ rfl ((j.out.put ..)).heap Tryz.underlying53 rfl (by kernel_rfl)) rfl ?_
 exact zY rfl (show Is (.error D) q3 _ from rfl) (aa.out.put j.out ..) (ac.out.put (by omega) ..)
theorem znj (n:List Tk) (j:Nat) (M D o:Nat) (S:Sv) (q:PS) (d:Nat) (w:World) (O:Mem (Cx.mk n j true) M D o S q w) (hk:((ze (Cx.mk n j true) q.pos).kind==2)=false) (ho:isT (Cx.mk n j true) q.pos 4 zn=false) (Z:q.pos<(Cx.mk n j true).ts.length) (hu:isT (Cx.mk n j true) q.pos 1 za7=true):
  Calls Tryz.prog 168 #[pv (Cx.mk n j true) M D S q (-1) d] w (Out (Cx.mk n j true) M D o (pE (Cx.mk n j true) .part d q) d S w):=by
 have HM:=zc O
 have H:=O.tok
 have I:(Cx.mk n j true).ts.length≤4000:=O.few
 have ad:=(zan O.tok).1
 clear O
 have HV:Hid (pE (Cx.mk n j true) .part d q=zbc (Cx.mk n j true) za7 (adv q)):=by show pE (Cx.mk n j true) .part d q=_;rw[zb6,hk,ho,hu];rfl
 have ah:q.pos<n.length:=Z
 obtain⟨c0,_,_,_⟩:=H.cells Z (d:=⟨0,sNone,0,(Cx.mk n j true).fin⟩)
 change _=some (Value.int .i64 (ze (Cx.mk n j true) q.pos).kind) at c0
 generalize (ze (Cx.mk n j true) q.pos).kind=kd at c0 hk
 unfold pv
 go_enter Tryz.func168,Tryz.ntmps168
 go_wp2_with fail
 refine (zh (Cx.mk n j true) M D o S q (-1) d 4 zn _ (zq (zq H _) _) I (by decide)).mono ?_
 rintro e w1 ⟨rfl,V⟩
 rw[ho]
 obtain⟨X0,X1,m1,t1⟩:=HM.out.two V
 have A:=zc X0
 have z:=zc X1
 have L:=zc m1
 have U:=zc t1
 clear X0 X1 m1 t1 V
 obtain⟨a0,a1,Y,a3,a4,a5,a6,a7,a8,a9,J,K,af⟩:=A.out.box
 go_wp2_with fail
 refine (zh (Cx.mk n j true) M D o S q (-1) d 1 za7 _ L.out.tok I (by decide)).mono ?_
 rintro e w2 ⟨rfl,E⟩
 rw[hu]
 replace A:=zc (A.out.below E)
 replace z:=zc (z.out.below E)
 have N:=zc (U.out.below E)
 have Q:=zc (L.out.later E)
 clear E U L
 clear a0 a1 Y a3 a4 a5 a6 a7 a8 a9 J K af
 obtain⟨a0,a1,Y,a3,a4,a5,a6,a7,a8,a9,J,K,af⟩:=A.out.box
 go_wp2_with fail
 refine (zgD (Cx.mk n j true) M D o S (adv q) d za7 _ ((Q.out.adv Z).set A.out 1 _) (by simp[adv])).mono ?_
 rintro e w3 ⟨S3,q3,z3,rfl,i3,m3,X⟩
 replace A:=zc ((A.out.at1 _).stp X)
 replace z:=zc ((z.out.set_other (by omega) 1 _).stp X)
 have aa:Hid (SB w.heap.size S w S3 w3):=(N.out.set (by omega) 1 _).step X
 clear N
 have ac:=zc m3
 have ab:=zc i3
 clear i3 m3 X Q
 clear a0 a1 Y a3 a4 a5 a6 a7 a8 a9 J K af
 obtain⟨b0,b1,b2,b3,b4,b5,b6,b7,b8,b9,ae,ag,bf⟩:=z.out.box
 unfold pv
 go_wp2
 refine bodyPost_ret (results_cell_row rfl _ _ (w.heap.size+1) 53 _ (0,0) _ rfl ((z.out.put ..)).heap Tryz.underlying53 rfl (by kernel_rfl)) rfl ?_
 rw[HV.out]
 exact zY rfl ab.out (ac.out.put z.out ..) (aa.out.put (by omega) ..)
theorem znk (n:List Tk) (j:Nat) (K D o:Nat) (S:Sv) (q:PS) (d:Nat) (w:World) (X:Mem (Cx.mk n j true) K D o S q w) (hk:((ze (Cx.mk n j true) q.pos).kind==2)=false) (ho:isT (Cx.mk n j true) q.pos 4 zn=false) (hp:q.pos<(Cx.mk n j true).ts.length) (hu:isT (Cx.mk n j true) q.pos 1 za7=false) (hn:zD (Cx.mk n j true) q.pos false=true) (hd:isT (Cx.mk n j true) (q.pos+1) 4 cPoint=false):
  Calls Tryz.prog 168 #[pv (Cx.mk n j true) K D S q (-1) d] w (Out (Cx.mk n j true) K D o (pE (Cx.mk n j true) .part d q) d S w):=by
 have HM:=zc X
 have L:=X.tok
 have H:(Cx.mk n j true).ts.length≤4000:=X.few
 have aq:=(zan X.tok).1
 clear X
 have HV:Hid (pE (Cx.mk n j true) .part d q=zbc (Cx.mk n j true) (ze (Cx.mk n j true) q.pos).text (adv q)):=by show pE (Cx.mk n j true) .part d q=_;rw[zb6,hk,ho,hu,zj,hn];show (if isT (Cx.mk n j true) (adv q).pos 4 cPoint then _ else _)=_;rw[zx,hd];rfl
 have av:q.pos<n.length:=hp
 obtain⟨c0,_,_,_⟩:=L.cells hp (d:=⟨0,sNone,0,(Cx.mk n j true).fin⟩)
 change _=some (Value.int .i64 (ze (Cx.mk n j true) q.pos).kind) at c0
 generalize (ze (Cx.mk n j true) q.pos).kind=kd at c0 hk
 unfold pv
 go_enter Tryz.func168,Tryz.ntmps168
 go_wp2_with fail
 refine (zh (Cx.mk n j true) K D o S q (-1) d 4 zn _ (zq (zq L _) _) H (by decide)).mono ?_
 rintro e w1 ⟨rfl,ab⟩
 rw[ho]
 obtain⟨X0,X1,m1,t1⟩:=HM.out.two ab
 have A:=zc X0
 have z:=zc X1
 have O:=zc m1
 have aa:=zc t1
 clear X0 X1 m1 t1 ab
 obtain⟨a0,a1,a2,a3,a4,a5,a6,a7,a8,a9,N,M,af⟩:=A.out.box
 go_wp2_with fail
 refine (zh (Cx.mk n j true) K D o S q (-1) d 1 za7 _ O.out.tok H (by decide)).mono ?_
 rintro e w2 ⟨rfl,I⟩
 rw[hu]
 replace A:=zc (A.out.below I)
 replace z:=zc (z.out.below I)
 have ac:=zc (aa.out.below I)
 have Z:=zc (O.out.later I)
 clear I aa O
 clear a0 a1 a2 a3 a4 a5 a6 a7 a8 a9 N M af
 obtain⟨a0,a1,a2,a3,a4,a5,a6,a7,a8,a9,N,M,af⟩:=A.out.box
 go_wp2_with fail
 refine (zbe (Cx.mk n j true) K D o (.ok q) S q (-1) d false _ (zX q) Z.out).mono ?_
 rintro e w3 ⟨S3,U,z3,n3,rfl,i3,m3,s3⟩
 replace A:=zc (A.out.stp s3)
 replace z:=zc (z.out.stp s3)
 have Y:=zc (ac.out.step s3)
 clear ac
 have J:=zc m3
 have ag:=zc i3
 clear i3 m3 s3 Z
 clear a0 a1 a2 a3 a4 a5 a6 a7 a8 a9 N M af
 obtain⟨hq,rfl,ah⟩:=zf5 ag.out hn
 have HQ:=zc hq
 have ai:=zc ah
 have ae:U.pos=q.pos+1:=by rw[hq];rfl
 have al:isT (Cx.mk n j true) U.pos 4 cPoint=false:=by rw[ae];exact hd
 clear hq ah ag
 have ap:w.heap.size+1<w3.heap.size:=z.out.lt
 unfold pv
 clear ae
 go_wp2_with fail
 refine (zh (Cx.mk n j true) K D o S3 U (-1) d 4 cPoint _ (J.out.alloc _).tok H (by decide)).mono ?_
 rintro e w4 ⟨rfl,E⟩
 rw[al]
 replace A:=zc ((A.out.alloc _).below E)
 replace z:=zc ((z.out.alloc _).below E)
 replace Q:=zc ((Bx.new J.out _).below E)
 have ad:Hid (SB w.heap.size S w S3 w4):=(Y.out.alloc _).below E
 have V:Hid (Mem (Cx.mk n j true) K D o S3 U w4):=(J.out.alloc _).later E
 clear E Y J
 obtain⟨c0,c1,c2,c3,c4,c5,c6,c7,c8,c9,ak,am,cf⟩:=Q.out.box
 go_wp2_with fail
 refine (zgD (Cx.mk n j true) K D o S3 U d n3 _ V.out (by rw[HQ.out];simp[adv])).mono ?_
 rintro e w5 ⟨S5,q5,z5,rfl,i5,m5,s5⟩
 replace A:=zc (A.out.stp s5)
 replace z:=zc (z.out.stp s5)
 replace Q:=zc (Q.out.stp s5)
 have aj:=zc (ad.out.step s5)
 clear ad
 have ao:=zc m5
 have an:=zc i5
 clear i5 m5 s5 V
 clear c0 c1 c2 c3 c4 c5 c6 c7 c8 c9 ak am cf
 obtain⟨b0,b1,b2,b3,b4,b5,b6,b7,b8,b9,au,ar,bf⟩:=z.out.box
 unfold pv
 go_wp2
 refine bodyPost_ret (results_cell_row rfl _ _ (w.heap.size+1) 53 _ (0,0) _ rfl ((z.out.put ..)).heap Tryz.underlying53 rfl (by kernel_rfl)) rfl ?_
 rw[HV.out,←HQ.out,←ai.out]
 exact zY rfl an.out (ao.out.put z.out ..) (aj.out.put (by omega) ..)
theorem znl (A:List Tk) (j:Nat) (J D o:Nat) (S:Sv) (q:PS) (d:Nat) (w:World) (hm:Mem (Cx.mk A j true) J D o S q w) (hk:((ze (Cx.mk A j true) q.pos).kind==2)=false) (ho:isT (Cx.mk A j true) q.pos 4 zn=false) (hp:q.pos<(Cx.mk A j true).ts.length) (hu:isT (Cx.mk A j true) q.pos 1 za7=false) (hn:zD (Cx.mk A j true) q.pos false=true) (hd:isT (Cx.mk A j true) (q.pos+1) 4 cPoint=true):
  Calls Tryz.prog 168 #[pv (Cx.mk A j true) J D S q (-1) d] w (Out (Cx.mk A j true) J D o (pE (Cx.mk A j true) .part d q) d S w):=by
 have HM:=zc hm
 have ae:=hm.tok
 have K:(Cx.mk A j true).ts.length≤4000:=hm.few
 have aM:=(zan hm.tok).1
 clear hm
 have HV:Hid (pE (Cx.mk A j true) .part d q=bd (bd (.ok (adv (adv q))) (zj (Cx.mk A j true) true)) fun y=>zbx (Cx.mk A j true) (ze (Cx.mk A j true) q.pos).text y.2 y.1):=by show pE (Cx.mk A j true) .part d q=_;rw[zb6,hk,ho,hu,zj,hn];show (if isT (Cx.mk A j true) (adv q).pos 4 cPoint then _ else _)=_;rw[zx,hd];rfl
 have aO:q.pos<A.length:=hp
 obtain⟨c0,_,_,_⟩:=ae.cells hp (d:=⟨0,sNone,0,(Cx.mk A j true).fin⟩)
 change _=some (Value.int .i64 (ze (Cx.mk A j true) q.pos).kind) at c0
 generalize (ze (Cx.mk A j true) q.pos).kind=kd at c0 hk
 unfold pv
 go_enter Tryz.func168,Tryz.ntmps168
 go_wp2_with fail
 refine (zh (Cx.mk A j true) J D o S q (-1) d 4 zn _ (zq (zq ae _) _) K (by decide)).mono ?_
 rintro e w1 ⟨rfl,av⟩
 rw[ho]
 obtain⟨X0,X1,m1,t1⟩:=HM.out.two av
 have z:=zc X0
 have n:=zc X1
 have ai:=zc m1
 have au:=zc t1
 clear X0 X1 m1 t1 av
 obtain⟨a0,a1,a2,a3,a4,a5,a6,a7,a8,a9,ah,ag,af⟩:=z.out.box
 go_wp2_with fail
 refine (zh (Cx.mk A j true) J D o S q (-1) d 1 za7 _ ai.out.tok K (by decide)).mono ?_
 rintro e w2 ⟨rfl,Y⟩
 rw[hu]
 replace z:=zc (z.out.below Y)
 replace n:=zc (n.out.below Y)
 have aw:=zc (au.out.below Y)
 have aq:=zc (ai.out.later Y)
 clear Y au ai
 clear a0 a1 a2 a3 a4 a5 a6 a7 a8 a9 ah ag af
 obtain⟨a0,a1,a2,a3,a4,a5,a6,a7,a8,a9,ah,ag,af⟩:=z.out.box
 go_wp2_with fail
 refine (zbe (Cx.mk A j true) J D o (.ok q) S q (-1) d false _ (zX q) aq.out).mono ?_
 rintro e w3 ⟨S3,q3,z3,n3,rfl,i3,m3,s3⟩
 replace z:=zc (z.out.stp s3)
 replace n:=zc (n.out.stp s3)
 have ao:=zc (aw.out.step s3)
 clear aw
 have aa:=zc m3
 have aA:=zc i3
 clear i3 m3 s3 aq
 clear a0 a1 a2 a3 a4 a5 a6 a7 a8 a9 ah ag af
 obtain⟨hq,rfl,aB⟩:=zf5 aA.out hn
 have HQ:=zc hq
 have am:=zc aB
 have az:q3.pos=q.pos+1:=by rw[hq];rfl
 have ar:isT (Cx.mk A j true) q3.pos 4 cPoint=true:=by rw[az];exact hd
 clear hq aB aA
 have aL:w.heap.size+1<w3.heap.size:=n.out.lt
 unfold pv
 clear az
 go_wp2_with fail
 refine (zh (Cx.mk A j true) J D o S3 q3 (-1) d 4 cPoint _ (aa.out.alloc _).tok K (by decide)).mono ?_
 rintro e w4 ⟨rfl,N⟩
 rw[ar]
 replace z:=zc ((z.out.alloc _).below N)
 replace n:=zc ((n.out.alloc _).below N)
 replace E:=zc ((Bx.new aa.out _).below N)
 have ay:Hid (SB w.heap.size S w S3 w4):=(ao.out.alloc _).below N
 have al:Hid (Mem (Cx.mk A j true) J D o S3 q3 w4):=(aa.out.alloc _).later N
 clear N ao aa
 obtain⟨c0,c1,c2,c3,c4,c5,c6,c7,c8,c9,aF,aI,cf⟩:=E.out.box
 have an:q3.pos<(Cx.mk A j true).ts.length:=za1 ar (by decide)
 have aN:q3.pos<A.length:=an
 go_wp2_with fail
 refine (zbe (Cx.mk A j true) J D o (.ok (adv q3)) S3 (adv q3) (-1) d true _ (zX _) ((al.out.adv an).set E.out 1 _)).mono ?_
 rintro e w5 ⟨Z,q5,z5,n5,rfl,i5,m5,s5⟩
 replace z:=zc ((z.out.set_other (by omega) 1 _).stp s5)
 replace n:=zc ((n.out.set_other (by omega) 1 _).stp s5)
 replace E:=zc ((E.out.at1 _).stp s5)
 have ab:Hid (SB w.heap.size S w Z w5):=(ay.out.set (by omega) 1 _).step s5
 clear ay
 have L:=zc m5
 have X:=zc i5
 clear i5 m5 s5 al
 clear c0 c1 c2 c3 c4 c5 c6 c7 c8 c9 aF aI cf
 have aK:w.heap.size+1<w5.heap.size:=n.out.lt
 have aC:w3.heap.size<w5.heap.size:=E.out.lt
 cases hc:(decide (z5<0)&&isT (Cx.mk A j true) q5.pos 4 zn) with
 |true=>
  unfold pv
  go_wp2_with fail
  refine (zh (Cx.mk A j true) J D o Z q5 z5 d 4 zn _ (L.out.alloc _).tok K (by decide)).mono ?_
  rintro e w6 ⟨rfl,H⟩
  rw[hc]
  replace z:=zc ((z.out.alloc _).below H)
  replace n:=zc ((n.out.alloc _).below H)
  replace E:=zc ((E.out.alloc _).below H)
  replace I:=zc ((Bx.new L.out _).below H)
  have Q:Hid (SB w.heap.size S w Z w6):=(ab.out.alloc _).below H
  have U:Hid (Mem (Cx.mk A j true) J D o Z q5 w6):=(L.out.alloc _).later H
  clear H ab L
  obtain⟨d0,d1,d2,d3,d4,d5,d6,d7,d8,d9,O,V,df⟩:=I.out.box
  go_wp2_with fail
  refine (zad (Cx.mk A j true) J D o _ Z q5 z5 d zn _ X.out.fst U.out).mono ?_
  rintro e w7 ⟨S7,q7,z7,rfl,i7,m7,M⟩
  replace z:=zc (z.out.stp M)
  replace n:=zc (n.out.stp M)
  replace E:=zc (E.out.stp M)
  replace I:=zc (I.out.stp M)
  have ad:=zc (Q.out.step M)
  clear Q
  have ac:=zc m7
  have aj:=zc i7
  clear i7 m7 M U
  clear d0 d1 d2 d3 d4 d5 d6 d7 d8 d9 O V df
  go_wp2_with fail
  refine (zad (Cx.mk A j true) J D o _ S7 q7 z7 d za0 _ aj.out ac.out).mono ?_
  rintro e w8 ⟨S8,q8,z8,rfl,i8,m8,s8⟩
  replace z:=zc (z.out.stp s8)
  replace n:=zc (n.out.stp s8)
  replace E:=zc (E.out.stp s8)
  replace I:=zc (I.out.stp s8)
  have ak:=zc (ad.out.step s8)
  clear ad
  have ap:=zc m8
  have ax:=zc i8
  clear i8 m8 s8 ac
  obtain⟨d0,d1,d2,d3,d4,d5,d6,d7,d8,d9,O,V,df⟩:=I.out.box
  unfold pv
  go_wp2_with fail
  refine (zcJ (Cx.mk A j true) J D o _ S8 q8 z8 d ⟨5,0,n3,n5,0,0⟩ _ ax.out (ap.out.put I.out ..) (zbh ax.out)).mono ?_
  rintro e w9 ⟨S9,q9,z9,rfl,i9,m9,s9⟩
  replace z:=zc ((z.out.other (by omega) ..).stp s9)
  replace n:=zc ((n.out.other (by omega) ..).stp s9)
  replace E:=zc ((E.out.other (by omega) ..).stp s9)
  replace I:=zc ((I.out.put ..).stp s9)
  have aJ:Hid (SB w.heap.size S w S9 w9):=(ak.out.put (by omega) ..).step s9
  clear ak
  have aE:=zc m9
  have aG:=zc i9
  clear i9 m9 s9 ap
  clear d0 d1 d2 d3 d4 d5 d6 d7 d8 d9 O V df
  obtain⟨b0,b1,b2,b3,b4,b5,b6,b7,b8,b9,aH,aD,bf⟩:=n.out.box
  unfold pv
  go_wp2
  refine bodyPost_ret (results_cell_row rfl _ _ (w.heap.size+1) 53 _ (0,0) _ rfl ((n.out.put ..)).heap Tryz.underlying53 rfl (by kernel_rfl)) rfl ?_
  rw[HV.out,←HQ.out,←am.out,←zi8 X.out hc]
  exact zY rfl aG.out (aE.out.put n.out ..) (aJ.out.put (by omega) ..)
 |false=>
  unfold pv
  go_wp2_with fail
  refine (zh (Cx.mk A j true) J D o Z q5 z5 d 4 zn _ (L.out.alloc _).tok K (by decide)).mono ?_
  rintro e w6 ⟨rfl,H⟩
  rw[hc]
  replace z:=zc ((z.out.alloc _).below H)
  replace n:=zc ((n.out.alloc _).below H)
  replace E:=zc ((E.out.alloc _).below H)
  replace I:=zc ((Bx.new L.out _).below H)
  have Q:Hid (SB w.heap.size S w Z w6):=(ab.out.alloc _).below H
  have U:Hid (Mem (Cx.mk A j true) J D o Z q5 w6):=(L.out.alloc _).later H
  clear H ab L
  obtain⟨d0,d1,d2,d3,d4,d5,d6,d7,d8,d9,O,V,df⟩:=I.out.box
  go_wp2_with fail
  refine (zcJ (Cx.mk A j true) J D o _ Z q5 z5 d ⟨4,0,n3,n5,0,0⟩ _ X.out.fst U.out (ziA X.out)).mono ?_
  rintro e w7 ⟨S7,q7,z7,rfl,i7,m7,M⟩
  replace z:=zc (z.out.stp M)
  replace n:=zc (n.out.stp M)
  replace E:=zc (E.out.stp M)
  replace I:=zc (I.out.stp M)
  have ad:=zc (Q.out.step M)
  clear Q
  have ac:=zc m7
  have aj:=zc i7
  clear i7 m7 M U
  clear d0 d1 d2 d3 d4 d5 d6 d7 d8 d9 O V df
  obtain⟨b0,b1,b2,b3,b4,b5,b6,b7,b8,b9,aH,aD,bf⟩:=n.out.box
  unfold pv
  go_wp2
  refine bodyPost_ret (results_cell_row rfl _ _ (w.heap.size+1) 53 _ (0,0) _ rfl ((n.out.put ..)).heap Tryz.underlying53 rfl (by kernel_rfl)) rfl ?_
  rw[HV.out,←HQ.out,←am.out,←zi9 X.out hc]
  exact zY rfl aj.out (ac.out.put n.out ..) (ad.out.put (by omega) ..)
theorem znm (n:List Tk) (j:Nat) (E A z:Nat) (S:Sv) (q:PS) (d:Nat) (w:World) (I:Mem (Cx.mk n j false) E A z S q w) (X: ¬q.pos<(Cx.mk n j false).ts.length):
  Calls Tryz.prog 168 #[pv (Cx.mk n j false) E A S q (-1) d] w (Out (Cx.mk n j false) E A z (pE (Cx.mk n j false) .part d q) d S w):=by
 have HM:=zc I
 have J:=I.tok
 have V:(Cx.mk n j false).ts.length≤4000:=I.few
 have ah:=(zan I.tok).1
 clear I
 have hk:((ze (Cx.mk n j false) q.pos).kind==2)=false:=by rw[zdl (by omega)];rfl
 have ho:isT (Cx.mk n j false) q.pos 4 zn=false:=zeC X (by decide)
 have hu:isT (Cx.mk n j false) q.pos 1 za7=false:=zeC X (by decide)
 have hn:zD (Cx.mk n j false) q.pos false=false:=zgy X
 have HV:Hid (pE (Cx.mk n j false) .part d q= .error (zr (Cx.mk n j false) q.pos)):=by show pE (Cx.mk n j false) .part d q=_;rw[zb6,hk,ho,zj,hn];rfl
 have am: ¬q.pos<n.length:=X
 unfold pv
 go_enter Tryz.func168,Tryz.ntmps168
 go_wp2_with fail
 refine (zh (Cx.mk n j false) E A z S q (-1) d 4 zn _ (zq (zq J _) _) V (by decide)).mono ?_
 rintro e w1 ⟨rfl,M⟩
 rw[ho]
 obtain⟨U,Q,m1,t1⟩:=HM.out.two M
 have D:=zc U
 have o:=zc Q
 have N:=zc m1
 have L:=zc t1
 clear U Q m1 t1 M
 obtain⟨a0,a1,a2,a3,a4,a5,a6,a7,a8,a9,ac,Z,af⟩:=D.out.box
 go_wp2_with fail
 refine (zbe (Cx.mk n j false) E A z (.ok q) S q (-1) d false _ (zX q) N.out).mono ?_
 rintro e w2 ⟨K,q2,z2,n2,rfl,i2,m2,Y⟩
 replace D:=zc (D.out.stp Y)
 replace o:=zc (o.out.stp Y)
 have O:=zc (L.out.step Y)
 clear L
 have H:=zc m2
 have ab:=zc i2
 clear i2 m2 Y N
 clear a0 a1 a2 a3 a4 a5 a6 a7 a8 a9 ac Z af
 obtain rfl:=zf6 ab.out hn
 have dz:decide ((0:Int)≤(zr (Cx.mk n j false) q.pos:Int))=true:=decide_eq_true (by omega)
 have ag:w.heap.size+1<w2.heap.size:=o.out.lt
 unfold pv
 go_upto_region 17 with fail
 refine zL (R:=fun W=>Bx E K W (w.heap.size) _∧Bx E K W (w.heap.size+1) _∧Bx E K W (w2.heap.size) _∧Mem (Cx.mk n j false) E A z K q2 W∧SB w.heap.size S w K W) ⟨(D.out.alloc _),(o.out.alloc _),(Bx.new H.out _),(H.out.alloc _),(O.out.alloc _)⟩ ?_
 clear D o O H
 rintro w3 ⟨U,Q,X2,m3,t3⟩
 have D:=zc U
 have o:=zc Q
 have ae:=zc X2
 have aa:=zc m3
 have ad:=zc t3
 clear m3 t3 U Q X2
 obtain⟨b0,b1,b2,b3,b4,b5,b6,b7,b8,b9,ak,ai,bf⟩:=o.out.box
 obtain⟨c0,c1,c2,c3,c4,c5,c6,c7,c8,c9,aj,al,cf⟩:=ae.out.box
 go_wp2
 refine bodyPost_ret (results_cell_row rfl _ _ (w.heap.size+1) 53 _ (0,0) _ rfl ((o.out.put ..)).heap Tryz.underlying53 rfl (by kernel_rfl)) rfl ?_
 rw[HV.out]
 exact zY rfl (show Is (.error (zr (Cx.mk n j false) q.pos)) q2 _ from rfl) (aa.out.put o.out ..) (ad.out.put (by omega) ..)
theorem znn (n:List Tk) (j:Nat) (E A z:Nat) (S:Sv) (q:PS) (d:Nat) (w:World) (J:Mem (Cx.mk n j false) E A z S q w) (hk:((ze (Cx.mk n j false) q.pos).kind==2)=false) (ho:isT (Cx.mk n j false) q.pos 4 zn=false) (hp:q.pos<(Cx.mk n j false).ts.length) (hn:zD (Cx.mk n j false) q.pos false=false):
  Calls Tryz.prog 168 #[pv (Cx.mk n j false) E A S q (-1) d] w (Out (Cx.mk n j false) E A z (pE (Cx.mk n j false) .part d q) d S w):=by
 have HM:=zc J
 have H:=J.tok
 have V:(Cx.mk n j false).ts.length≤4000:=J.few
 have ag:=(zan J.tok).1
 clear J
 have HV:Hid (pE (Cx.mk n j false) .part d q= .error (zr (Cx.mk n j false) q.pos)):=by show pE (Cx.mk n j false) .part d q=_;rw[zb6,hk,ho,zj,hn];rfl
 have al:q.pos<n.length:=hp
 obtain⟨c0,_,_,_⟩:=H.cells hp (d:=⟨0,sNone,0,(Cx.mk n j false).fin⟩)
 change _=some (Value.int .i64 (ze (Cx.mk n j false) q.pos).kind) at c0
 generalize (ze (Cx.mk n j false) q.pos).kind=kd at c0 hk
 unfold pv
 go_enter Tryz.func168,Tryz.ntmps168
 go_wp2_with fail
 refine (zh (Cx.mk n j false) E A z S q (-1) d 4 zn _ (zq (zq H _) _) V (by decide)).mono ?_
 rintro e w1 ⟨rfl,M⟩
 rw[ho]
 obtain⟨U,Q,m1,t1⟩:=HM.out.two M
 have D:=zc U
 have o:=zc Q
 have N:=zc m1
 have L:=zc t1
 clear U Q m1 t1 M
 obtain⟨a0,a1,a2,a3,a4,a5,a6,a7,a8,a9,ab,Y,af⟩:=D.out.box
 go_wp2_with fail
 refine (zbe (Cx.mk n j false) E A z (.ok q) S q (-1) d false _ (zX q) N.out).mono ?_
 rintro e w2 ⟨K,q2,z2,n2,rfl,i2,m2,X⟩
 replace D:=zc (D.out.stp X)
 replace o:=zc (o.out.stp X)
 have O:=zc (L.out.step X)
 clear L
 have I:=zc m2
 have aa:=zc i2
 clear i2 m2 X N
 clear a0 a1 a2 a3 a4 a5 a6 a7 a8 a9 ab Y af
 obtain rfl:=zf6 aa.out hn
 have dz:decide ((0:Int)≤(zr (Cx.mk n j false) q.pos:Int))=true:=decide_eq_true (by omega)
 have ae:w.heap.size+1<w2.heap.size:=o.out.lt
 unfold pv
 go_upto_region 17 with fail
 refine zL (R:=fun W=>Bx E K W (w.heap.size) _∧Bx E K W (w.heap.size+1) _∧Bx E K W (w2.heap.size) _∧Mem (Cx.mk n j false) E A z K q2 W∧SB w.heap.size S w K W) ⟨(D.out.alloc _),(o.out.alloc _),(Bx.new I.out _),(I.out.alloc _),(O.out.alloc _)⟩ ?_
 clear D o O I
 rintro w3 ⟨U,Q,X2,m3,t3⟩
 have D:=zc U
 have o:=zc Q
 have ad:=zc X2
 have Z:=zc m3
 have ac:=zc t3
 clear m3 t3 U Q X2
 obtain⟨b0,b1,b2,b3,b4,b5,b6,b7,b8,b9,aj,ah,bf⟩:=o.out.box
 obtain⟨c0,c1,c2,c3,c4,c5,c6,c7,c8,c9,ai,ak,cf⟩:=ad.out.box
 go_wp2
 refine bodyPost_ret (results_cell_row rfl _ _ (w.heap.size+1) 53 _ (0,0) _ rfl ((o.out.put ..)).heap Tryz.underlying53 rfl (by kernel_rfl)) rfl ?_
 rw[HV.out]
 exact zY rfl (show Is (.error (zr (Cx.mk n j false) q.pos)) q2 _ from rfl) (Z.out.put o.out ..) (ac.out.put (by omega) ..)
theorem ziC (H:List Tk) (n:Nat) (E z o:Nat) (S:Sv) (q:PS) (d:Nat) (w:World) (J:Mem (Cx.mk H n false) E z o S q w) (D:Nat):
  Calls Tryz.prog 168 #[pv (Cx.mk H n false) E z S q (D:Int) d] w (Out (Cx.mk H n false) E z o (.error D) d S w):=by
 have HM:=zc J
 have K:=J.tok
 have X:(Cx.mk H n false).ts.length≤4000:=J.few
 have ah:=(zan J.tok).1
 clear J
 have hz: ¬(D:Int)<0:=by omega
 have hs: ∀k s,(decide ((D:Int)<0)&&isT (Cx.mk H n false) q.pos k s)=false:=fun k s=>by rw[decide_eq_false hz];rfl
 unfold pv
 go_enter Tryz.func168,Tryz.ntmps168
 go_wp2_with fail
 refine (zh (Cx.mk H n false) E z o S q (D:Int) d 4 zn _ (zq (zq K _) _) X (by decide)).mono ?_
 rintro e w1 ⟨rfl,N⟩
 rw[hs]
 obtain⟨V,U,m1,t1⟩:=HM.out.two N
 have A:=zc V
 have j:=zc U
 have O:=zc m1
 have M:=zc t1
 clear V U m1 t1 N
 obtain⟨a0,a1,a2,a3,a4,a5,a6,a7,a8,a9,ac,Z,af⟩:=A.out.box
 go_wp2_with fail
 refine (zbe (Cx.mk H n false) E z o (.error D) S q (D:Int) d false _ (show Is (.error D) q _ from rfl) O.out).mono ?_
 rintro e w2 ⟨L,q2,z2,n2,rfl,i2,m2,Y⟩
 replace A:=zc (A.out.stp Y)
 replace j:=zc (j.out.stp Y)
 have Q:=zc (M.out.step Y)
 clear M
 have I:=zc m2
 have ab:=zc i2
 clear i2 m2 Y O
 clear a0 a1 a2 a3 a4 a5 a6 a7 a8 a9 ac Z af
 obtain rfl:z2=(D:Int):=ab.out
 have dz:decide ((0:Int)≤(D:Int))=true:=decide_eq_true (by omega)
 have ag:w.heap.size+1<w2.heap.size:=j.out.lt
 unfold pv
 go_upto_region 17 with fail
 refine zL (R:=fun W=>Bx E L W (w.heap.size) _∧Bx E L W (w.heap.size+1) _∧Bx E L W (w2.heap.size) _∧Mem (Cx.mk H n false) E z o L q2 W∧SB w.heap.size S w L W) ⟨(A.out.alloc _),(j.out.alloc _),(Bx.new I.out _),(I.out.alloc _),(Q.out.alloc _)⟩ ?_
 clear A j Q I
 rintro w3 ⟨V,U,X2,m3,t3⟩
 have A:=zc V
 have j:=zc U
 have ae:=zc X2
 have aa:=zc m3
 have ad:=zc t3
 clear m3 t3 V U X2
 obtain⟨b0,b1,b2,b3,b4,b5,b6,b7,b8,b9,ak,ai,bf⟩:=j.out.box
 obtain⟨c0,c1,c2,c3,c4,c5,c6,c7,c8,c9,aj,al,cf⟩:=ae.out.box
 go_wp2
 refine bodyPost_ret (results_cell_row rfl _ _ (w.heap.size+1) 53 _ (0,0) _ rfl ((j.out.put ..)).heap Tryz.underlying53 rfl (by kernel_rfl)) rfl ?_
 exact zY rfl (show Is (.error D) q2 _ from rfl) (aa.out.put j.out ..) (ad.out.put (by omega) ..)
theorem zno (n:List Tk) (j:Nat) (J A o:Nat) (S:Sv) (q:PS) (d:Nat) (w:World) (M:Mem (Cx.mk n j false) J A o S q w) (hk:((ze (Cx.mk n j false) q.pos).kind==2)=false) (ho:isT (Cx.mk n j false) q.pos 4 zn=false) (hp:q.pos<(Cx.mk n j false).ts.length) (hn:zD (Cx.mk n j false) q.pos false=true) (hd:isT (Cx.mk n j false) (q.pos+1) 4 cPoint=false):
  Calls Tryz.prog 168 #[pv (Cx.mk n j false) J A S q (-1) d] w (Out (Cx.mk n j false) J A o (pE (Cx.mk n j false) .part d q) d S w):=by
 have HM:=zc M
 have I:=M.tok
 have K:(Cx.mk n j false).ts.length≤4000:=M.few
 have ao:=(zan M.tok).1
 clear M
 have HV:Hid (pE (Cx.mk n j false) .part d q=zbc (Cx.mk n j false) (ze (Cx.mk n j false) q.pos).text (adv q)):=by show pE (Cx.mk n j false) .part d q=_;rw[zb6,hk,ho,zj,hn];show (if isT (Cx.mk n j false) (adv q).pos 4 cPoint then _ else _)=_;rw[zx,hd];rfl
 have ar:q.pos<n.length:=hp
 obtain⟨c0,_,_,_⟩:=I.cells hp (d:=⟨0,sNone,0,(Cx.mk n j false).fin⟩)
 change _=some (Value.int .i64 (ze (Cx.mk n j false) q.pos).kind) at c0
 generalize (ze (Cx.mk n j false) q.pos).kind=kd at c0 hk
 unfold pv
 go_enter Tryz.func168,Tryz.ntmps168
 go_wp2_with fail
 refine (zh (Cx.mk n j false) J A o S q (-1) d 4 zn _ (zq (zq I _) _) K (by decide)).mono ?_
 rintro e w1 ⟨rfl,V⟩
 rw[ho]
 obtain⟨X0,X1,m1,t1⟩:=HM.out.two V
 have D:=zc X0
 have z:=zc X1
 have X:=zc m1
 have U:=zc t1
 clear X0 X1 m1 t1 V
 obtain⟨a0,a1,a2,a3,a4,a5,a6,a7,a8,a9,ai,ah,af⟩:=D.out.box
 go_wp2_with fail
 refine (zbe (Cx.mk n j false) J A o (.ok q) S q (-1) d false _ (zX q) X.out).mono ?_
 rintro e w2 ⟨S2,Y,z2,n2,rfl,i2,m2,s2⟩
 replace D:=zc (D.out.stp s2)
 replace z:=zc (z.out.stp s2)
 have aa:=zc (U.out.step s2)
 clear U
 have H:=zc m2
 have O:=zc i2
 clear i2 m2 s2 X
 clear a0 a1 a2 a3 a4 a5 a6 a7 a8 a9 ai ah af
 obtain⟨hq,rfl,ac⟩:=zf5 O.out hn
 have HQ:=zc hq
 have ag:=zc ac
 have ab:Y.pos=q.pos+1:=by rw[hq];rfl
 have ak:isT (Cx.mk n j false) Y.pos 4 cPoint=false:=by rw[ab];exact hd
 clear hq ac O
 have an:w.heap.size+1<w2.heap.size:=z.out.lt
 unfold pv
 clear ab
 go_wp2_with fail
 refine (zh (Cx.mk n j false) J A o S2 Y (-1) d 4 cPoint _ (H.out.alloc _).tok K (by decide)).mono ?_
 rintro e w3 ⟨rfl,E⟩
 rw[ak]
 replace D:=zc ((D.out.alloc _).below E)
 replace z:=zc ((z.out.alloc _).below E)
 replace L:=zc ((Bx.new H.out _).below E)
 have Q:Hid (SB w.heap.size S w S2 w3):=(aa.out.alloc _).below E
 have N:Hid (Mem (Cx.mk n j false) J A o S2 Y w3):=(H.out.alloc _).later E
 clear E aa H
 obtain⟨c0,c1,c2,c3,c4,c5,c6,c7,c8,c9,aj,al,cf⟩:=L.out.box
 go_wp2_with fail
 refine (zgD (Cx.mk n j false) J A o S2 Y d n2 _ N.out (by rw[HQ.out];simp[adv])).mono ?_
 rintro e w4 ⟨S4,q4,z4,rfl,i4,m4,Z⟩
 replace D:=zc (D.out.stp Z)
 replace z:=zc (z.out.stp Z)
 replace L:=zc (L.out.stp Z)
 have am:=zc (Q.out.step Z)
 clear Q
 have ad:=zc m4
 have ae:=zc i4
 clear i4 m4 Z N
 clear c0 c1 c2 c3 c4 c5 c6 c7 c8 c9 aj al cf
 obtain⟨b0,b1,b2,b3,b4,b5,b6,b7,b8,b9,aq,ap,bf⟩:=z.out.box
 unfold pv
 go_wp2
 refine bodyPost_ret (results_cell_row rfl _ _ (w.heap.size+1) 53 _ (0,0) _ rfl ((z.out.put ..)).heap Tryz.underlying53 rfl (by kernel_rfl)) rfl ?_
 rw[HV.out,←HQ.out,←ag.out]
 exact zY rfl ae.out (ad.out.put z.out ..) (am.out.put (by omega) ..)
theorem znp (A:List Tk) (j:Nat) (K E o:Nat) (S:Sv) (q:PS) (d:Nat) (w:World) (hm:Mem (Cx.mk A j false) K E o S q w) (hk:((ze (Cx.mk A j false) q.pos).kind==2)=false) (ho:isT (Cx.mk A j false) q.pos 4 zn=false) (hp:q.pos<(Cx.mk A j false).ts.length) (hn:zD (Cx.mk A j false) q.pos false=true) (hd:isT (Cx.mk A j false) (q.pos+1) 4 cPoint=true):
  Calls Tryz.prog 168 #[pv (Cx.mk A j false) K E S q (-1) d] w (Out (Cx.mk A j false) K E o (pE (Cx.mk A j false) .part d q) d S w):=by
 have HM:=zc hm
 have ac:=hm.tok
 have L:(Cx.mk A j false).ts.length≤4000:=hm.few
 have aI:=(zan hm.tok).1
 clear hm
 have HV:Hid (pE (Cx.mk A j false) .part d q=bd (bd (.ok (adv (adv q))) (zj (Cx.mk A j false) true)) fun y=>zbx (Cx.mk A j false) (ze (Cx.mk A j false) q.pos).text y.2 y.1):=by show pE (Cx.mk A j false) .part d q=_;rw[zb6,hk,ho,zj,hn];show (if isT (Cx.mk A j false) (adv q).pos 4 cPoint then _ else _)=_;rw[zx,hd];rfl
 have aK:q.pos<A.length:=hp
 obtain⟨c0,_,_,_⟩:=ac.cells hp (d:=⟨0,sNone,0,(Cx.mk A j false).fin⟩)
 change _=some (Value.int .i64 (ze (Cx.mk A j false) q.pos).kind) at c0
 generalize (ze (Cx.mk A j false) q.pos).kind=kd at c0 hk
 unfold pv
 go_enter Tryz.func168,Tryz.ntmps168
 go_wp2_with fail
 refine (zh (Cx.mk A j false) K E o S q (-1) d 4 zn _ (zq (zq ac _) _) L (by decide)).mono ?_
 rintro e w1 ⟨rfl,am⟩
 rw[ho]
 obtain⟨X0,X1,m1,t1⟩:=HM.out.two am
 have z:=zc X0
 have n:=zc X1
 have an:=zc m1
 have al:=zc t1
 clear X0 X1 m1 t1 am
 obtain⟨a0,a1,a2,a3,a4,a5,a6,a7,a8,a9,aA,az,af⟩:=z.out.box
 go_wp2_with fail
 refine (zbe (Cx.mk A j false) K E o (.ok q) S q (-1) d false _ (zX q) an.out).mono ?_
 rintro e w2 ⟨S2,q2,z2,n2,rfl,i2,m2,s2⟩
 replace z:=zc (z.out.stp s2)
 replace n:=zc (n.out.stp s2)
 have ap:=zc (al.out.step s2)
 clear al
 have Y:=zc m2
 have ai:=zc i2
 clear i2 m2 s2 an
 clear a0 a1 a2 a3 a4 a5 a6 a7 a8 a9 aA az af
 obtain⟨hq,rfl,av⟩:=zf5 ai.out hn
 have HQ:=zc hq
 have ae:=zc av
 have au:q2.pos=q.pos+1:=by rw[hq];rfl
 have ak:isT (Cx.mk A j false) q2.pos 4 cPoint=true:=by rw[au];exact hd
 clear hq av ai
 have aH:w.heap.size+1<w2.heap.size:=n.out.lt
 unfold pv
 clear au
 go_wp2_with fail
 refine (zh (Cx.mk A j false) K E o S2 q2 (-1) d 4 cPoint _ (Y.out.alloc _).tok L (by decide)).mono ?_
 rintro e w3 ⟨rfl,N⟩
 rw[ak]
 replace z:=zc ((z.out.alloc _).below N)
 replace n:=zc ((n.out.alloc _).below N)
 replace D:=zc ((Bx.new Y.out _).below N)
 have aj:Hid (SB w.heap.size S w S2 w3):=(ap.out.alloc _).below N
 have ah:Hid (Mem (Cx.mk A j false) K E o S2 q2 w3):=(Y.out.alloc _).later N
 clear N ap Y
 obtain⟨c0,c1,c2,c3,c4,c5,c6,c7,c8,c9,aC,aE,cf⟩:=D.out.box
 have ag:q2.pos<(Cx.mk A j false).ts.length:=za1 ak (by decide)
 have aJ:q2.pos<A.length:=ag
 go_wp2_with fail
 refine (zbe (Cx.mk A j false) K E o (.ok (adv q2)) S2 (adv q2) (-1) d true _ (zX _) ((ah.out.adv ag).set D.out 1 _)).mono ?_
 rintro e w4 ⟨S4,q4,z4,n4,rfl,i4,m4,s4⟩
 replace z:=zc ((z.out.set_other (by omega) 1 _).stp s4)
 replace n:=zc ((n.out.set_other (by omega) 1 _).stp s4)
 replace D:=zc ((D.out.at1 _).stp s4)
 have aa:Hid (SB w.heap.size S w S4 w4):=(aj.out.set (by omega) 1 _).step s4
 clear aj
 have J:=zc m4
 have O:=zc i4
 clear i4 m4 s4 ah
 clear c0 c1 c2 c3 c4 c5 c6 c7 c8 c9 aC aE cf
 have aG:w.heap.size+1<w4.heap.size:=n.out.lt
 have aw:w2.heap.size<w4.heap.size:=D.out.lt
 cases hc:(decide (z4<0)&&isT (Cx.mk A j false) q4.pos 4 zn) with
 |true=>
  unfold pv
  go_wp2_with fail
  refine (zh (Cx.mk A j false) K E o S4 q4 z4 d 4 zn _ (J.out.alloc _).tok L (by decide)).mono ?_
  rintro e w5 ⟨rfl,H⟩
  rw[hc]
  replace z:=zc ((z.out.alloc _).below H)
  replace n:=zc ((n.out.alloc _).below H)
  replace D:=zc ((D.out.alloc _).below H)
  replace I:=zc ((Bx.new J.out _).below H)
  have Q:Hid (SB w.heap.size S w S4 w5):=(aa.out.alloc _).below H
  have X:Hid (Mem (Cx.mk A j false) K E o S4 q4 w5):=(J.out.alloc _).later H
  clear H aa J
  obtain⟨d0,d1,d2,d3,d4,d5,d6,d7,d8,d9,U,V,df⟩:=I.out.box
  go_wp2_with fail
  refine (zad (Cx.mk A j false) K E o _ S4 q4 z4 d zn _ O.out.fst X.out).mono ?_
  rintro e w6 ⟨S6,q6,z6,rfl,i6,m6,M⟩
  replace z:=zc (z.out.stp M)
  replace n:=zc (n.out.stp M)
  replace D:=zc (D.out.stp M)
  replace I:=zc (I.out.stp M)
  have Z:=zc (Q.out.step M)
  clear Q
  have ab:=zc m6
  have ad:=zc i6
  clear i6 m6 M X
  clear d0 d1 d2 d3 d4 d5 d6 d7 d8 d9 U V df
  go_wp2_with fail
  refine (zad (Cx.mk A j false) K E o _ S6 q6 z6 d za0 _ ad.out ab.out).mono ?_
  rintro e w7 ⟨S7,q7,z7,rfl,i7,m7,s7⟩
  replace z:=zc (z.out.stp s7)
  replace n:=zc (n.out.stp s7)
  replace D:=zc (D.out.stp s7)
  replace I:=zc (I.out.stp s7)
  have ar:=zc (Z.out.step s7)
  clear Z
  have ao:=zc m7
  have aq:=zc i7
  clear i7 m7 s7 ab
  obtain⟨d0,d1,d2,d3,d4,d5,d6,d7,d8,d9,U,V,df⟩:=I.out.box
  unfold pv
  go_wp2_with fail
  refine (zcJ (Cx.mk A j false) K E o _ S7 q7 z7 d ⟨5,0,n2,n4,0,0⟩ _ aq.out (ao.out.put I.out ..) (zbh aq.out)).mono ?_
  rintro e w8 ⟨S8,q8,z8,rfl,i8,m8,s8⟩
  replace z:=zc ((z.out.other (by omega) ..).stp s8)
  replace n:=zc ((n.out.other (by omega) ..).stp s8)
  replace D:=zc ((D.out.other (by omega) ..).stp s8)
  replace I:=zc ((I.out.put ..).stp s8)
  have ax:Hid (SB w.heap.size S w S8 w8):=(ar.out.put (by omega) ..).step s8
  clear ar
  have aB:=zc m8
  have aF:=zc i8
  clear i8 m8 s8 ao
  clear d0 d1 d2 d3 d4 d5 d6 d7 d8 d9 U V df
  obtain⟨b0,b1,b2,b3,b4,b5,b6,b7,b8,b9,aD,ay,bf⟩:=n.out.box
  unfold pv
  go_wp2
  refine bodyPost_ret (results_cell_row rfl _ _ (w.heap.size+1) 53 _ (0,0) _ rfl ((n.out.put ..)).heap Tryz.underlying53 rfl (by kernel_rfl)) rfl ?_
  rw[HV.out,←HQ.out,←ae.out,←zi8 O.out hc]
  exact zY rfl aF.out (aB.out.put n.out ..) (ax.out.put (by omega) ..)
 |false=>
  unfold pv
  go_wp2_with fail
  refine (zh (Cx.mk A j false) K E o S4 q4 z4 d 4 zn _ (J.out.alloc _).tok L (by decide)).mono ?_
  rintro e w5 ⟨rfl,H⟩
  rw[hc]
  replace z:=zc ((z.out.alloc _).below H)
  replace n:=zc ((n.out.alloc _).below H)
  replace D:=zc ((D.out.alloc _).below H)
  replace I:=zc ((Bx.new J.out _).below H)
  have Q:Hid (SB w.heap.size S w S4 w5):=(aa.out.alloc _).below H
  have X:Hid (Mem (Cx.mk A j false) K E o S4 q4 w5):=(J.out.alloc _).later H
  clear H aa J
  obtain⟨d0,d1,d2,d3,d4,d5,d6,d7,d8,d9,U,V,df⟩:=I.out.box
  go_wp2_with fail
  refine (zcJ (Cx.mk A j false) K E o _ S4 q4 z4 d ⟨4,0,n2,n4,0,0⟩ _ O.out.fst X.out (ziA O.out)).mono ?_
  rintro e w6 ⟨S6,q6,z6,rfl,i6,m6,M⟩
  replace z:=zc (z.out.stp M)
  replace n:=zc (n.out.stp M)
  replace D:=zc (D.out.stp M)
  replace I:=zc (I.out.stp M)
  have Z:=zc (Q.out.step M)
  clear Q
  have ab:=zc m6
  have ad:=zc i6
  clear i6 m6 M X
  clear d0 d1 d2 d3 d4 d5 d6 d7 d8 d9 U V df
  obtain⟨b0,b1,b2,b3,b4,b5,b6,b7,b8,b9,aD,ay,bf⟩:=n.out.box
  unfold pv
  go_wp2
  refine bodyPost_ret (results_cell_row rfl _ _ (w.heap.size+1) 53 _ (0,0) _ rfl ((n.out.put ..)).heap Tryz.underlying53 rfl (by kernel_rfl)) rfl ?_
  rw[HV.out,←HQ.out,←ae.out,←zi9 O.out hc]
  exact zY rfl ad.out (ab.out.put n.out ..) (Z.out.put (by omega) ..)
def zgE (C:Cx) (gt cap base m:Nat):Prop:=∀(x:PR) (S:Sv) (q:PS) (z:Int) (d:Nat) (w:World),Is x q z→Mem C gt cap base S q w→(z<0→C.ts.length-q.pos<m)→d≤20→
 Calls Tryz.prog 168 #[pv C gt cap S q z d] w (Out C gt cap base (bd x (pE C .part d)) d S w)
def ziD (C:Cx) (gt cap base m:Nat):Prop:=∀(x:PR) (S:Sv) (q:PS) (z:Int) (d:Nat) (w:World),Is x q z→Mem C gt cap base S q w→(z<0→C.ts.length-q.pos<m)→d≤20→
 Calls Tryz.prog 136 #[pv C gt cap S q z d] w (Out C gt cap base (bd x (pE C .prod d)) d S w)
theorem SumOK.mono {C:Cx} {o n j m k:Nat} (h:SumOK C o n j m) (I:k≤m):SumOK C o n j k:=fun x S q z d w D A H E=>h x S q z d w D A (fun g=>Nat.lt_of_lt_of_le (H g) I) E
theorem znq {C:Cx} {D o j m:Nat} (X:SumOK C D o j m):zgE C D o j (m+1):=by
 intro x S q z d w V E Y L
 by_cases Q:z<0
 ·obtain⟨rfl,rfl⟩:=zaC V Q
  rw[zz]
  have U:SumOK C D o j (C.ts.length-q.pos):=X.mono (by have:=Y Q;omega)
  cases I:((ze C q.pos).kind==2) with
  |true=>exact zne C D o j S q d w E I
  |false=>
   cases J:isT C q.pos 4 zn with
   |true=>
    by_cases O:20≤d
    ·exact znf C D o j S q d w E I J O L
    ·exact zng C D o j S q d w E I J (by omega) U
   |false=>
    obtain⟨A,n,K⟩:=C
    cases K with
    |true=>
     by_cases H:q.pos<A.length
     ·cases N:isT (Cx.mk A n true) q.pos 1 za7 with
      |true=>exact znj A n D o j S q d w E I J H N
      |false=>
       cases M:zD (Cx.mk A n true) q.pos false with
       |false=>exact zni A n D o j S q d w E I J H N M
       |true=>
        cases L:isT (Cx.mk A n true) (q.pos+1) 4 cPoint with
        |false=>exact znk A n D o j S q d w E I J H N M L
        |true=>exact znl A n D o j S q d w E I J H N M L
     ·exact znh A n D o j S q d w E H
    |false=>
     by_cases H:q.pos<A.length
     ·cases M:zD (Cx.mk A n false) q.pos false with
      |false=>exact znn A n D o j S q d w E I J H M
      |true=>
       cases L:isT (Cx.mk A n false) (q.pos+1) 4 cPoint with
       |false=>exact zno A n D o j S q d w E I J H M L
       |true=>exact znp A n D o j S q d w E I J H M L
     ·exact znm A n D o j S q d w E H
 ·obtain⟨e,rfl,rfl⟩:=zdc V Q
  rw[zdU]
  obtain⟨A,n,K⟩:=C
  cases K with
  |true=>exact ziB A n D o j S q d w E e
  |false=>exact ziC A n D o j S q d w E e
theorem zgF {C:Cx} {x:PR} {q:PS} {z:Int} (h:Is x q z) (F:PS→Ex):bd x (zN C (F q))=bd x fun q'=>zN C (F q') q':=by
 cases x with
 |ok a=>obtain⟨rfl,_⟩:=h;rfl
 |error e=>rfl
theorem ziE {C:Cx} {y:PS→Ex} {x:PR} {q:PS} {n:Nat} (o: ∀a,x= .ok a→n≤a.pos) (h:(bd x fun q'=>zN C (y q') q')= .ok q):n≤q.pos:=by
 obtain⟨a,z,j⟩:=zf h
 obtain⟨rfl,_⟩:=zb5 j
 exact o a z
theorem znr {C:Cx} {d m:Nat} {x:PR} {q j:PS} {z n:Int} (o:Is x q z) (I:Is (bd x (pE C .part d)) j n) (A:z<0→C.ts.length-q.pos<m) (E:n<0):C.ts.length-j.pos<m:=by
 obtain⟨e,_⟩:=zaC I E
 obtain⟨a,D,H⟩:=zf e
 subst D
 obtain⟨rfl,rfl⟩:=o
 have:=zaY H
 have:=A (by decide)
 omega
theorem zns {C:Cx} {d m:Nat} {x:PR} {q j:PS} {z n:Int} (o:Is x q z) (I:Is (bd x (pE C .prod d)) j n) (A:z<0→C.ts.length-q.pos<m) (E:n<0):C.ts.length-j.pos<m:=by
 obtain⟨e,_⟩:=zaC I E
 obtain⟨a,D,H⟩:=zf e
 subst D
 obtain⟨rfl,rfl⟩:=o
 have:=zaY H
 have:=A (by decide)
 omega
theorem znt {C:Cx} {d:Nat} {j q:PS} {z:Int} (h:Is (bd (.ok (adv j)) (pE C .part d)) q z) (n:z<0):1≤q.pos:=by
 obtain⟨e,_⟩:=zaC h n
 have:=zaY (show pE C .part d (adv j)= .ok q from e)
 rw[zx] at this
 omega
theorem ziF {C:Cx} {d:Nat} {j q:PS} {z:Int} (h:Is (bd (.ok (adv j)) (pE C .prod d)) q z) (n:z<0):1≤q.pos:=by
 obtain⟨e,_⟩:=zaC h n
 have:=zaY (show pE C .prod d (adv j)= .ok q from e)
 rw[zx] at this
 omega
theorem znu {C:Cx} {d:Nat} {F:PS→Ex} {j q:PS} {z:Int} (h:Is (bd (bd (.ok (adv j)) (pE C .part d)) fun q'=>zN C (F q') q') q z) (n:z<0):j.pos+1≤q.pos:=by
 obtain⟨e,_⟩:=zaC h n
 exact ziE (fun a o=>by have:=zaY (show pE C .part d (adv j)= .ok a from o);rw[zx] at this;exact this) e
theorem ziG {C:Cx} {d:Nat} {F:PS→Ex} {j q:PS} {z:Int} (h:Is (bd (bd (.ok (adv j)) (pE C .prod d)) fun q'=>zN C (F q') q') q z) (n:z<0):j.pos+1≤q.pos:=by
 obtain⟨e,_⟩:=zaC h n
 exact ziE (fun a o=>by have:=zaY (show pE C .prod d (adv j)= .ok a from o);rw[zx] at this;exact this) e
theorem znv {C:Cx} {d:Nat} {q:PS} (j:isT C q.pos 4 zw=true) (_:q.pos<C.ts.length):
  bd (.ok q) (pE C .prodT d)=bd (bd (bd (.ok (adv q)) (pE C .part d)) fun q'=>zN C ⟨8,0,sNone,sNone,(q.ex.length:Int)-1,(q'.ex.length:Int)-1⟩ q') (pE C .prodT d):=by
 show pE C .prodT d q=_
 rw[zfo,if_pos j]
 rfl
theorem ziH {C:Cx} {d:Nat} {q:PS} {k:Int} (n:(isT C q.pos 4 zbU||isT C q.pos 4 zbb)=true) (j:zcY C q.pos=k) (_:q.pos<C.ts.length):
  bd (.ok q) (pE C .sumT d)=bd (bd (bd (.ok (adv q)) (pE C .prod d)) fun q'=>zN C ⟨k,0,sNone,sNone,(q.ex.length:Int)-1,(q'.ex.length:Int)-1⟩ q') (pE C .sumT d):=by
 show pE C .sumT d q=_
 rw[ze7,if_pos n,j]
 rfl
theorem znw {C:Cx} {d:Nat} {x:PR} {q:PS} {z:Int} (j:Is x q z) (n:(decide (z<0)&&isT C q.pos 4 zw)=false):Is (bd x (pE C .prodT d)) q z:=by
 cases x with
 |ok a=>
  obtain⟨rfl,rfl⟩:=j
  rw[Bool.and_eq_false_iff] at n
  rw[zz,zfo,n.resolve_left (by decide)]
  exact⟨rfl,rfl⟩
 |error e=>exact j
theorem znx {C:Cx} {d:Nat} {x:PR} {q:PS} {z:Int} (n:Is x q z) (o:(decide (z<0)&&isT C q.pos 4 zbU)=false) (j:(decide (z<0)&&isT C q.pos 4 zbb)=false):Is (bd x (pE C .sumT d)) q z:=by
 cases x with
 |ok a=>
  obtain⟨rfl,rfl⟩:=n
  rw[Bool.and_eq_false_iff] at o j
  rw[zz,ze7,o.resolve_left (by decide),j.resolve_left (by decide)]
  exact⟨rfl,rfl⟩
 |error e=>exact n
theorem zny {C:Cx} {i:Nat} (h:isT C i 4 zbU=true):isT C i 4 zbb=false:=by
 simp only[isT,Bool.and_eq_true,beq_iff_eq] at h
 simp only[isT,h.2]
 rw[Bool.and_eq_false_iff]
 exact .inr (by simp)
theorem ziI {C:Cx} {U H E m:Nat} (hP:zgE C U H E m):ziD C U H E m:=by
 intro x S q z d w hx hm hl ad
 have HP:=zc hP
 have HM:=zc hm
 have HX:=zc hx
 have HL:=zc hl
 have ae:=hm.few
 clear hP hm hx hl
 unfold pv
 go_enter Tryz.func136,Tryz.ntmps136
 go_wp2_with fail
 refine (HP.out x S q z d _ HX.out ((HM.out.alloc _).alloc _) HL.out ad).mono ?_
 rintro e w1 ⟨S1,q1,z1,rfl,i1,m1,s1⟩
 obtain⟨X0,X1,t1⟩:=HM.out.two2 s1
 have j:=zc X0
 have n:=zc X1
 have aq:=zc m1
 have ap:=zc t1
 have ak:=zc i1
 clear X0 X1 i1 m1 t1 s1
 obtain⟨V,X,Z,a3,M,a5,O,Y,L,a9,A,o,N⟩:=j.out.box
 unfold pv
 go_wp2
 go_loopg [] (C.ts.length+1) (fun k wr=>∃(x':PR) (I:Sv) (J:PS) (z':Int),Is x' J z'∧bd x' (pE C .prodT d)=bd x (pE C .prod d)∧(z'<0→C.ts.length-J.pos<k)∧(z'<0→C.ts.length-J.pos<m)∧Mem C U H E I J wr∧SB w.heap.size S w I wr∧Bx U I wr w.heap.size #[.slice (some ⟨U,0,none⟩) C.ts.length H,.int .i64 J.pos,.int .i64 C.fin,.bool C.scr,.slice I.rq.a J.rq.length I.rq.cap,.slice I.im.a J.im.length I.im.cap,.slice I.ep.a J.ep.length I.ep.cap,.slice I.st.a J.st.length I.st.cap,.slice I.ex.a J.ex.length I.ex.cap,.slice I.la.a J.la.length I.la.cap,.int .i64 z',.int .i64 d]∧Bx U I wr (w.heap.size+1) #[.slice none 0 0,.int .i64 0,.int .i64 0,.bool false,.slice none 0 0,.slice none 0 0,.slice none 0 0,.slice none 0 0,.slice none 0 0,.slice none 0 0,.int .i64 0,.int .i64 0])
 case atStart=>exact⟨_,S1,q1,z1,ak.out,by rw[zM];exact zab fun a _=>(zhD C d a).symm,fun _=>by omega,fun hz=>znr HX.out ak.out HL.out hz,(aq.out.put j.out ..),(ap.out.put (by omega) ..),(j.out.put ..),(n.out.other (by omega) ..)⟩
 case round=>
  obtain⟨x2,S2,Q,z2,i2,e2,l2,b2,m2,t2,X0,X1⟩:=hrel
  have j:=zc X0
  have n:=zc X1
  have K:=zc m2
  have ac:=zc t2
  have am:=zc i2
  have ao:=zc e2
  have aw:=zc l2
  have ax:=zc b2
  have aD:=m2.inv.ex
  clear X0 X1 i2 m2 t2 e2 l2 b2
  cases hc:(decide (z2<0)&&isT C Q.pos 4 zw) with
  |true=>
   obtain⟨V,X,Z,a3,M,a5,O,Y,L,a9,A,o,N⟩:=j.out.box
   go_wp2_with fail
   refine (zh C U H E S2 Q z2 d 4 zw _ K.out.tok ae (by decide)).mono ?_
   rintro e w3 ⟨rfl,D⟩
   rw[hc]
   replace j:=zc (j.out.below D)
   replace n:=zc (n.out.below D)
   have ab:=zc (ac.out.below D)
   have aa:=zc (K.out.later D)
   clear D ac K
   clear V X Z a3 M a5 O Y L a9 A o N
   rw[Bool.and_eq_true,decide_eq_true_eq] at hc
   obtain⟨hz,hs⟩:=hc
   have hp:Q.pos<C.ts.length:=za1 hs (by decide)
   obtain⟨rfl,rfl⟩:=zaC am.out hz
   have aB:=aw.out hz
   have az:=ax.out hz
   skip
   obtain⟨V,X,Z,a3,M,a5,O,Y,L,a9,A,o,N⟩:=j.out.box
   go_wp2_with fail
   refine (HP.out (.ok (adv Q)) S2 (adv Q) (-1) d _ (zX _) ((aa.out.adv hp).set j.out 1 _) (fun _=>by rw[zx];omega) ad).mono ?_
   rintro e w4 ⟨S4,q4,z4,rfl,i4,m4,s4⟩
   replace j:=zc ((j.out.at1 _).stp s4)
   replace n:=zc ((n.out.set_other (by omega) 1 _).stp s4)
   have an:Hid (SB w.heap.size S w S4 w4):=(ab.out.set (by omega) 1 _).step s4
   clear ab
   have aj:=zc m4
   have ah:=zc i4
   clear i4 m4 s4 aa
   clear V X Z a3 M a5 O Y L a9 A o N
   obtain⟨V,X,Z,a3,M,a5,O,Y,L,a9,A,o,N⟩:=j.out.box
   unfold pv
   go_upto_region 6 with fail
   refine zL (R:=fun W=>Bx U S4 W (w.heap.size) _∧Bx U S4 W (w.heap.size+1) _∧Mem C U H E S4 q4 W∧SB w.heap.size S w S4 W) ⟨(j.out.put ..),(n.out.other (by omega) ..),(aj.out.put j.out ..),(an.out.put (by omega) ..)⟩ ?_
   clear V X Z a3 M a5 O Y L a9 A o N
   clear j n an aj
   rintro w5 ⟨X0,X1,m5,t5⟩
   have j:=zc X0
   have n:=zc X1
   have ai:=zc m5
   have al:=zc t5
   clear m5 t5 X0 X1
   obtain⟨V,X,Z,a3,M,a5,O,Y,L,a9,A,o,N⟩:=j.out.box
   have ay:=ai.out.inv.ex
   go_wp2_with fail
   refine (zcJ C U H E _ S4 q4 z4 d ⟨8,0,sNone,sNone,(Q.ex.length:Int)-1,(q4.ex.length:Int)-1⟩ _ ah.out ai.out (fun h=>znt ah.out h)).mono ?_
   rintro e w6 ⟨S6,q6,z6,rfl,i6,m6,s6⟩
   replace j:=zc (j.out.stp s6)
   replace n:=zc (n.out.stp s6)
   have ar:=zc (al.out.step s6)
   clear al
   have au:=zc m6
   have av:=zc i6
   clear i6 m6 s6 ai
   clear V X Z a3 M a5 O Y L a9 A o N
   have HI:Hid (Is (bd (bd (.ok (adv Q)) (pE C .part d)) fun J=>zN C ⟨8,0,sNone,sNone,(Q.ex.length:Int)-1,(J.ex.length:Int)-1⟩ J) q6 z6):=by rw[←zgF ah.out (fun J=>⟨8,0,sNone,sNone,(Q.ex.length:Int)-1,(J.ex.length:Int)-1⟩)];exact av.out
   have ag:Hid (z6<0→Q.pos+1≤q6.pos):=fun h=>znu HI.out h
   obtain⟨V,X,Z,a3,M,a5,O,Y,L,a9,A,o,N⟩:=j.out.box
   unfold pv
   go_wp2
   go_roundg (gk-1)
   case rel=>exact⟨_,S6,q6,z6,HI.out,by rw[←ao.out];exact (znv (d:=d) hs hp).symm,fun h=>by have:=ag.out h;omega,fun h=>by have:=ag.out h;omega,(au.out.put j.out ..),(ar.out.put (by omega) ..),(j.out.put ..),(n.out.other (by omega) ..)⟩
   case measure=>omega
  |false=>
   obtain⟨V,X,Z,a3,M,a5,O,Y,L,a9,A,o,N⟩:=j.out.box
   go_wp2_with fail
   refine (zh C U H E S2 Q z2 d 4 zw _ K.out.tok ae (by decide)).mono ?_
   rintro e w3 ⟨rfl,D⟩
   rw[hc]
   replace j:=zc (j.out.below D)
   replace n:=zc (n.out.below D)
   have ab:=zc (ac.out.below D)
   have aa:=zc (K.out.later D)
   clear D ac K
   clear V X Z a3 M a5 O Y L a9 A o N
   obtain⟨V,X,Z,a3,M,a5,O,Y,L,a9,A,o,N⟩:=j.out.box
   obtain⟨b0,b1,b2,b3,b4,b5,b6,b7,b8,b9,aC,aA,bf⟩:=n.out.box
   go_wp2
   refine bodyPost_ret (results_cell_row rfl _ _ (w.heap.size+1) 53 _ (0,0) _ rfl ((n.out.put ..)).heap Tryz.underlying53 rfl (by kernel_rfl)) rfl ?_
   exact zY rfl (show Is (bd x (pE C .prod d)) Q z2 from by rw[←ao.out];exact znw am.out hc) (aa.out.put n.out ..) (ab.out.put (by omega) ..)
theorem ziJ {C:Cx} {gt I D m:Nat} (hP:ziD C gt I D m):SumOK C gt I D m:=by
 intro x S q z d w hx hm hl am
 have HP:=zc hP
 have HM:=zc hm
 have HX:=zc hx
 have HL:=zc hl
 have ab:=hm.few
 clear hP hm hx hl
 unfold pv
 go_enter Tryz.func75,Tryz.ntmps75
 go_wp2_with fail
 refine (HP.out x S q z d _ HX.out ((HM.out.alloc _).alloc _) HL.out am).mono ?_
 rintro e w1 ⟨S1,q1,z1,rfl,i1,m1,s1⟩
 obtain⟨X0,X1,t1⟩:=HM.out.two2 s1
 have j:=zc X0
 have n:=zc X1
 have aI:=zc m1
 have aH:=zc t1
 have ay:=zc i1
 clear X0 X1 i1 m1 t1 s1
 obtain⟨N,O,U,X,K,Y,M,Q,J,V,A,o,L⟩:=j.out.box
 unfold pv
 go_wp2
 go_loopg [] (C.ts.length+1) (fun k wr=>∃(x':PR) (S':Sv) (q':PS) (z':Int),Is x' q' z'∧bd x' (pE C .sumT d)=bd x (pE C .sum d)∧(z'<0→C.ts.length-q'.pos<k)∧(z'<0→C.ts.length-q'.pos<m)∧Mem C gt I D S' q' wr∧SB w.heap.size S w S' wr∧Bx gt S' wr w.heap.size #[.slice (some ⟨gt,0,none⟩) C.ts.length I,.int .i64 q'.pos,.int .i64 C.fin,.bool C.scr,.slice S'.rq.a q'.rq.length S'.rq.cap,.slice S'.im.a q'.im.length S'.im.cap,.slice S'.ep.a q'.ep.length S'.ep.cap,.slice S'.st.a q'.st.length S'.st.cap,.slice S'.ex.a q'.ex.length S'.ex.cap,.slice S'.la.a q'.la.length S'.la.cap,.int .i64 z',.int .i64 d]∧Bx gt S' wr (w.heap.size+1) #[.slice none 0 0,.int .i64 0,.int .i64 0,.bool false,.slice none 0 0,.slice none 0 0,.slice none 0 0,.slice none 0 0,.slice none 0 0,.slice none 0 0,.int .i64 0,.int .i64 0])
 case atStart=>exact⟨_,S1,q1,z1,ay.out,by rw[zM];exact zab fun a _=>(zhC C d a).symm,fun _=>by omega,fun hz=>zns HX.out ay.out HL.out hz,(aI.out.put j.out ..),(aH.out.put (by omega) ..),(j.out.put ..),(n.out.other (by omega) ..)⟩
 case round=>
  obtain⟨x2,S2,H,z2,i2,e2,l2,b2,m2,t2,X0,X1⟩:=hrel
  have j:=zc X0
  have n:=zc X1
  have ai:=zc m2
  have aq:=zc t2
  have au:=zc i2
  have ax:=zc e2
  have aB:=zc l2
  have aC:=zc b2
  have aN:=m2.inv.ex
  clear X0 X1 i2 m2 t2 e2 l2 b2
  cases hc:(decide (z2<0)&&isT C H.pos 4 zbU) with
  |true=>
   obtain⟨N,O,U,X,K,Y,M,Q,J,V,A,o,L⟩:=j.out.box
   go_wp2_with fail
   refine (zh C gt I D S2 H z2 d 4 zbU _ ai.out.tok ab (by decide)).mono ?_
   rintro e w3 ⟨rfl,Z⟩
   rw[hc]
   replace j:=zc (j.out.below Z)
   replace n:=zc (n.out.below Z)
   have ag:=zc (aq.out.below Z)
   have aa:=zc (ai.out.later Z)
   clear Z aq ai
   clear N O U X K Y M Q J V A o L
   rw[Bool.and_eq_true,decide_eq_true_eq] at hc
   obtain⟨hz,hs⟩:=hc
   have aA:isT C H.pos 4 zbb=false:=zny hs
   have ac:(decide (z2<0)&&isT C H.pos 4 zbb)=false:=by rw[aA,Bool.and_false]
   obtain⟨N,O,U,X,K,Y,M,Q,J,V,A,o,L⟩:=j.out.box
   go_wp2_with fail
   refine (zh C gt I D S2 H z2 d 4 zbb _ aa.out.tok ab (by decide)).mono ?_
   rintro e w4 ⟨rfl,E⟩
   rw[ac]
   replace j:=zc (j.out.below E)
   replace n:=zc (n.out.below E)
   have ah:=zc (ag.out.below E)
   have ad:=zc (aa.out.later E)
   clear E ag aa
   clear N O U X K Y M Q J V A o L
   clear ac
   have hp:H.pos<C.ts.length:=za1 hs (by decide)
   obtain⟨rfl,rfl⟩:=zaC au.out hz
   have aG:=aB.out hz
   have aE:=aC.out hz
   skip
   obtain⟨N,O,U,X,K,Y,M,Q,J,V,A,o,L⟩:=j.out.box
   go_wp2_with fail
   refine (HP.out (.ok (adv H)) S2 (adv H) (-1) d _ (zX _) ((ad.out.adv hp).set j.out 1 _) (fun _=>by rw[zx];omega) am).mono ?_
   rintro e w5 ⟨S5,q5,z5,rfl,i5,m5,s5⟩
   replace j:=zc ((j.out.at1 _).stp s5)
   replace n:=zc ((n.out.set_other (by omega) 1 _).stp s5)
   have al:Hid (SB w.heap.size S w S5 w5):=(ah.out.set (by omega) 1 _).step s5
   clear ah
   have ap:=zc m5
   have av:=zc i5
   clear i5 m5 s5 ad
   clear N O U X K Y M Q J V A o L
   obtain⟨N,O,U,X,K,Y,M,Q,J,V,A,o,L⟩:=j.out.box
   unfold pv
   go_upto_region 9 with fail
   refine zL (R:=fun W=>Bx gt S5 W (w.heap.size) _∧Bx gt S5 W (w.heap.size+1) _∧Mem C gt I D S5 q5 W∧SB w.heap.size S w S5 W) ⟨(j.out.put ..),(n.out.other (by omega) ..),(ap.out.put j.out ..),(al.out.put (by omega) ..)⟩ ?_
   clear N O U X K Y M Q J V A o L
   clear j n al ap
   rintro w6 ⟨X0,X1,m6,t6⟩
   have j:=zc X0
   have n:=zc X1
   have aj:=zc m6
   have ao:=zc t6
   clear m6 t6 X0 X1
   obtain⟨N,O,U,X,K,Y,M,Q,J,V,A,o,L⟩:=j.out.box
   have az:=aj.out.inv.ex
   go_wp2_with fail
   refine (zcJ C gt I D _ S5 q5 z5 d ⟨6,0,sNone,sNone,(H.ex.length:Int)-1,(q5.ex.length:Int)-1⟩ _ av.out aj.out (fun h=>ziF av.out h)).mono ?_
   rintro e w7 ⟨S7,q7,z7,rfl,i7,m7,s7⟩
   replace j:=zc (j.out.stp s7)
   replace n:=zc (n.out.stp s7)
   have ar:=zc (ao.out.step s7)
   clear ao
   have an:=zc m7
   have aK:=zc i7
   clear i7 m7 s7 aj
   clear N O U X K Y M Q J V A o L
   have HI:Hid (Is (bd (bd (.ok (adv H)) (pE C .prod d)) fun q'=>zN C ⟨6,0,sNone,sNone,(H.ex.length:Int)-1,(q'.ex.length:Int)-1⟩ q') q7 z7):=by rw[←zgF av.out (fun q'=>⟨6,0,sNone,sNone,(H.ex.length:Int)-1,(q'.ex.length:Int)-1⟩)];exact aK.out
   have ae:Hid (z7<0→H.pos+1≤q7.pos):=fun h=>ziG HI.out h
   obtain⟨N,O,U,X,K,Y,M,Q,J,V,A,o,L⟩:=j.out.box
   unfold pv
   go_wp2
   go_roundg (gk-1)
   case rel=>exact⟨_,S7,q7,z7,HI.out,by rw[←ax.out];exact (ziH (d:=d) (by rw[hs];rfl) (show zcY C H.pos=6 by rw[zcY,aA];rfl) hp).symm,fun h=>by have:=ae.out h;omega,fun h=>by have:=ae.out h;omega,(an.out.put j.out ..),(ar.out.put (by omega) ..),(j.out.put ..),(n.out.other (by omega) ..)⟩
   case measure=>omega
  |false=>
   obtain⟨N,O,U,X,K,Y,M,Q,J,V,A,o,L⟩:=j.out.box
   go_wp2_with fail
   refine (zh C gt I D S2 H z2 d 4 zbU _ ai.out.tok ab (by decide)).mono ?_
   rintro e w3 ⟨rfl,Z⟩
   rw[hc]
   replace j:=zc (j.out.below Z)
   replace n:=zc (n.out.below Z)
   have ag:=zc (aq.out.below Z)
   have aa:=zc (ai.out.later Z)
   clear Z aq ai
   clear N O U X K Y M Q J V A o L
   cases ac:(decide (z2<0)&&isT C H.pos 4 zbb) with
   |true=>
    obtain⟨N,O,U,X,K,Y,M,Q,J,V,A,o,L⟩:=j.out.box
    go_wp2_with fail
    refine (zh C gt I D S2 H z2 d 4 zbb _ aa.out.tok ab (by decide)).mono ?_
    rintro e w4 ⟨rfl,E⟩
    rw[ac]
    replace j:=zc (j.out.below E)
    replace n:=zc (n.out.below E)
    have ah:=zc (ag.out.below E)
    have ad:=zc (aa.out.later E)
    clear E ag aa
    clear N O U X K Y M Q J V A o L
    obtain⟨N,O,U,X,K,Y,M,Q,J,V,A,o,L⟩:=j.out.box
    go_wp2_with fail
    refine (zh C gt I D S2 H z2 d 4 zbb _ ad.out.tok ab (by decide)).mono ?_
    rintro e w5 ⟨rfl,ak⟩
    rw[ac]
    replace j:=zc (j.out.below ak)
    replace n:=zc (n.out.below ak)
    have al:=zc (ah.out.below ak)
    have ap:=zc (ad.out.later ak)
    clear ak ah ad
    clear N O U X K Y M Q J V A o L
    rw[Bool.and_eq_true,decide_eq_true_eq] at ac
    obtain⟨hz,hs⟩:=ac
    have hp:H.pos<C.ts.length:=za1 hs (by decide)
    obtain⟨rfl,rfl⟩:=zaC au.out hz
    have aG:=aB.out hz
    have aE:=aC.out hz
    skip
    obtain⟨N,O,U,X,K,Y,M,Q,J,V,A,o,L⟩:=j.out.box
    go_wp2_with fail
    refine (HP.out (.ok (adv H)) S2 (adv H) (-1) d _ (zX _) ((ap.out.adv hp).set j.out 1 _) (fun _=>by rw[zx];omega) am).mono ?_
    rintro e w6 ⟨S6,q6,z6,rfl,i6,m6,s6⟩
    replace j:=zc ((j.out.at1 _).stp s6)
    replace n:=zc ((n.out.set_other (by omega) 1 _).stp s6)
    have ao:Hid (SB w.heap.size S w S6 w6):=(al.out.set (by omega) 1 _).step s6
    clear al
    have aj:=zc m6
    have aw:=zc i6
    clear i6 m6 s6 ap
    clear N O U X K Y M Q J V A o L
    obtain⟨N,O,U,X,K,Y,M,Q,J,V,A,o,L⟩:=j.out.box
    unfold pv
    go_upto_region 9 with fail
    refine zL (R:=fun W=>Bx gt S6 W (w.heap.size) _∧Bx gt S6 W (w.heap.size+1) _∧Mem C gt I D S6 q6 W∧SB w.heap.size S w S6 W) ⟨(j.out.put ..),(n.out.other (by omega) ..),(aj.out.put j.out ..),(ao.out.put (by omega) ..)⟩ ?_
    clear N O U X K Y M Q J V A o L
    clear j n ao aj
    rintro w7 ⟨X0,X1,m7,t7⟩
    have j:=zc X0
    have n:=zc X1
    have an:=zc m7
    have ar:=zc t7
    clear m7 t7 X0 X1
    obtain⟨N,O,U,X,K,Y,M,Q,J,V,A,o,L⟩:=j.out.box
    have az:=an.out.inv.ex
    go_wp2_with fail
    refine (zcJ C gt I D _ S6 q6 z6 d ⟨7,0,sNone,sNone,(H.ex.length:Int)-1,(q6.ex.length:Int)-1⟩ _ aw.out an.out (fun h=>ziF aw.out h)).mono ?_
    rintro e w8 ⟨S8,q8,z8,rfl,i8,m8,s8⟩
    replace j:=zc (j.out.stp s8)
    replace n:=zc (n.out.stp s8)
    have aD:=zc (ar.out.step s8)
    clear ar
    have aF:=zc m8
    have aJ:=zc i8
    clear i8 m8 s8 an
    clear N O U X K Y M Q J V A o L
    have HI:Hid (Is (bd (bd (.ok (adv H)) (pE C .prod d)) fun q'=>zN C ⟨7,0,sNone,sNone,(H.ex.length:Int)-1,(q'.ex.length:Int)-1⟩ q') q8 z8):=by rw[←zgF aw.out (fun q'=>⟨7,0,sNone,sNone,(H.ex.length:Int)-1,(q'.ex.length:Int)-1⟩)];exact aJ.out
    have ae:Hid (z8<0→H.pos+1≤q8.pos):=fun h=>ziG HI.out h
    obtain⟨N,O,U,X,K,Y,M,Q,J,V,A,o,L⟩:=j.out.box
    unfold pv
    go_wp2
    go_roundg (gk-1)
    case rel=>exact⟨_,S8,q8,z8,HI.out,by rw[←ax.out];exact (ziH (d:=d) (by rw[hs,Bool.or_true]) (show zcY C H.pos=7 by rw[zcY,hs];rfl) hp).symm,fun h=>by have:=ae.out h;omega,fun h=>by have:=ae.out h;omega,(aF.out.put j.out ..),(aD.out.put (by omega) ..),(j.out.put ..),(n.out.other (by omega) ..)⟩
    case measure=>omega
   |false=>
    obtain⟨N,O,U,X,K,Y,M,Q,J,V,A,o,L⟩:=j.out.box
    go_wp2_with fail
    refine (zh C gt I D S2 H z2 d 4 zbb _ aa.out.tok ab (by decide)).mono ?_
    rintro e w4 ⟨rfl,E⟩
    rw[ac]
    replace j:=zc (j.out.below E)
    replace n:=zc (n.out.below E)
    have ah:=zc (ag.out.below E)
    have ad:=zc (aa.out.later E)
    clear E ag aa
    clear N O U X K Y M Q J V A o L
    obtain⟨N,O,U,X,K,Y,M,Q,J,V,A,o,L⟩:=j.out.box
    obtain⟨b0,b1,b2,b3,b4,b5,b6,b7,b8,b9,aM,aL,bf⟩:=n.out.box
    go_wp2
    refine bodyPost_ret (results_cell_row rfl _ _ (w.heap.size+1) 53 _ (0,0) _ rfl ((n.out.put ..)).heap Tryz.underlying53 rfl (by kernel_rfl)) rfl ?_
    exact zY rfl (show Is (bd x (pE C .sum d)) H z2 from by rw[←ax.out];exact znx au.out hc ac) (ad.out.put n.out ..) (ah.out.put (by omega) ..)
theorem znz (C:Cx) (A n j:Nat):zgE C A n j 0:=by
 intro x S q z d w J E K L
 by_cases H:z<0
 ·have:=K H
  omega
 ·obtain⟨e,rfl,rfl⟩:=zdc J H
  rw[zdU]
  obtain⟨I,o,D⟩:=C
  cases D with
  |true=>exact ziB I o A n j S q d w E e
  |false=>exact ziC I o A n j S q d w E e
theorem zn0 (C:Cx) (o n j:Nat) (m:Nat):SumOK C o n j m:=by
 induction m with
 |zero=>exact ziJ (ziI (znz C o n j))
 |succ m q=>exact ziJ (ziI (znq q))
theorem zcN (C:Cx) (o n j:Nat) (x:PR) (S:Sv) (q:PS) (z:Int) (w:World) (A:Is x q z) (D:Mem C o n j S q w):
  Calls Tryz.prog 75 #[pv C o n S q z 0] w (Out C o n j (bd x (pE C .sum 0)) 0 S w):=
 zn0 C o n j (C.ts.length+1) x S q z 0 w A D (fun _=>by omega) (by omega)
theorem Is2.withN {y:PRN} {q q':PS} {z z':Int} {n:ByteArray} {F:PR→ByteArray→PR} (h:Is2 y q z n) (A: ∀e n,F (.error e) n= .error e) (j:Is (F (zaK y) n) q' z'):Is2 (withN y F) q' z' n:=by
 cases y with
 |ok a=>
  obtain⟨_,_,rfl⟩:=h
  have e:zaK (.ok a)= .ok a.1:=rfl
  rw[e] at j
  show Is2 (bd (F (.ok a.1) a.2) fun q=>.ok (q,a.2)) q' z' a.2
  cases o:F (.ok a.1) a.2 with
  |ok b=>rw[o] at j;exact⟨j.1,j.2,rfl⟩
  |error e=>rw[o] at j;exact j
 |error e=>
  have D:zaK (.error e)= .error e:=rfl
  rw[D,A] at j
  exact j
theorem ziK {C:Cx} {q n j:Nat} {y:PRN} {d:Nat} {S o:Sv} {w z:World} {q':PS} {z':Int} {A:ByteArray} {v:Value} (H:v=pv C q n o q' z' d) (D:Is2 y q' z' A) (E:Mem C q n j o q' z) (I:SB w.heap.size S w o z):zdo C q n j y d S w (.returned (.tuple #[v,.string A])) z:=
 ⟨o,q',z',A,by rw[H],D,E,I.done⟩
theorem zgG (C:Cx) (E D o:Nat) (S:Sv) (q:PS) (w:World) (hm:Mem C E D o S q w):
  Calls Tryz.prog 72 #[pv C E D S q (-1) 0] w (zdo C E D o (zcj C q) 0 S w):=by
 have HM:=zc hm
 clear hm
 unfold pv
 go_enter Tryz.func72,Tryz.ntmps72
 go_wp2_with fail
 refine (zaH C E D o (.ok q) S q (-1) 0 zC _ (zX q) ((HM.out.alloc _).alloc _)).mono ?_
 rintro e w1 ⟨S1,q1,z1,rfl,i1,m1,s1⟩
 obtain⟨X0,X1,t1⟩:=HM.out.two2 s1
 have z:=zc X0
 have j:=zc X1
 have X:=zc m1
 have V:=zc t1
 have ag:=zc i1
 clear X0 X1 i1 m1 t1 s1
 go_wp2_with fail
 refine (zbe C E D o _ S1 q1 z1 0 false _ ag.out X.out).mono ?_
 rintro e w2 ⟨S2,q2,z2,n2,rfl,i2,m2,s2⟩
 replace z:=zc (z.out.stp s2)
 replace j:=zc (j.out.stp s2)
 have aa:=zc (V.out.step s2)
 clear V
 have I:=zc m2
 have Q:=zc i2
 clear i2 m2 s2 X
 have al:w.heap.size+1<w2.heap.size:=j.out.lt
 unfold pv
 go_wp2_with fail
 refine (zad C E D o _ S2 q2 z2 0 cEq _ Q.out.fst (I.out.alloc _)).mono ?_
 rintro e w3 ⟨S3,q3,z3,rfl,i3,m3,s3⟩
 replace z:=zc ((z.out.alloc _).stp s3)
 replace j:=zc ((j.out.alloc _).stp s3)
 replace A:=zc ((Bx.new I.out _).stp s3)
 have U:Hid (SB w.heap.size S w S3 w3):=(aa.out.alloc _).step s3
 clear aa
 have N:=zc m3
 have ak:=zc i3
 clear i3 m3 s3 I
 go_wp2_with fail
 refine (zcN C E D o _ S3 q3 z3 _ ak.out N.out).mono ?_
 rintro e w4 ⟨S4,q4,z4,rfl,i4,m4,Y⟩
 replace z:=zc (z.out.stp Y)
 replace j:=zc (j.out.stp Y)
 replace A:=zc (A.out.stp Y)
 have ab:=zc (U.out.step Y)
 clear U
 have L:=zc m4
 have af:=zc i4
 clear i4 m4 Y N
 go_wp2_with fail
 refine (zad C E D o _ S4 q4 z4 0 cSemi _ af.out L.out).mono ?_
 rintro e w5 ⟨K,q5,z5,rfl,i5,m5,s5⟩
 replace z:=zc (z.out.stp s5)
 replace j:=zc (j.out.stp s5)
 replace A:=zc (A.out.stp s5)
 have O:=zc (ab.out.step s5)
 clear ab
 have ae:=zc m5
 have ad:=zc i5
 clear i5 m5 s5 L
 obtain⟨c0,c1,c2,c3,c4,c5,c6,c7,c8,c9,H,J,cf⟩:=A.out.box
 unfold pv
 go_upto_region 3 with fail
 refine zL (R:=fun W=>Bx E K W (w.heap.size) _∧Bx E K W (w.heap.size+1) _∧Bx E K W (w2.heap.size) _∧Mem C E D o K q5 W∧SB w.heap.size S w K W) ⟨(z.out.other (by omega) ..),(j.out.other (by omega) ..),(A.out.put ..),(ae.out.put A.out ..),(O.out.put (by omega) ..)⟩ ?_
 clear c0 c1 c2 c3 c4 c5 c6 c7 c8 c9 H J cf
 clear z j A O ae
 rintro w6 ⟨X0,X1,X2,m6,t6⟩
 have z:=zc X0
 have j:=zc X1
 have A:=zc X2
 have ac:=zc m6
 have Z:=zc t6
 clear m6 t6 X0 X1 X2
 obtain⟨c0,c1,c2,c3,c4,c5,c6,c7,c8,c9,H,J,cf⟩:=A.out.box
 go_wp2_with fail
 refine (zcK C E D o _ K q5 z5 0 1 n2 _ ad.out ac.out (zbh ad.out)).mono ?_
 rintro e w7 ⟨S7,q7,z7,rfl,i7,m7,M⟩
 replace z:=zc (z.out.stp M)
 replace j:=zc (j.out.stp M)
 replace A:=zc (A.out.stp M)
 have aj:=zc (Z.out.step M)
 clear Z
 have ah:=zc m7
 have ai:=zc i7
 clear i7 m7 M ac
 clear c0 c1 c2 c3 c4 c5 c6 c7 c8 c9 H J cf
 obtain⟨b0,b1,b2,b3,b4,b5,b6,b7,b8,b9,an,am,bf⟩:=j.out.box
 unfold pv
 go_wp2
 refine bodyPost_ret (zaA rfl _ _ (w.heap.size+1) 53 _ (0,0) _ rfl ((j.out.put ..)).heap Tryz.underlying53 rfl (by kernel_rfl)) rfl ?_
 exact ziK rfl (Q.out.withN (F:=fun x n=>_) (fun _ _=>rfl) ai.out) (ah.out.put j.out ..) (aj.out.put (by omega) ..)
theorem zgH (C:Cx) (E D A:Nat) (S:Sv) (q:PS) (w:World) (hm:Mem C E D A S q w):
  Calls Tryz.prog 73 #[pv C E D S q (-1) 0] w (zdo C E D A (fnP C q) 0 S w):=by
 have HM:=zc hm
 clear hm
 unfold pv
 go_enter Tryz.func73,Tryz.ntmps73
 go_wp2_with fail
 refine (zaH C E D A (.ok q) S q (-1) 0 zT _ (zX q) ((HM.out.alloc _).alloc _)).mono ?_
 rintro e w1 ⟨S1,q1,z1,rfl,i1,m1,s1⟩
 obtain⟨Z,Y,t1⟩:=HM.out.two2 s1
 have z:=zc Z
 have o:=zc Y
 have ay:=zc m1
 have ax:=zc t1
 have aQ:=zc i1
 clear Z Y i1 m1 t1 s1
 go_wp2_with fail
 refine (zbe C E D A _ S1 q1 z1 0 false _ aQ.out ay.out).mono ?_
 rintro e w2 ⟨S2,q2,z2,n2,rfl,i2,m2,s2⟩
 replace z:=zc (z.out.stp s2)
 replace o:=zc (o.out.stp s2)
 have aD:=zc (ax.out.step s2)
 clear ax
 have ah:=zc m2
 have ao:=zc i2
 clear i2 m2 s2 ay
 have aZ:w.heap.size+1<w2.heap.size:=o.out.lt
 unfold pv
 go_wp2_with fail
 refine (zad C E D A _ S2 q2 z2 0 zn _ ao.out.fst (ah.out.alloc _)).mono ?_
 rintro e w3 ⟨S3,q3,z3,rfl,i3,m3,s3⟩
 replace z:=zc ((z.out.alloc _).stp s3)
 replace o:=zc ((o.out.alloc _).stp s3)
 replace j:=zc ((Bx.new ah.out _).stp s3)
 have aq:Hid (SB w.heap.size S w S3 w3):=(aD.out.alloc _).step s3
 clear aD
 have al:=zc m3
 have aX:=zc i3
 clear i3 m3 s3 ah
 go_wp2_with fail
 refine (zad C E D A _ S3 q3 z3 0 za0 _ aX.out al.out).mono ?_
 rintro e w4 ⟨S4,q4,z4,rfl,i4,m4,s4⟩
 replace z:=zc (z.out.stp s4)
 replace o:=zc (o.out.stp s4)
 replace j:=zc (j.out.stp s4)
 have aJ:=zc (aq.out.step s4)
 clear aq
 have aj:=zc m4
 have aP:=zc i4
 clear i4 m4 s4 al
 go_wp2_with fail
 refine (zad C E D A _ S4 q4 z4 0 zJ _ aP.out aj.out).mono ?_
 rintro e w5 ⟨S5,q5,z5,rfl,i5,m5,s5⟩
 replace z:=zc (z.out.stp s5)
 replace o:=zc (o.out.stp s5)
 replace j:=zc (j.out.stp s5)
 have am:=zc (aJ.out.step s5)
 clear aJ
 have aN:=zc m5
 have aW:=zc i5
 clear i5 m5 s5 aj
 obtain⟨c0,c1,X,N,L,c5,K,c7,c8,Q,H,I,U⟩:=j.out.box
 unfold pv
 go_upto_region 3 with fail
 refine zL (R:=fun W=>Bx E S5 W (w.heap.size) _∧Bx E S5 W (w.heap.size+1) _∧Bx E S5 W (w2.heap.size) _∧Mem C E D A S5 q5 W∧SB w.heap.size S w S5 W) ⟨(z.out.other (by omega) ..),(o.out.other (by omega) ..),(j.out.put ..),(aN.out.put j.out ..),(am.out.put (by omega) ..)⟩ ?_
 clear c0 c1 X N L c5 K c7 c8 Q H I U
 clear z o j am aN
 rintro w6 ⟨Z,Y,X2,m6,t6⟩
 have z:=zc Z
 have o:=zc Y
 have j:=zc X2
 have aK:=zc m6
 have aC:=zc t6
 clear m6 t6 Z Y X2
 obtain⟨c0,c1,X,N,L,c5,K,c7,c8,Q,H,I,U⟩:=j.out.box
 go_wp2_with fail
 refine (zaH C E D A _ S5 q5 z5 0 zdT _ aW.out aK.out).mono ?_
 rintro e w7 ⟨S7,q7,z7,rfl,i7,m7,s7⟩
 replace z:=zc (z.out.stp s7)
 replace o:=zc (o.out.stp s7)
 replace j:=zc (j.out.stp s7)
 have aL:=zc (aC.out.step s7)
 clear aC
 have aB:=zc m7
 have aV:=zc i7
 clear i7 m7 s7 aK
 clear c0 c1 X N L c5 K c7 c8 Q H I U
 go_wp2_with fail
 refine (zcN C E D A _ S7 q7 z7 _ aV.out aB.out).mono ?_
 rintro e w8 ⟨S8,q8,z8,rfl,i8,m8,s8⟩
 replace z:=zc (z.out.stp s8)
 replace o:=zc (o.out.stp s8)
 replace j:=zc (j.out.stp s8)
 have ai:=zc (aL.out.step s8)
 clear aL
 have ar:=zc m8
 have aU:=zc i8
 clear i8 m8 s8 aB
 obtain⟨c0,c1,X,N,L,c5,K,c7,c8,Q,H,I,U⟩:=j.out.box
 unfold pv
 go_upto_region 4 with fail
 refine zL (R:=fun W=>Bx E S8 W (w.heap.size) _∧Bx E S8 W (w.heap.size+1) _∧Bx E S8 W (w2.heap.size) _∧Mem C E D A S8 q8 W∧SB w.heap.size S w S8 W) ⟨(z.out.other (by omega) ..),(o.out.other (by omega) ..),(j.out.put ..),(ar.out.put j.out ..),(ai.out.put (by omega) ..)⟩ ?_
 clear c0 c1 X N L c5 K c7 c8 Q H I U
 clear z o j ai ar
 rintro w9 ⟨Z,Y,X2,m9,t9⟩
 have z:=zc Z
 have o:=zc Y
 have j:=zc X2
 have au:=zc m9
 have aE:=zc t9
 clear m9 t9 Z Y X2
 obtain⟨c0,c1,X,N,L,c5,K,c7,c8,Q,H,I,U⟩:=j.out.box
 go_wp2_with fail
 refine (zad C E D A _ S8 q8 z8 0 cSemi _ aU.out au.out).mono ?_
 rintro e a6 ⟨aY,aT,aS,rfl,ap,ak,O⟩
 replace z:=zc (z.out.stp O)
 replace o:=zc (o.out.stp O)
 replace j:=zc (j.out.stp O)
 have ae:=zc (aE.out.step O)
 clear aE
 have af:=zc ak
 have aM:=zc ap
 clear ap ak O au
 clear c0 c1 X N L c5 K c7 c8 Q H I U
 go_wp2_with fail
 refine (zad C E D A _ aY aT aS 0 zbm _ aM.out af.out).mono ?_
 rintro e a4 ⟨J,aF,aR,rfl,aG,an,M⟩
 replace z:=zc (z.out.stp M)
 replace o:=zc (o.out.stp M)
 replace j:=zc (j.out.stp M)
 have ag:=zc (ae.out.step M)
 clear ae
 have ad:=zc an
 have ab:=zc aG
 clear aG an M af
 obtain⟨c0,c1,X,N,L,c5,K,c7,c8,Q,H,I,U⟩:=j.out.box
 unfold pv
 go_upto_region 5 with fail
 refine zL (R:=fun W=>Bx E J W (w.heap.size) _∧Bx E J W (w.heap.size+1) _∧Bx E J W (w2.heap.size) _∧Mem C E D A J aF W∧SB w.heap.size S w J W) ⟨(z.out.other (by omega) ..),(o.out.other (by omega) ..),(j.out.put ..),(ad.out.put j.out ..),(ag.out.put (by omega) ..)⟩ ?_
 clear c0 c1 X N L c5 K c7 c8 Q H I U
 clear z o j ag ad
 rintro a5 ⟨Z,Y,X2,aA,aI⟩
 have z:=zc Z
 have o:=zc Y
 have j:=zc X2
 have ac:=zc aA
 have aa:=zc aI
 clear aA aI Z Y X2
 obtain⟨c0,c1,X,N,L,c5,K,c7,c8,Q,H,I,U⟩:=j.out.box
 go_wp2_with fail
 refine (zcK C E D A _ J aF aR 0 2 n2 _ ab.out ac.out (zbh ab.out)).mono ?_
 rintro e a2 ⟨a0,a8,a7,rfl,aO,av,V⟩
 replace z:=zc (z.out.stp V)
 replace o:=zc (o.out.stp V)
 replace j:=zc (j.out.stp V)
 have aH:=zc (aa.out.step V)
 clear aa
 have az:=zc av
 have aw:=zc aO
 clear aO av V ac
 clear c0 c1 X N L c5 K c7 c8 Q H I U
 obtain⟨b0,b1,b2,b3,b4,b5,b6,b7,b8,b9,a3,a1,bf⟩:=o.out.box
 unfold pv
 go_wp2
 refine bodyPost_ret (zaA rfl _ _ (w.heap.size+1) 53 _ (0,0) _ rfl ((o.out.put ..)).heap Tryz.underlying53 rfl (by kernel_rfl)) rfl ?_
 exact ziK rfl (ao.out.withN (F:=fun x n=>_) (fun _ _=>rfl) aw.out) (az.out.put o.out ..) (aH.out.put (by omega) ..)
end Go.Proofs.YticdggnnpjachaaGreat
