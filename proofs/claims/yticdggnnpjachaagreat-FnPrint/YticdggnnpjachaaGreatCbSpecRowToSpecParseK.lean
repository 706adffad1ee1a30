/-
  A row of pairs of names beside a program under way. No program is spoken of but for the numbers of its types.
  What spec's l4Tail answers: the walk.
  What spec's l4List answers: the walk.
  What spec's l4Part answers,if l4Sum answers so behind it: the walks.
  What spec's l4Part answers where no number and no bracket stands,in a script: the walks.
  What spec's l4Part answers where no number and no bracket stands: the walks.
  What spec's l4Part,l4Product and l4Sum answer: the walks of the two loops,and the three together.
  What spec's l4Let and l4Fn answer: the walks.
-/
import Derived.Deep.DeepCutAuto
import Derived.Test.YticdggnnpjachaaGreatCbSpecBox
namespace Go.Proofs.YticdggnnpjachaaGreat
set_option maxRecDepth 100000
set_option maxHeartbeats 6400000
open Go.RowKit Go.PlainAid
structure Row (S:Sv) (w:World) (base B:Nat) (r:Rw) (l:List Ep):Prop where
 own:OwnR w base 102 4 r l.length (l.flatMap epL)
 free: ∀k,r.blk=some k→¬S.has k
 new: ∀k,r.blk=some k→B≤k
 addr: ∃g,r.a=some ⟨g,0,none⟩
theorem Row.ne {z b:Nat} {S:Sv} {w:World} {j B:Nat} {r:Rw} {l:List Ep} {n:Array Value} (h:Row S w j B r l) (q:Bx z S w b n): ∀k,r.blk=some k→k≠b:=by
 rintro k o rfl
 obtain⟨_,_,c,g⟩:=h.own.typed o
 rw[q.heap] at g
 simp only[Option.some.injEq,Obj.cells.injEq] at g
 exact absurd g.2.1 (by decide)
theorem Row.stp {S o:Sv} {w q:World} {j B:Nat} {r:Rw} {l:List Ep} (h:Row S w j B r l) (s:Stp S w o q):Row o q j B r l:=
 ⟨h.own.keep fun k n=>s.block k (h.own.typed n).2.1 (h.free k n),fun k n g=>(s.sub k g).elim (h.free k n) fun z=>by have:=(h.own.typed n).2.1;omega,h.new,h.addr⟩
theorem Row.below {S:Sv} {w n:World} {j B:Nat} {r:Rw} {l:List Ep} (h:Row S w j B r l) (s:Below w.heap.size w n):Row S n j B r l:=h.stp (Stp.below s)
theorem Row.alloc {S:Sv} {w:World} {j B:Nat} {r:Rw} {l:List Ep} (h:Row S w j B r l) (o:Obj):Row S (w.alloc o) j B r l:=h.below ((Below.refl _ _).alloc (Nat.le_refl _) _)
theorem Row.drew {S:Sv} {w:World} {j B:Nat} {r:Rw} {l:List Ep} (h:Row S w j B r l):Row S w.drew j B r l:=⟨h.own,h.free,h.new,h.addr⟩
theorem Row.set {z b:Nat} {S:Sv} {w:World} {j B:Nat} {r:Rw} {l:List Ep} {n:Array Value} (h:Row S w j B r l) (q:Bx z S w b n) (i:Nat) (u:Value):Row S (w.setCell ⟨b,i,none⟩ u) j B r l:=
 ⟨h.own.keep fun k o=>zi (h.ne q k o),h.free,h.new,h.addr⟩
theorem Row.put {O b:Nat} {S:Sv} {w:World} {j B:Nat} {r:Rw} {l:List Ep} {z:Array Value} (h:Row S w j B r l) (L:Bx O S w b z) (D N K J M Q I q A E o n:Value):Row S (set12 w b D N K J M Q I q A E o n) j B r l:=
 ⟨h.own.keep fun k H=>zeQ (h.ne L k H) _ _ _ _ _ _ _ _ _ _ _ _,h.free,h.new,h.addr⟩
theorem Row.nil {C:Cx} {z o j B:Nat} {S:Sv} {q:PS} {w:World} (h:Mem C z o j S q w) (A:B≤w.heap.size):Row S (w.alloc (.cells #[] 102 (0,0))) j B ⟨some ⟨w.heap.size,0,none⟩,0⟩ []:=by
 refine⟨World.ownsRow_lit w #[] 0 h.base (by unfold maxLen;omega) rfl,fun k n g=>?_,fun k n=>?_,⟨_,rfl⟩⟩
 ·simp only[Rw.blk,Value.ownBlock,Option.some.injEq] at n
  have:=(h.own.has g).2
  omega
 ·simp only[Rw.blk,Value.ownBlock,Option.some.injEq] at n
  omega
theorem Row.grow {C:Cx} {J E j B:Nat} {S:Sv} {q:PS} {W A:World} {r H:Rw} {l:List Ep} {x:Ep} (h:Row S W j B r l) (z:Mem C J E j S q W) (O:B≤W.heap.size) (L:W.grownBy A r.blk) (M:OwnR A j 102 4 H (l.length+1) (l.flatMap epL++epL x)) (D:H.blk=r.blk∨H.blk=some W.heap.size):
  Row S A j B H (l++[x])∧Mem C J E j S q A:=by
 refine⟨⟨?_,fun k o g=>?_,fun k o=>?_,M.addr.resolve_left (by omega)⟩,?_⟩
 ·have e:(l++[x]).length=l.length+1:=by simp
  rw[e]
  simpa using M
 ·rcases D with e|e
  ·exact h.free k (by rw[←e];exact o) g
  ·have N:W.heap.size=k:=Option.some.inj (e.symm.trans o)
   have:=(z.own.has g).2
   omega
 ·rcases D with e|e
  ·exact h.new k (by rw[←e];exact o)
  ·have N:W.heap.size=k:=Option.some.inj (e.symm.trans o)
   omega
 ·have n: ∀k,k<W.heap.size→r.blk≠some k→A.heap[k]? =W.heap[k]?:=fun k o K=>L.block k o fun e=>K e.symm
  refine⟨z.own.keep fun k o=>n k (z.own.has o).2 fun e=>h.free k e o,z.inv,zb0 z.tok (n J (zan z.tok).1 fun e=>?_),z.few,Nat.le_trans z.base L.size⟩
  obtain⟨_,_,c,g⟩:=h.own.typed e
  obtain⟨Q,I⟩:=zfr z.tok
  rw[g] at I
  simp only[Option.some.injEq,Obj.cells.injEq] at I
  exact absurd I.2.1 (by decide)
theorem Row.bx {z b:Nat} {S:Sv} {W q:World} {j B:Nat} {r:Rw} {l:List Ep} {o:Array Value} (h:Row S W j B r l) (n:Bx z S W b o) (A:W.grownBy q r.blk):Bx z S q b o:=
 ⟨(A.block b n.lt fun e=>h.ne n b e.symm rfl).trans n.heap,n.free,n.ne⟩
theorem Row.sb {S S0:Sv} {w W q:World} {n:Nat} {B:Nat} {r:Rw} {l:List Ep} (h:Row S W n B r l) (j:SB B S0 w S W) (o:W.grownBy q r.blk):SB B S0 w S q:=
 ⟨o.os.trans j.os,o.tape.trans j.tape,o.output.trans j.output,Nat.le_trans j.size o.size,j.low,fun k z A=>(o.block k (by have:=j.size;have:=j.low;omega) fun e=>by have:=h.new k e.symm;omega).trans (j.block k z A),j.sub⟩
theorem Mem.list3 {C:Cx} {D A j:Nat} {S o:Sv} {q:PS} {w n:World} {z cb:Array Value} (h:Mem C D A j S q w) (s:Stp S (((w.alloc (.cells z 53 (0,0))).alloc (.cells cb 53 (0,0))).alloc (.cells #[] 102 (0,0))) o n):
  Bx D o n w.heap.size z∧Bx D o n (w.heap.size+1) cb∧Row o n j w.heap.size ⟨some ⟨w.heap.size+1+1,0,none⟩,0⟩ []∧SB w.heap.size S w o n:=by
 refine⟨(((Bx.new h _).alloc _).alloc _).stp s,?_,?_,(SB.start (zcJ w _ _ _)).step s⟩
 ·have:=((Bx.new (h.alloc (.cells z 53 (0,0))) cb).alloc (.cells #[] 102 (0,0))).stp s
  rw[zk] at this
  exact this
 ·have:=(Row.nil (B:=w.heap.size) ((h.alloc (.cells z 53 (0,0))).alloc (.cells cb 53 (0,0))) (zaT w _ _).size).stp s
  rw[zc1] at this
  exact this
def Is3 (y:PRL) (q:PS) (z:Int) (l:List Ep):Prop:=
 match y with
 | .ok a=>q=a.1∧z= -1∧l=a.2
 | .error e=>z=(e:Int)
def zmX (C:Cx) (gt cap base:Nat) (y:PRL) (d:Nat) (S:Sv) (w:World) (e:Ending) (w':World):Prop:=
 ∃S' q' z' r l,e= .returned (.tuple #[pv C gt cap S' q' z' d,.slice r.a l.length r.cap,.bool (za8 l)])∧Is3 y q' z' l∧Mem C gt cap base S' q' w'∧Stp S w S' w'∧Row S' w' base w.heap.size r l∧l.length≤4001
theorem zi4 (l:List Ep) (x:Ep):za8 (l++[x])=(za8 l||(x.loc.toList==[100,101,102,97,117,108,116])):=by simp[za8]
theorem zmY {n:Func} {p u v:Tmp} {o:TypeId} (h:n.results= #[.cell p o,.tmp u,.tmp v]) (tmps:Array Value) (P:Program) (w:World):
  (results n tmps).run P w=((asAddr (tmps.getD p undef)).run P w).andThen fun a q=>((loadVar o a).run P q).andThen fun x j=>.ok (.tuple #[x,tmps.getD u undef,tmps.getD v undef]) j:=by
 simp only[results,h]
 simp[Sem.run_bind,Result.andThen]
theorem zi5 {P:Program} {o:Func} {p u v:Tmp} {n:TypeId} (h:o.results= #[.cell p n,.tmp u,.tmp v]) (tmps:Array Value) (w:World) (g:Nat) (t:TypeId) (j:Array Value) (q:Nat×Nat) (d:TypeDesc)
  (H:tmps.getD p undef= .pointer (some ⟨g,0,none⟩)) (E:w.heap[g]? =some (.cells j t q))
  (D:P.underlying n=some d) (z:(match d with| .struct _| .array _ _=>true|_=>false)=true) (A:(P.info? n).map (·.size)=some j.size):
  (results o tmps).run P w= .ok (.tuple #[.agg j,tmps.getD u undef,tmps.getD v undef]) w:=by
 rw[zmY h,H]
 simp[asAddr,Result.andThen,run_loadVar_row w g t n j q d E D z A]
theorem zbh {C:Cx} {x:PR} {k:Int} {s:ByteArray} {q:PS} {z:Int} (h:Is (bd x (zd C k s)) q z):z<0→1≤q.pos:=by
 intro j
 obtain⟨e,_⟩:=zaC h j
 obtain⟨a,_,n⟩:=zf e
 obtain⟨rfl,_⟩:=zb4 n
 simp[adv]
theorem zgD (C:Cx) (M z o:Nat) (S:Sv) (q:PS) (d:Nat) (nm:ByteArray) (w:World) (hm:Mem C M z o S q w) (hp:1≤q.pos):
  Calls Tryz.prog 191 #[pv C M z S q (-1) d,.string nm] w (Out C M z o (zbc C nm q) d S w):=by
 have HM:=zc hm
 have A:=hm.tok
 have O:=hm.few
 clear hm
 cases hi:isT C q.pos 4 zn with
 |true=>
  have HV:Hid (zbc C nm q=bd (bd (bd (.ok q) (zd C 4 zn)) (zd C 4 za0)) (zN C ⟨3,0,nm,sNone,0,0⟩)):=if_pos hi
  unfold pv
  go_enter Tryz.func191,Tryz.ntmps191
  go_wp2_with fail
  refine (zh C M z o S q (-1) d 4 zn _ (zq (zq A _) _) O (by decide)).mono ?_
  rintro e w1 ⟨rfl,I⟩
  rw[hi]
  obtain⟨X0,Y,m1,t1⟩:=HM.out.two I
  have n:=zc X0
  have j:=zc Y
  have D:=zc m1
  have E:=zc t1
  clear X0 Y m1 t1 I
  clear A
  obtain⟨a0,a1,X,a3,a4,Z,a6,a7,a8,a9,H,J,af⟩:=n.out.box
  go_wp2_with fail
  refine (zad C M z o (.ok q) S q (-1) d zn _ (zX q) D.out).mono ?_
  rintro e w2 ⟨S2,q2,z2,rfl,U,m2,L⟩
  replace n:=zc (n.out.stp L)
  replace j:=zc (j.out.stp L)
  have N:=zc (E.out.step L)
  clear E
  have K:=zc m2
  have Q:=zc U
  clear U m2 L D
  clear a0 a1 X a3 a4 Z a6 a7 a8 a9 H J af
  go_wp2_with fail
  refine (zad C M z o _ S2 q2 z2 d za0 _ Q.out K.out).mono ?_
  rintro e w3 ⟨S3,q3,z3,rfl,i3,m3,s3⟩
  replace n:=zc (n.out.stp s3)
  replace j:=zc (j.out.stp s3)
  have aa:=zc (N.out.step s3)
  clear N
  have ab:=zc m3
  have V:=zc i3
  clear i3 m3 s3 K
  obtain⟨a0,a1,X,a3,a4,Z,a6,a7,a8,a9,H,J,af⟩:=n.out.box
  unfold pv
  go_wp2_with fail
  refine (zcK C M z o _ S3 q3 z3 d ⟨3,0,nm,sNone,0,0⟩ _ V.out (ab.out.put n.out ..) (zbh V.out)).mono ?_
  rintro e w4 ⟨S4,q4,z4,rfl,i4,m4,s4⟩
  replace n:=zc ((n.out.put ..).stp s4)
  replace j:=zc ((j.out.other (by omega) ..).stp s4)
  have ae:Hid (SB w.heap.size S w S4 w4):=(aa.out.put (by omega) ..).step s4
  clear aa
  have ah:=zc m4
  have ag:=zc i4
  clear i4 m4 s4 ab
  clear a0 a1 X a3 a4 Z a6 a7 a8 a9 H J af
  obtain⟨b0,b1,b2,b3,b4,b5,b6,b7,b8,b9,ac,ad,bf⟩:=j.out.box
  unfold pv
  go_wp2
  refine bodyPost_ret (results_cell_row rfl _ _ (w.heap.size+1) 53 _ (0,0) _ rfl ((j.out.put ..)).heap Tryz.underlying53 rfl (by kernel_rfl)) rfl ?_
  rw[HV.out]
  exact zY rfl ag.out (ah.out.put j.out ..) (ae.out.put (by omega) ..)
 |false=>
  have HV:Hid (zbc C nm q=bd (.ok q) (zN C ⟨2,0,nm,sNone,0,0⟩)):=by show zbc C nm q=_;rw[zbc,hi];rfl
  unfold pv
  go_enter Tryz.func191,Tryz.ntmps191
  go_wp2_with fail
  refine (zh C M z o S q (-1) d 4 zn _ (zq (zq A _) _) O (by decide)).mono ?_
  rintro e w1 ⟨rfl,I⟩
  rw[hi]
  obtain⟨X0,Y,m1,t1⟩:=HM.out.two I
  have n:=zc X0
  have j:=zc Y
  have D:=zc m1
  have E:=zc t1
  clear X0 Y m1 t1 I
  clear A
  obtain⟨a0,a1,X,a3,a4,Z,a6,a7,a8,a9,H,J,af⟩:=n.out.box
  go_wp2_with fail
  refine (zcK C M z o (.ok q) S q (-1) d ⟨2,0,nm,sNone,0,0⟩ _ (zX q) D.out (fun _=>hp)).mono ?_
  rintro e w2 ⟨S2,q2,z2,rfl,U,m2,L⟩
  replace n:=zc (n.out.stp L)
  replace j:=zc (j.out.stp L)
  have N:=zc (E.out.step L)
  clear E
  have K:=zc m2
  have Q:=zc U
  clear U m2 L D
  clear a0 a1 X a3 a4 Z a6 a7 a8 a9 H J af
  obtain⟨b0,b1,b2,b3,b4,b5,b6,b7,b8,b9,ac,ad,bf⟩:=j.out.box
  unfold pv
  go_wp2
  refine bodyPost_ret (results_cell_row rfl _ _ (w.heap.size+1) 53 _ (0,0) _ rfl ((j.out.put ..)).heap Tryz.underlying53 rfl (by kernel_rfl)) rfl ?_
  rw[HV.out]
  exact zY rfl Q.out (K.out.put j.out ..) (N.out.put (by omega) ..)
theorem zmZ {C:Cx} {j:Bool} {l:List Ep} {Y:PRN} {z D:ByteArray} {L H E:PS} {N A J:Int} (M:Is2 Y L N z) (o:Is2 (bd Y (asP C j)) H A D) (q:(decide (A<0)&&isT C H.pos 4 zbw)=false) (n:Is (bd (zaK (bd Y (asP C j))) (zd C 4 zbm)) E J):
  Is3 (bd Y fun a=>bd (asP C j a) fun b=>if isT C b.1.pos 4 zbw then zax C j (adv b.1) (l++[⟨0,b.2,a.2,sNone⟩]) else bd (zd C 4 zbm b.1) fun q'=>.ok (q',l++[⟨0,b.2,a.2,sNone⟩])) E J (l++[⟨0,D,z,sNone⟩]):=by
 cases Y with
 |error e=>exact n
 |ok a=>
  obtain⟨_,_,rfl⟩:=M
  rw[zz] at o n ⊢
  cases I:asP C j a with
  |error e=>rw[I] at n;exact n
  |ok b=>
   rw[I] at o n
   obtain⟨rfl,rfl,rfl⟩:=o
   rw[Bool.and_eq_false_iff] at q
   rw[zz,q.resolve_left (by decide)]
   have e:bd (zaK (.ok b)) (zd C 4 zbm)=zd C 4 zbm b.1:=rfl
   rw[e] at n
   show Is3 (bd (zd C 4 zbm b.1) _) _ _ _
   cases K:zd C 4 zbm b.1 with
   |error e=>rw[K] at n;exact n
   |ok c=>rw[K] at n;exact⟨n.1,n.2,rfl⟩
theorem zna {C:Cx} {n:Bool} {l:List Ep} {o L A:PS} {I J:ByteArray} {M z:Int} (E:Is2 (bd (.ok o) (zj C true)) L M I) (j:Is2 (bd (bd (.ok o) (zj C true)) (asP C n)) A z J) (N:z<0) (K:isT C A.pos 4 zbw=true):
  (bd (.ok o) fun q=>zax C n q l)=(bd (.ok (adv A)) fun q=>zax C n q (l++[⟨0,J,I,sNone⟩]))∧o.pos+1≤A.pos:=by
 rw[zz] at E j ⊢
 rw[zz,zfs]
 cases D:zj C true o with
 |error e=>rw[D] at j;have:z=(e:Int):=j;omega
 |ok a=>
  rw[D] at E j
  obtain⟨_,_,rfl⟩:=E
  rw[zz] at j ⊢
  obtain⟨rfl,_⟩:=zbd D
  cases H:asP C n (adv o,(ze C o.pos).text) with
  |error e=>rw[H] at j;have:z=(e:Int):=j;omega
  |ok b=>
   rw[H] at j
   obtain⟨rfl,rfl,rfl⟩:=j
   have:=zeA H
   rw[zz,K]
   exact⟨rfl,this⟩
theorem znb {C:Cx} {j:Bool} {x:PR} {q n:PS} {z o:Int} {l:List Ep} (D:Is x q z) (E: ¬z<0) (A:Is (bd x (zd C 4 zbm)) n o):Is3 (bd x fun q=>zax C j q l) n o l:=by
 obtain⟨e,rfl,_⟩:=zdc D E
 exact A
theorem znc {C:Cx} {j:Bool} {Y:PRN} {n E:PS} {o q:Int} {H z:ByteArray} (A:Is2 Y n o H) (D:(decide (o<0)&&isT C n.pos 1 sAs)=true) (I:Is2 (bd (.ok (adv n)) (zj C j)) E q z):Is2 (bd Y (asP C j)) E q z:=by
 rw[Bool.and_eq_true,decide_eq_true_eq] at D
 cases Y with
 |error e=>have:o=(e:Int):=A;omega
 |ok a=>
  obtain⟨rfl,_,_⟩:=A
  rw[zz,asP,if_pos D.2]
  exact I
theorem znd {C:Cx} {q:Bool} {Y:PRN} {j:PS} {n:Int} {o:ByteArray} (z:Is2 Y j n o) (A:(decide (n<0)&&isT C j.pos 1 sAs)=false) (D:((o.toList==[100,101,102,97,117,108,116])&& !exp)=true):Is2 (bd Y (asP C q)) j (zbp C j.pos n) o:=by
 cases Y with
 |error e=>
  have h:n=(e:Int):=z
  show zbp C j.pos n=(e:Int)
  rw[zbp,if_neg (by omega)]
  exact h
 |ok a=>
  obtain⟨rfl,rfl,rfl⟩:=z
  rw[Bool.and_eq_false_iff] at A
  rw[zz,asP,A.resolve_left (by decide),D]
  rfl
theorem zi6 {C:Cx} {o:Bool} {Y:PRN} {n:PS} {q:Int} {j:ByteArray} (z:Is2 Y n q j) (A:(decide (q<0)&&isT C n.pos 1 sAs)=false) (D:((j.toList==[100,101,102,97,117,108,116])&& !exp)=false):Is2 (bd Y (asP C o)) n q j:=by
 cases Y with
 |error e=>exact z
 |ok a=>
  obtain⟨rfl,rfl,rfl⟩:=z
  rw[Bool.and_eq_false_iff] at A
  rw[zz,asP,A.resolve_left (by decide),D]
  exact⟨rfl,rfl,rfl⟩
theorem zi7 (C:Cx) (K J z:Nat) (S:Sv) (q:PS) (d:Nat) (ai:Bool) (w:World) (hm:Mem C K J z S q w):
  Calls Tryz.prog 130 #[pv C K J S q (-1) d,.bool ai] w (zmX C K J z (zcw C ai q) d S w):=by
 obtain⟨i0,hi,aT,aM,aP⟩:=info_parts Tryz.infoExp
 have HM:=zc hm
 have aj:=hm.few
 clear hm
 unfold pv
 go_enter Tryz.func130,Tryz.ntmps130
 go_wp2_with fail
 refine (zad C K J z (.ok q) S q (-1) d zJ _ (zX q) (((HM.out.alloc _).alloc _).alloc _)).mono ?_
 rintro e w1 ⟨S1,q1,z1,rfl,i1,m1,s1⟩
 obtain⟨X0,X1,R0,t1⟩:=HM.out.list3 s1
 have j:=zc X0
 have n:=zc X1
 have A:=zc R0
 have aS:=zc t1
 have aF:=zc m1
 have aQ:=zc i1
 clear i1 m1 s1 X0 X1 R0 t1
 obtain⟨Z,a1,U,Y,a4,V,a6,a7,a8,a9,D,E,X⟩:=j.out.box
 unfold pv
 go_wp2
 go_loopg [7,8] (C.ts.length+1) (fun k o an wr=>∃(x':PR) (S':Sv) (q':PS) (z':Int) (r:Rw) (l:List Ep),Is x' q' z'∧bd x' (fun q=>zax C ai q l)=zcw C ai q∧(z'<0→C.ts.length-q'.pos<k)∧(l.length≤q'.pos∨l=[])∧o= .slice r.a l.length r.cap∧an= .bool (za8 l)∧Mem C K J z S' q' wr∧SB w.heap.size S w S' wr∧Bx K S' wr w.heap.size #[.slice (some ⟨K,0,none⟩) C.ts.length J,.int .i64 q'.pos,.int .i64 C.fin,.bool C.scr,.slice S'.rq.a q'.rq.length S'.rq.cap,.slice S'.im.a q'.im.length S'.im.cap,.slice S'.ep.a q'.ep.length S'.ep.cap,.slice S'.st.a q'.st.length S'.st.cap,.slice S'.ex.a q'.ex.length S'.ex.cap,.slice S'.la.a q'.la.length S'.la.cap,.int .i64 z',.int .i64 d]∧Bx K S' wr (w.heap.size+1) #[.slice none 0 0,.int .i64 0,.int .i64 0,.bool false,.slice none 0 0,.slice none 0 0,.slice none 0 0,.slice none 0 0,.slice none 0 0,.slice none 0 0,.int .i64 0,.int .i64 0]∧Row S' wr z w.heap.size r l)
 case atStart=>exact⟨_,S1,q1,z1,_,[],aQ.out,rfl,fun _=>by omega,.inr rfl,rfl,rfl,(aF.out.put j.out ..),(aS.out.put (by omega) ..),(j.out.put ..),(n.out.other (by omega) ..),(A.out.put j.out ..)⟩
 case round=>
  obtain⟨x2,S2,q2,z2,r,l,i2,e2,l2,n2,rfl,rfl,m2,t2,X0,X1,R0⟩:=hrel
  have j:=zc X0
  have n:=zc X1
  have am:=zc m2
  have aq:=zc t2
  have av:=zc i2
  have ax:=zc e2
  have aY:=zc l2
  have A:=zc R0
  have bg:l.length≤4000:=n2.elim (fun g=>by have:=m2.inv.pos;omega) (fun g=>by rw[g];simp)
  have aW:=zc n2
  clear X0 X1 i2 m2 t2 e2 l2 R0 n2
  by_cases hz:z2<0
  ·skip
   obtain⟨rfl,rfl⟩:=zaC av.out hz
   have bc:=aY.out hz
   obtain⟨Z,a1,U,Y,a4,V,a6,a7,a8,a9,D,E,X⟩:=j.out.box
   go_wp2_with fail
   refine (zbe C K J z (.ok q2) S2 q2 (-1) d true _ (zX q2) am.out).mono ?_
   rintro e w3 ⟨Q,q3,z3,n3,rfl,i3,m3,s3⟩
   replace j:=zc (j.out.stp s3)
   replace n:=zc (n.out.stp s3)
   have ap:=zc (aq.out.step s3)
   have I:Hid (Row Q w3 z w.heap.size r l):=A.out.stp s3
   clear A
   have A:=zc I
   clear I
   clear aq
   have al:=zc m3
   have ab:=zc i3
   clear i3 m3 s3 am
   clear Z a1 U Y a4 V a6 a7 a8 a9 D E X
   have bb:w.heap.size+1<w3.heap.size:=n.out.lt
   unfold pv
   go_upto_region 6 with fail
   refine zL (R:=fun W=>Bx K Q W (w.heap.size) _∧Bx K Q W (w.heap.size+1) _∧Bx K Q W (w3.heap.size) _∧Row Q W z w.heap.size r l∧Mem C K J z Q q3 W∧SB w.heap.size S w Q W) ⟨(j.out.alloc _),(n.out.alloc _),(Bx.new al.out _),(A.out.alloc _),(al.out.alloc _),(ap.out.alloc _)⟩ ?_
   clear j n ap al
   clear A
   rintro w4 ⟨X0,X1,X2,R0,m4,t4⟩
   have A:=zc R0
   clear R0
   have j:=zc X0
   have n:=zc X1
   have L:=zc X2
   have aD:=zc m4
   have aC:=zc t4
   clear m4 t4 X0 X1 X2
   obtain⟨Z,a1,U,Y,a4,V,a6,a7,a8,a9,D,E,X⟩:=j.out.box
   obtain⟨c0,c1,c2,c3,c4,c5,c6,c7,c8,c9,aZ,aG,cf⟩:=L.out.box
   go_upto_region 7 with fail
   refine zL (R:=fun W=>Bx K Q W (w.heap.size) _∧Bx K Q W (w.heap.size+1) _∧Bx K Q W (w3.heap.size) _∧Row Q W z w.heap.size r l∧Mem C K J z Q q3 W∧SB w.heap.size S w Q W) ⟨(j.out.put ..),(n.out.other (by omega) ..),(L.out.other (by omega) ..),(A.out.put j.out ..),(aD.out.put j.out ..),(aC.out.put (by omega) ..)⟩ ?_
   clear Z a1 U Y a4 V a6 a7 a8 a9 D E X c0 c1 c2 c3 c4 c5 c6 c7 c8 c9 aZ aG cf
   clear j n L aC aD
   clear A
   rintro w5 ⟨X0,X1,X2,R0,m5,t5⟩
   have A:=zc R0
   clear R0
   have j:=zc X0
   have n:=zc X1
   have L:=zc X2
   have ah:=zc m5
   have ak:=zc t5
   clear m5 t5 X0 X1 X2
   skip
   obtain⟨Z,a1,U,Y,a4,V,a6,a7,a8,a9,D,E,X⟩:=j.out.box
   skip
   go_wp2_with fail
   refine (zh C K J z Q q3 z3 d 1 sAs _ ah.out.tok aj (by decide)).mono ?_
   rintro e w6 ⟨rfl,ag⟩
   replace j:=zc (j.out.below ag)
   replace n:=zc (n.out.below ag)
   replace L:=zc (L.out.below ag)
   have O:=zc (ak.out.below ag)
   have M:=zc (ah.out.later ag)
   have I:Hid (Row Q w6 z w.heap.size r l):=A.out.below ag
   clear A
   have A:=zc I
   clear I
   clear ag ak ah
   clear Z a1 U Y a4 V a6 a7 a8 a9 D E X
   go_upto_if 28 with fail
   go_cut [11] (fun aJ wx=>∃(N:Sv) (q5:PS) (z5:Int) (n5:ByteArray),aJ= .string n5∧Is2 (bd (bd (.ok q2) (zj C true)) (asP C ai)) q5 z5 n5∧Mem C K J z N q5 wx∧SB w.heap.size S w N wx∧Bx K N wx w.heap.size #[.slice (some ⟨K,0,none⟩) C.ts.length J,.int .i64 q5.pos,.int .i64 C.fin,.bool C.scr,.slice N.rq.a q5.rq.length N.rq.cap,.slice N.im.a q5.im.length N.im.cap,.slice N.ep.a q5.ep.length N.ep.cap,.slice N.st.a q5.st.length N.st.cap,.slice N.ex.a q5.ex.length N.ex.cap,.slice N.la.a q5.la.length N.la.cap,.int .i64 z5,.int .i64 d]∧Bx K N wx (w.heap.size+1) #[.slice none 0 0,.int .i64 0,.int .i64 0,.bool false,.slice none 0 0,.slice none 0 0,.slice none 0 0,.slice none 0 0,.slice none 0 0,.slice none 0 0,.int .i64 0,.int .i64 0]∧Row N wx z w.heap.size r l)
   case first=>
    cases hb:(decide (z3<0)&&isT C q3.pos 1 sAs) with
    |true=>
     have aN:q3.pos<C.ts.length:=by rw[Bool.and_eq_true] at hb;exact za1 hb.2 (by decide)
     obtain⟨Z,a1,U,Y,a4,V,a6,a7,a8,a9,D,E,X⟩:=j.out.box
     have aL:z3= -1:=by rw[Bool.and_eq_true,decide_eq_true_eq] at hb;exact (zaC ab.out.fst hb.1).2
     subst aL
     go_wp2_with fail
     refine (zbe C K J z (.ok (adv q3)) Q (adv q3) (-1) d ai _ (zX _) ((M.out.adv aN).set j.out 1 _)).mono ?_
     rintro e w7 ⟨S7,q7,z7,n7,rfl,i7,m7,s7⟩
     have ad:Hid (Bx K S7 w7 _ _):=(j.out.at1 _).stp s7
     have ae:Hid (Bx K S7 w7 _ _):=(n.out.set_other (by omega) 1 _).stp s7
     have au:Hid (Bx K S7 w7 _ _):=(L.out.set_other (by omega) 1 _).stp s7
     have ac:Hid (SB w.heap.size S w S7 w7):=(O.out.set (by omega) 1 _).step s7
     replace A:=zc ((A.out.set j.out 1 _).stp s7)
     clear j n L O
     have j:=zc ad
     have n:=zc ae
     have L:=zc au
     clear ad ae au
     have aa:=zc m7
     have aI:=zc i7
     clear i7 m7 s7 M
     clear Z a1 U Y a4 V a6 a7 a8 a9 D E X
     have ba:w.heap.size+1<w7.heap.size:=n.out.lt
     have aE:w3.heap.size<w7.heap.size:=L.out.lt
     unfold pv
     go_upto_region 11 with fail
     refine zL (R:=fun W=>Bx K S7 W (w.heap.size) _∧Bx K S7 W (w.heap.size+1) _∧Bx K S7 W (w3.heap.size) _∧Bx K S7 W (w7.heap.size) _∧Row S7 W z w.heap.size r l∧Mem C K J z S7 q7 W∧SB w.heap.size S w S7 W) ⟨(j.out.alloc _),(n.out.alloc _),(L.out.alloc _),(Bx.new aa.out _),(A.out.alloc _),(aa.out.alloc _),(ac.out.alloc _)⟩ ?_
     clear j n L ac aa
     clear A
     rintro w8 ⟨X0,X1,X2,X3,R0,m8,t8⟩
     have A:=zc R0
     clear R0
     have j:=zc X0
     have n:=zc X1
     have L:=zc X2
     have aH:=zc X3
     have aw:=zc m8
     have ay:=zc t8
     clear m8 t8 X0 X1 X2 X3
     obtain⟨Z,a1,U,Y,a4,V,a6,a7,a8,a9,D,E,X⟩:=j.out.box
     obtain⟨d0,d1,d2,d3,d4,d5,d6,d7,d8,d9,be,bi,df⟩:=aH.out.box
     go_wp2
     go_meet
     case rel=>exact⟨S7,q7,z7,n7,rfl,znc ab.out hb aI.out,(aw.out.put j.out ..),(ay.out.put (by omega) ..),(j.out.put ..),(n.out.other (by omega) ..),(A.out.put j.out ..)⟩
    |false=>
     cases e3:(n3.toList==[100,101,102,97,117,108,116]) with
     |true=>
      cases ai with
      |false=>
       obtain⟨Z,a1,U,Y,a4,V,a6,a7,a8,a9,D,E,X⟩:=j.out.box
       go_wp2_with fail
       refine (zda C K J z Q q3 z3 d _ M.out.tok aj).mono ?_
       rintro e w7 ⟨rfl,H⟩
       replace j:=zc (j.out.below H)
       replace n:=zc (n.out.below H)
       replace L:=zc (L.out.below H)
       have ac:=zc (O.out.below H)
       have aa:=zc (M.out.later H)
       have I:Hid (Row Q w7 z w.heap.size r l):=A.out.below H
       clear A
       have A:=zc I
       clear I
       clear H O M
       clear Z a1 U Y a4 V a6 a7 a8 a9 D E X
       obtain⟨Z,a1,U,Y,a4,V,a6,a7,a8,a9,D,E,X⟩:=j.out.box
       unfold pv
       go_wp2
       go_meet
       case rel=>exact⟨Q,q3,(zbp C q3.pos z3),n3,rfl,znd ab.out hb (by rw[e3];rfl),(aa.out.put j.out ..),(ac.out.put (by omega) ..),(j.out.put ..),(n.out.other (by omega) ..),(A.out.put j.out ..)⟩
      |true=>
       obtain⟨Z,a1,U,Y,a4,V,a6,a7,a8,a9,D,E,X⟩:=j.out.box
       go_wp2
       go_meet
       case rel=>exact⟨Q,q3,z3,n3,rfl,zi6 ab.out hb (by rw[e3];rfl),M.out,O.out,j.out,n.out,A.out⟩
     |false=>
      obtain⟨Z,a1,U,Y,a4,V,a6,a7,a8,a9,D,E,X⟩:=j.out.box
      go_wp2
      go_meet
      case rel=>exact⟨Q,q3,z3,n3,rfl,zi6 ab.out hb (by rw[e3];rfl),M.out,O.out,j.out,n.out,A.out⟩
   case rest=>
    obtain⟨N,q5,z5,n5,rfl,i5,m5,t5,X0,X1,R0⟩:=hcut
    clear j n L A M O
    have j:=zc X0
    have n:=zc X1
    have ah:=zc m5
    have ak:=zc t5
    have ao:=zc i5
    have A:=zc R0
    clear X0 X1 i5 m5 t5 R0
    go_upto_region 15 with fail
    go_cut [8] (fun s8 wx=>s8= .bool (za8 l||(n3.toList==[100,101,102,97,117,108,116]))∧wx=wc)
    case first=>
     cases ha:za8 l with
     |true=>
      go_wp2
      go_meet
      case rel=>exact⟨by rw[ha];rfl,rfl⟩
     |false=>
      cases e3:(n3.toList==[100,101,102,97,117,108,116]) with
      |true=>
       go_wp2
       go_meet
       case rel=>exact⟨by rw[ha,e3];rfl,rfl⟩
      |false=>
       go_wp2
       go_meet
       case rel=>exact⟨by rw[ha,e3];rfl,rfl⟩
    case rest=>
     obtain⟨rfl,rfl⟩:=hcut
     have ar:=fun o=>A.out.own.alloc o
     have aO:=ah.out.base
     go_wp2_with (at_builtin;refine zcu _ rfl _ _ 24 rfl z 102 i0 _ 4 56 Tryz.underlying24 hi aT aM aP rfl (by decide) (by decide) r l.length _ (by rfl) (ar _) wc.heap.size (epL ⟨0,n5,n3,sNone⟩) (by rfl) (by exact heap_alloc_new wc _) rfl (by intro u hu;simp[epL] at hu;rcases hu with rfl|rfl|rfl|rfl<;>rfl) (by omega) (by rw[zk];omega) ?_)
     intro r' w6 hr hg az
     obtain⟨R6,m6⟩:=(A.out.alloc _).grow (x:=⟨0,n5,n3,sNone⟩) (ah.out.alloc _) (by rw[zk];have:=ak.out.size;omega) hg hr (by rw[zk];exact az)
     have ad:Hid (Bx K N w6 _ _):=(A.out.alloc _).bx (j.out.alloc _) hg
     have ae:Hid (Bx K N w6 _ _):=(A.out.alloc _).bx (n.out.alloc _) hg
     have O:Hid (SB w.heap.size S w N w6):=(A.out.alloc _).sb (ak.out.alloc _) hg
     have M:=zc m6
     clear j n A hr hg az ar aO ah ak m6
     have j:=zc ad
     have n:=zc ae
     have A:=zc R6
     clear ad ae R6
     cases hc:(decide (z5<0)&&isT C q5.pos 4 zbw) with
     |true=>
      obtain⟨Z,a1,U,Y,a4,V,a6,a7,a8,a9,D,E,X⟩:=j.out.box
      go_wp2_with fail
      refine (zh C K J z N q5 z5 d 4 zbw _ M.out.tok aj (by decide)).mono ?_
      rintro e w7 ⟨rfl,H⟩
      rw[hc]
      replace j:=zc (j.out.below H)
      replace n:=zc (n.out.below H)
      have ac:=zc (O.out.below H)
      have aa:=zc (M.out.later H)
      have I:Hid (Row N w7 z w.heap.size r' (l++[⟨0,n5,n3,sNone⟩])):=A.out.below H
      clear A
      have A:=zc I
      clear I
      clear H O M
      clear Z a1 U Y a4 V a6 a7 a8 a9 D E X
      rw[Bool.and_eq_true,decide_eq_true_eq] at hc
      obtain⟨aA,aB⟩:=hc
      have aV:q5.pos<C.ts.length:=za1 aB (by decide)
      obtain⟨E5,P5⟩:=zna (l:=l) ab.out ao.out aA aB
      have HE:=zc E5
      obtain rfl:z5= -1:=(zaC ao.out.fst aA).2
      have aU:Hid ((l++[(⟨0,n5,n3,sNone⟩:Ep)]).length≤q5.pos+1∨l++[(⟨0,n5,n3,sNone⟩:Ep)]=[]):=.inl (by simp only[List.length_append,List.length_singleton];exact aW.out.elim (fun g=>by omega) (fun g=>by rw[g];simp))
      clear E5
      obtain⟨Z,a1,U,Y,a4,V,a6,a7,a8,a9,D,E,X⟩:=j.out.box
      go_wp2
      go_roundg (gk-1)
      case rel=>exact⟨.ok (adv q5),N,adv q5,-1,r',l++[⟨0,n5,n3,sNone⟩],zX _,by rw[←ax.out];exact HE.out.symm,fun _=>by rw[zx];omega,aU.out,by simp,by rw[zi4],((aa.out.adv aV).set j.out 1 _),(ac.out.set (by omega) 1 _),(j.out.at1 _),(n.out.set_other (by omega) 1 _),(A.out.set j.out 1 _)⟩
      case measure=>omega
     |false=>
      obtain⟨Z,a1,U,Y,a4,V,a6,a7,a8,a9,D,E,X⟩:=j.out.box
      go_wp2_with fail
      refine (zh C K J z N q5 z5 d 4 zbw _ M.out.tok aj (by decide)).mono ?_
      rintro e w7 ⟨rfl,H⟩
      rw[hc]
      replace j:=zc (j.out.below H)
      replace n:=zc (n.out.below H)
      have ac:=zc (O.out.below H)
      have aa:=zc (M.out.later H)
      have I:Hid (Row N w7 z w.heap.size r' (l++[⟨0,n5,n3,sNone⟩])):=A.out.below H
      clear A
      have A:=zc I
      clear I
      clear H O M
      clear Z a1 U Y a4 V a6 a7 a8 a9 D E X
      obtain⟨Z,a1,U,Y,a4,V,a6,a7,a8,a9,D,E,X⟩:=j.out.box
      go_wp2_with fail
      refine (zad C K J z _ N q5 z5 d zbm _ ao.out.fst aa.out).mono ?_
      rintro e w8 ⟨S8,q8,z8,rfl,i8,m8,s8⟩
      replace j:=zc (j.out.stp s8)
      replace n:=zc (n.out.stp s8)
      have ay:=zc (ac.out.step s8)
      have I:Hid (Row S8 w8 z w.heap.size r' (l++[⟨0,n5,n3,sNone⟩])):=A.out.stp s8
      clear A
      have A:=zc I
      clear I
      clear ac
      have aw:=zc m8
      have aX:=zc i8
      clear i8 m8 s8 aa
      clear Z a1 U Y a4 V a6 a7 a8 a9 D E X
      obtain⟨b0,b1,b2,b3,b4,b5,b6,b7,b8,b9,aK,aR,bf⟩:=n.out.box
      unfold pv
      go_wp2
      refine bodyPost_ret (zi5 rfl _ _ (w.heap.size+1) 53 _ (0,0) _ rfl ((n.out.put ..)).heap Tryz.underlying53 rfl (by kernel_rfl)) rfl ?_
      exact⟨S8,q8,z8,r',l++[⟨0,n5,n3,sNone⟩],by simp[pv,zi4],by rw[←ax.out,zz,zfs];exact zmZ ab.out ao.out hc aX.out,(aw.out.put n.out ..),((ay.out.put (by omega) ..)).done,(A.out.put n.out ..),by simp;omega⟩
  ·skip
   obtain⟨Z,a1,U,Y,a4,V,a6,a7,a8,a9,D,E,X⟩:=j.out.box
   go_wp2_with fail
   refine (zad C K J z _ S2 q2 z2 d zbm _ av.out am.out).mono ?_
   rintro e w3 ⟨Q,q3,z3,rfl,i3,m3,s3⟩
   replace j:=zc (j.out.stp s3)
   replace n:=zc (n.out.stp s3)
   have ap:=zc (aq.out.step s3)
   have I:Hid (Row Q w3 z w.heap.size r l):=A.out.stp s3
   clear A
   have A:=zc I
   clear I
   clear aq
   have al:=zc m3
   have ab:=zc i3
   clear i3 m3 s3 am
   clear Z a1 U Y a4 V a6 a7 a8 a9 D E X
   obtain⟨b0,b1,b2,b3,b4,b5,b6,b7,b8,b9,aK,aR,bf⟩:=n.out.box
   unfold pv
   go_wp2
   refine bodyPost_ret (zi5 rfl _ _ (w.heap.size+1) 53 _ (0,0) _ rfl ((n.out.put ..)).heap Tryz.underlying53 rfl (by kernel_rfl)) rfl ?_
   exact⟨Q,q3,z3,r,l,rfl,by rw[←ax.out];exact znb av.out (by omega) ab.out,(al.out.put n.out ..),((ap.out.put (by omega) ..)).done,(A.out.put n.out ..),by omega⟩
def SumOK (C:Cx) (gt cap base m:Nat):Prop:=∀(x:PR) (S:Sv) (q:PS) (z:Int) (d:Nat) (w:World),Is x q z→Mem C gt cap base S q w→(z<0→C.ts.length-q.pos<m)→d≤20→
 Calls Tryz.prog 75 #[pv C gt cap S q z d] w (Out C gt cap base (bd x (pE C .sum d)) d S w)
theorem zf5 {C:Cx} {o:Bool} {q j:PS} {z:Int} {n:ByteArray} (h:Is2 (bd (.ok q) (zj C o)) j z n) (A:zD C q.pos o=true):j=adv q∧z= -1∧n=(ze C q.pos).text:=by
 rw[zz,zj,if_pos A] at h
 exact h
theorem zf6 {C:Cx} {o:Bool} {q n:PS} {j:Int} {z:ByteArray} (h:Is2 (bd (.ok q) (zj C o)) n j z) (A:zD C q.pos o=false):j=(zr C q.pos:Int):=by
 rw[zz,zj,A] at h
 exact h
theorem zi8 {C:Cx} {n:ByteArray} {y:Except Nat (PS×ByteArray)} {q:PS} {z:Int} {f:ByteArray} (h:Is2 y q z f) (j:(decide (z<0)&&isT C q.pos 4 zn)=true):bd (bd (bd (zaK y) (zd C 4 zn)) (zd C 4 za0)) (zN C ⟨5,0,n,f,0,0⟩)=bd y fun a=>zbx C n a.2 a.1:=by
 rw[Bool.and_eq_true,decide_eq_true_eq] at j
 cases y with
 |ok a=>
  obtain⟨rfl,_,rfl⟩:=h
  show _=zbx C n a.2 a.1
  rw[zbx,if_pos j.2]
  rfl
 |error e=>rfl
theorem zi9 {C:Cx} {n:ByteArray} {y:Except Nat (PS×ByteArray)} {q:PS} {z:Int} {f:ByteArray} (h:Is2 y q z f) (j:(decide (z<0)&&isT C q.pos 4 zn)=false):bd (zaK y) (zN C ⟨4,0,n,f,0,0⟩)=bd y fun a=>zbx C n a.2 a.1:=by
 cases y with
 |ok a=>
  obtain⟨rfl,rfl,rfl⟩:=h
  rw[Bool.and_eq_false_iff] at j
  show _=zbx C n a.2 a.1
  rw[zbx,j.resolve_left (by decide)]
  rfl
 |error e=>rfl
theorem ziA {C:Cx} {o:Bool} {x:PR} {q:PS} {z:Int} {n:ByteArray} (h:Is2 (bd x (zj C o)) q z n):z<0→1≤q.pos:=by
 intro D
 cases j:bd x (zj C o) with
 |error e=>rw[j] at h;have:z=(e:Int):=h;omega
 |ok a=>
  rw[j] at h
  obtain⟨rfl,_,_⟩:=h
  obtain⟨b,_,A⟩:=zf j
  obtain⟨rfl,_⟩:=zbd A
  simp[adv]
theorem zne (C:Cx) (I o j:Nat) (S:Sv) (q:PS) (d:Nat) (w:World) (H:Mem C I o j S q w) (N:((ze C q.pos).kind==2)=true):
  Calls Tryz.prog 168 #[pv C I o S q (-1) d] w (Out C I o j (pE C .part d q) d S w):=by
 have HM:=zc H
 have z:=H.tok
 have Q:C.ts.length≤4000:=H.few
 have aa:=(zan H.tok).1
 clear H
 have hp:q.pos<C.ts.length:=zfn N (by decide)
 have Z:Hid (pE C .part d q=bd (.ok (adv q)) (zN C ⟨1,(ze C q.pos).num,sNone,sNone,0,0⟩)):=by show pE C .part d q=_;rw[zb6,if_pos N];rfl
 obtain⟨V,_,U,_⟩:=z.cells hp (d:=⟨0,sNone,0,C.fin⟩)
 change _=some (Value.int .i64 (ze C q.pos).kind) at V
 change _=some (Value.int .i64 (ze C q.pos).num) at U
 have D:Hid (Mem C I o j S (adv q) w):=HM.out.adv hp
 generalize (ze C q.pos).kind=kd at V N
 have HN:Hid (∀n,n=(ze C q.pos).num→pE C .part d q=bd (.ok (adv q)) (zN C ⟨1,n,sNone,sNone,0,0⟩)):=fun n e=>by rw[e];exact Z.out
 generalize E:(ze C q.pos).num=nm at U
 have L:Hid (nm=(ze C q.pos).num):=E.symm
 clear E Z z
 unfold pv
 go_enter Tryz.func168,Tryz.ntmps168
 go_wp2_with fail
 refine (zcK C I o j (.ok (adv q)) S (adv q) (-1) d ⟨1,nm,sNone,sNone,0,0⟩ _ (zX _) ((D.out.alloc _).alloc _) (fun _=>by simp[adv])).mono ?_
 rintro e w1 ⟨S1,q1,z1,rfl,X,Y,s1⟩
 obtain⟨X0,O,t1⟩:=D.out.two2 s1
 have A:=zc O
 have J:=zc Y
 have M:=zc t1
 have K:=zc X
 clear X0 O X Y t1 s1
 obtain⟨b0,b1,b2,b3,b4,b5,b6,b7,b8,b9,ac,ab,bf⟩:=A.out.box
 unfold pv
 go_wp2
 refine bodyPost_ret (results_cell_row rfl _ _ (w.heap.size+1) 53 _ (0,0) _ rfl ((A.out.put ..)).heap Tryz.underlying53 rfl (by kernel_rfl)) rfl ?_
 rw[HN.out nm L.out]
 exact zY rfl K.out (J.out.put A.out ..) (M.out.put (by omega) ..)
theorem znf (C:Cx) (L n j:Nat) (S:Sv) (q:PS) (d:Nat) (w:World) (J:Mem C L n j S q w) (X:((ze C q.pos).kind==2)=false) (U:isT C q.pos 4 zn=true) (hd:20≤d) (ac:d≤20):
  Calls Tryz.prog 168 #[pv C L n S q (-1) d] w (Out C L n j (pE C .part d q) d S w):=by
 have HM:=zc J
 have D:=J.tok
 have A:C.ts.length≤4000:=J.few
 have aa:=(zan J.tok).1
 clear J
 have hp:q.pos<C.ts.length:=za1 U (by decide)
 have HV:Hid (pE C .part d q= .error (zr C q.pos)):=by show pE C .part d q=_;rw[zb6,X,U];simp[hd]
 have qd:decide ((20:Int)≤(d:Int))=true:=decide_eq_true (by omega)
 obtain⟨Y,_,_,_⟩:=D.cells hp (d:=⟨0,sNone,0,C.fin⟩)
 change _=some (Value.int .i64 (ze C q.pos).kind) at Y
 generalize (ze C q.pos).kind=kd at Y X
 unfold pv
 go_enter Tryz.func168,Tryz.ntmps168
 go_wp2_with fail
 refine (zh C L n j S q (-1) d 4 zn _ (zq (zq D _) _) A (by decide)).mono ?_
 rintro e w1 ⟨rfl,I⟩
 rw[U]
 obtain⟨X0,V,Z,t1⟩:=HM.out.two I
 have H:=zc X0
 have z:=zc V
 have E:=zc Z
 have K:=zc t1
 clear X0 V Z t1 I
 obtain⟨a0,a1,a2,a3,a4,a5,a6,a7,a8,a9,N,Q,af⟩:=H.out.box
 go_wp2_with fail
 refine (zda C L n j S q (-1) d _ E.out.tok A).mono ?_
 rintro e w2 ⟨rfl,o⟩
 replace H:=zc (H.out.below o)
 replace z:=zc (z.out.below o)
 have M:=zc (K.out.below o)
 have O:=zc (E.out.later o)
 clear o K E
 clear a0 a1 a2 a3 a4 a5 a6 a7 a8 a9 N Q af
 obtain⟨b0,b1,b2,b3,b4,b5,b6,b7,b8,b9,ad,ab,bf⟩:=z.out.box
 unfold pv
 go_wp2
 refine bodyPost_ret (results_cell_row rfl _ _ (w.heap.size+1) 53 _ (0,0) _ rfl ((z.out.put ..)).heap Tryz.underlying53 rfl (by kernel_rfl)) rfl ?_
 rw[HV.out]
 exact zY rfl (show Is (.error (zr C q.pos)) q _ from rfl) (O.out.put z.out ..) (M.out.put (by omega) ..)
theorem zng (C:Cx) (A z o:Nat) (S:Sv) (q:PS) (d:Nat) (w:World) (Y:Mem C A z o S q w) (hk:((ze C q.pos).kind==2)=false) (ho:isT C q.pos 4 zn=true) (hd:d<20) (hS:SumOK C A z o (C.ts.length-q.pos)):
  Calls Tryz.prog 168 #[pv C A z S q (-1) d] w (Out C A z o (pE C .part d q) d S w):=by
 have HM:=zc Y
 have I:=Y.tok
 have Q:C.ts.length≤4000:=Y.few
 have ae:=(zan Y.tok).1
 clear Y
 have hp:q.pos<C.ts.length:=za1 ho (by decide)
 have HV:Hid (pE C .part d q=bd (bd (.ok (adv q)) (pE C .sum (d+1))) (zd C 4 za0)):=by show pE C .part d q=_;rw[zb6,hk,ho,if_neg (by decide),if_pos rfl,if_neg (by omega)];rfl
 have HS:=zc hS
 clear hS
 have qd:decide ((20:Int)≤(d:Int))=false:=decide_eq_false (by omega)
 obtain⟨c0,_,_,_⟩:=I.cells hp (d:=⟨0,sNone,0,C.fin⟩)
 change _=some (Value.int .i64 (ze C q.pos).kind) at c0
 generalize (ze C q.pos).kind=kd at c0 hk
 unfold pv
 go_enter Tryz.func168,Tryz.ntmps168
 go_wp2_with fail
 refine (zh C A z o S q (-1) d 4 zn _ (zq (zq I _) _) Q (by decide)).mono ?_
 rintro e w1 ⟨rfl,U⟩
 rw[ho]
 obtain⟨M,L,m1,t1⟩:=HM.out.two U
 have j:=zc M
 have n:=zc L
 have J:=zc m1
 have N:=zc t1
 clear M L m1 t1 U
 obtain⟨a0,a1,a2,a3,a4,a5,a6,a7,a8,a9,E,H,af⟩:=j.out.box
 go_wp2_with fail
 refine (HS.out (.ok (adv q)) S (adv q) (-1) (d+1) _ (zX _) (((J.out.adv hp).set j.out 1 _).set (j.out.at1 _) 11 _) (fun _=>by show C.ts.length-(q.pos+1)<_;omega) (by omega)).mono ?_
 rintro e w2 ⟨S2,q2,z2,rfl,i2,m2,Z⟩
 replace j:=zc (((j.out.at1 _).at11 _).stp Z)
 replace n:=zc (((n.out.set_other (by omega) 1 _).set_other (by omega) 11 _).stp Z)
 have V:Hid (SB w.heap.size S w S2 w2):=((N.out.set (by omega) 1 _).set (by omega) 11 _).step Z
 clear N
 have K:=zc m2
 have ab:=zc i2
 clear i2 m2 Z J
 clear a0 a1 a2 a3 a4 a5 a6 a7 a8 a9 E H af
 go_wp2_with fail
 refine (zad C A z o _ S2 q2 z2 (d+1) za0 _ ab.out K.out).mono ?_
 rintro e w3 ⟨S3,q3,z3,rfl,i3,m3,s3⟩
 replace j:=zc (j.out.stp s3)
 replace n:=zc (n.out.stp s3)
 have O:=zc (V.out.step s3)
 clear V
 have X:=zc m3
 have aa:=zc i3
 clear i3 m3 s3 K
 obtain⟨a0,a1,a2,a3,a4,a5,a6,a7,a8,a9,E,H,af⟩:=j.out.box
 obtain⟨D,hD⟩: ∃D:Nat,D=d+1:=⟨_,rfl⟩
 rw[←hD]
 have ag:(D:Int)-1=d:=by omega
 have ai:D≤20:=by omega
 clear hD hd qd
 unfold pv
 go_upto_region 11 with fail
 refine zL (R:=fun W=>Bx A S3 W (w.heap.size) _∧Bx A S3 W (w.heap.size+1) _∧Mem C A z o S3 q3 W∧SB w.heap.size S w S3 W) ⟨(j.out.put ..),(n.out.other (by omega) ..),(X.out.put j.out ..),(O.out.put (by omega) ..)⟩ ?_
 clear a0 a1 a2 a3 a4 a5 a6 a7 a8 a9 E H af
 clear j n O X
 rintro w4 ⟨M,L,m4,t4⟩
 have j:=zc M
 have n:=zc L
 have ad:=zc m4
 have ac:=zc t4
 clear m4 t4 M L
 obtain⟨a0,a1,a2,a3,a4,a5,a6,a7,a8,a9,E,H,af⟩:=j.out.box
 obtain⟨b0,b1,b2,b3,b4,b5,b6,b7,b8,b9,ah,aj,bf⟩:=n.out.box
 go_wp2
 refine bodyPost_ret (results_cell_row rfl _ _ (w.heap.size+1) 53 _ (0,0) _ rfl (((n.out.set_other (by omega) 11 _).put ..)).heap Tryz.underlying53 rfl (by kernel_rfl)) rfl ?_
 rw[HV.out]
 exact zY rfl aa.out ((ad.out.set j.out 11 _).put (n.out.set_other (by omega) 11 _) ..) ((ac.out.set (by omega) 11 _).put (by omega) ..)
theorem znh (z:List Tk) (j:Nat) (H D o:Nat) (S:Sv) (q:PS) (d:Nat) (w:World) (hm:Mem (Cx.mk z j true) H D o S q w) (hp: ¬q.pos<(Cx.mk z j true).ts.length):
  Calls Tryz.prog 168 #[pv (Cx.mk z j true) H D S q (-1) d] w (Out (Cx.mk z j true) H D o (pE (Cx.mk z j true) .part d q) d S w):=by
 have HM:=zc hm
 have N:=hm.tok
 have I:(Cx.mk z j true).ts.length≤4000:=hm.few
 have ag:=(zan hm.tok).1
 clear hm
 have hk:((ze (Cx.mk z j true) q.pos).kind==2)=false:=by rw[zdl (by omega)];rfl
 have ho:isT (Cx.mk z j true) q.pos 4 zn=false:=zeE hp (by decide)
 have hu:isT (Cx.mk z j true) q.pos 1 za7=false:=zeE hp (by decide)
 have hn:zD (Cx.mk z j true) q.pos false=false:=zg0 hp
 have HV:Hid (pE (Cx.mk z j true) .part d q= .error (zr (Cx.mk z j true) q.pos)):=by show pE (Cx.mk z j true) .part d q=_;rw[zb6,hk,ho,hu,zj,hn];rfl
 have al: ¬q.pos<z.length:=hp
 unfold pv
 go_enter Tryz.func168,Tryz.ntmps168
 go_wp2_with fail
 refine (zh (Cx.mk z j true) H D o S q (-1) d 4 zn _ (zq (zq N _) _) I (by decide)).mono ?_
 rintro e w1 ⟨rfl,Z⟩
 rw[ho]
 obtain⟨U,Q,m1,t1⟩:=HM.out.two Z
 have A:=zc U
 have n:=zc Q
 have J:=zc m1
 have V:=zc t1
 clear U Q m1 t1 Z
 obtain⟨a0,a1,a2,a3,a4,a5,a6,a7,a8,a9,K,M,af⟩:=A.out.box
 go_wp2_with fail
 refine (zh (Cx.mk z j true) H D o S q (-1) d 1 za7 _ J.out.tok I (by decide)).mono ?_
 rintro e w2 ⟨rfl,E⟩
 rw[hu]
 replace A:=zc (A.out.below E)
 replace n:=zc (n.out.below E)
 have aa:=zc (V.out.below E)
 have O:=zc (J.out.later E)
 clear E V J
 clear a0 a1 a2 a3 a4 a5 a6 a7 a8 a9 K M af
 obtain⟨a0,a1,a2,a3,a4,a5,a6,a7,a8,a9,K,M,af⟩:=A.out.box
 go_wp2_with fail
 refine (zbe (Cx.mk z j true) H D o (.ok q) S q (-1) d false _ (zX q) O.out).mono ?_
 rintro e w3 ⟨Y,q3,z3,n3,rfl,i3,m3,s3⟩
 replace A:=zc (A.out.stp s3)
 replace n:=zc (n.out.stp s3)
 have X:=zc (aa.out.step s3)
 clear aa
 have L:=zc m3
 have ab:=zc i3
 clear i3 m3 s3 O
 clear a0 a1 a2 a3 a4 a5 a6 a7 a8 a9 K M af
 obtain rfl:=zf6 ab.out hn
 have dz:decide ((0:Int)≤(zr (Cx.mk z j true) q.pos:Int))=true:=decide_eq_true (by omega)
 have ah:w.heap.size+1<w3.heap.size:=n.out.lt
 unfold pv
 go_upto_region 17 with fail
 refine zL (R:=fun W=>Bx H Y W (w.heap.size) _∧Bx H Y W (w.heap.size+1) _∧Bx H Y W (w3.heap.size) _∧Mem (Cx.mk z j true) H D o Y q3 W∧SB w.heap.size S w Y W) ⟨(A.out.alloc _),(n.out.alloc _),(Bx.new L.out _),(L.out.alloc _),(X.out.alloc _)⟩ ?_
 clear A n X L
 rintro w4 ⟨U,Q,X2,m4,t4⟩
 have A:=zc U
 have n:=zc Q
 have ac:=zc X2
 have ae:=zc m4
 have ad:=zc t4
 clear m4 t4 U Q X2
 obtain⟨b0,b1,b2,b3,b4,b5,b6,b7,b8,b9,aj,ak,bf⟩:=n.out.box
 obtain⟨c0,c1,c2,c3,c4,c5,c6,c7,c8,c9,am,ai,cf⟩:=ac.out.box
 go_wp2
 refine bodyPost_ret (results_cell_row rfl _ _ (w.heap.size+1) 53 _ (0,0) _ rfl ((n.out.put ..)).heap Tryz.underlying53 rfl (by kernel_rfl)) rfl ?_
 rw[HV.out]
 exact zY rfl (show Is (.error (zr (Cx.mk z j true) q.pos)) q3 _ from rfl) (ae.out.put n.out ..) (ad.out.put (by omega) ..)
theorem zni (o:List Tk) (j:Nat) (H D z:Nat) (S:Sv) (q:PS) (d:Nat) (w:World) (hm:Mem (Cx.mk o j true) H D z S q w) (hk:((ze (Cx.mk o j true) q.pos).kind==2)=false) (ho:isT (Cx.mk o j true) q.pos 4 zn=false) (hp:q.pos<(Cx.mk o j true).ts.length) (hu:isT (Cx.mk o j true) q.pos 1 za7=false) (hn:zD (Cx.mk o j true) q.pos false=false):
  Calls Tryz.prog 168 #[pv (Cx.mk o j true) H D S q (-1) d] w (Out (Cx.mk o j true) H D z (pE (Cx.mk o j true) .part d q) d S w):=by
 have HM:=zc hm
 have I:=hm.tok
 have J:(Cx.mk o j true).ts.length≤4000:=hm.few
 have ag:=(zan hm.tok).1
 clear hm
 have HV:Hid (pE (Cx.mk o j true) .part d q= .error (zr (Cx.mk o j true) q.pos)):=by show pE (Cx.mk o j true) .part d q=_;rw[zb6,hk,ho,hu,zj,hn];rfl
 have al:q.pos<o.length:=hp
 obtain⟨c0,_,_,_⟩:=I.cells hp (d:=⟨0,sNone,0,(Cx.mk o j true).fin⟩)
 change _=some (Value.int .i64 (ze (Cx.mk o j true) q.pos).kind) at c0
 generalize (ze (Cx.mk o j true) q.pos).kind=kd at c0 hk
 unfold pv
 go_enter Tryz.func168,Tryz.ntmps168
 go_wp2_with fail
 refine (zh (Cx.mk o j true) H D z S q (-1) d 4 zn _ (zq (zq I _) _) J (by decide)).mono ?_
 rintro e w1 ⟨rfl,Z⟩
 rw[ho]
 obtain⟨U,Q,m1,t1⟩:=HM.out.two Z
 have A:=zc U
 have n:=zc Q
 have K:=zc m1
 have V:=zc t1
 clear U Q m1 t1 Z
 obtain⟨a0,a1,a2,a3,a4,a5,a6,a7,a8,a9,L,N,af⟩:=A.out.box
 go_wp2_with fail
 refine (zh (Cx.mk o j true) H D z S q (-1) d 1 za7 _ K.out.tok J (by decide)).mono ?_
 rintro e w2 ⟨rfl,E⟩
 rw[hu]
 replace A:=zc (A.out.below E)
 replace n:=zc (n.out.below E)
 have aa:=zc (V.out.below E)
 have O:=zc (K.out.later E)
 clear E V K
 clear a0 a1 a2 a3 a4 a5 a6 a7 a8 a9 L N af
 obtain⟨a0,a1,a2,a3,a4,a5,a6,a7,a8,a9,L,N,af⟩:=A.out.box
 go_wp2_with fail
 refine (zbe (Cx.mk o j true) H D z (.ok q) S q (-1) d false _ (zX q) O.out).mono ?_
 rintro e w3 ⟨Y,q3,z3,n3,rfl,i3,m3,s3⟩
 replace A:=zc (A.out.stp s3)
 replace n:=zc (n.out.stp s3)
 have X:=zc (aa.out.step s3)
 clear aa
 have M:=zc m3
 have ab:=zc i3
 clear i3 m3 s3 O
 clear a0 a1 a2 a3 a4 a5 a6 a7 a8 a9 L N af
 obtain rfl:=zf6 ab.out hn
 have dz:decide ((0:Int)≤(zr (Cx.mk o j true) q.pos:Int))=true:=decide_eq_true (by omega)
 have ah:w.heap.size+1<w3.heap.size:=n.out.lt
 unfold pv
 go_upto_region 17 with fail
 refine zL (R:=fun W=>Bx H Y W (w.heap.size) _∧Bx H Y W (w.heap.size+1) _∧Bx H Y W (w3.heap.size) _∧Mem (Cx.mk o j true) H D z Y q3 W∧SB w.heap.size S w Y W) ⟨(A.out.alloc _),(n.out.alloc _),(Bx.new M.out _),(M.out.alloc _),(X.out.alloc _)⟩ ?_
 clear A n X M
 rintro w4 ⟨U,Q,X2,m4,t4⟩
 have A:=zc U
 have n:=zc Q
 have ac:=zc X2
 have ae:=zc m4
 have ad:=zc t4
 clear m4 t4 U Q X2
 obtain⟨b0,b1,b2,b3,b4,b5,b6,b7,b8,b9,aj,ak,bf⟩:=n.out.box
 obtain⟨c0,c1,c2,c3,c4,c5,c6,c7,c8,c9,am,ai,cf⟩:=ac.out.box
 go_wp2
 refine bodyPost_ret (results_cell_row rfl _ _ (w.heap.size+1) 53 _ (0,0) _ rfl ((n.out.put ..)).heap Tryz.underlying53 rfl (by kernel_rfl)) rfl ?_
 rw[HV.out]
 exact zY rfl (show Is (.error (zr (Cx.mk o j true) q.pos)) q3 _ from rfl) (ae.out.put n.out ..) (ad.out.put (by omega) ..)
theorem ziB (I:List Tk) (o:Nat) (H A n:Nat) (S:Sv) (q:PS) (d:Nat) (w:World) (hm:Mem (Cx.mk I o true) H A n S q w) (D:Nat):
  Calls Tryz.prog 168 #[pv (Cx.mk I o true) H A S q (D:Int) d] w (Out (Cx.mk I o true) H A n (.error D) d S w):=by
 have HM:=zc hm
 have O:=hm.tok
 have J:(Cx.mk I o true).ts.length≤4000:=hm.few
 have ah:=(zan hm.tok).1
 clear hm
 have hz: ¬(D:Int)<0:=by omega
 have hs: ∀k s,(decide ((D:Int)<0)&&isT (Cx.mk I o true) q.pos k s)=false:=fun k s=>by rw[decide_eq_false hz];rfl
 unfold pv
 go_enter Tryz.func168,Tryz.ntmps168
 go_wp2_with fail
 refine (zh (Cx.mk I o true) H A n S q (D:Int) d 4 zn _ (zq (zq O _) _) J (by decide)).mono ?_
 rintro e w1 ⟨rfl,aa⟩
 rw[hs]
 obtain⟨V,U,m1,t1⟩:=HM.out.two aa
 have z:=zc V
 have j:=zc U
 have K:=zc m1
 have X:=zc t1
 clear V U m1 t1 aa
 obtain⟨a0,a1,a2,a3,a4,a5,a6,a7,a8,a9,L,N,af⟩:=z.out.box
 go_wp2_with fail
 refine (zh (Cx.mk I o true) H A n S q (D:Int) d 1 za7 _ K.out.tok J (by decide)).mono ?_
 rintro e w2 ⟨rfl,E⟩
 rw[hs]
 replace z:=zc (z.out.below E)
 replace j:=zc (j.out.below E)
 have ab:=zc (X.out.below E)
 have Q:=zc (K.out.later E)
 clear E X K
 clear a0 a1 a2 a3 a4 a5 a6 a7 a8 a9 L N af
 obtain⟨a0,a1,a2,a3,a4,a5,a6,a7,a8,a9,L,N,af⟩:=z.out.box
 go_wp2_with fail
 refine (zbe (Cx.mk I o true) H A n (.error D) S q (D:Int) d false _ (show Is (.error D) q _ from rfl) Q.out).mono ?_
 rintro e w3 ⟨Z,q3,z3,n3,rfl,i3,m3,s3⟩
 replace z:=zc (z.out.stp s3)
 replace j:=zc (j.out.stp s3)
 have Y:=zc (ab.out.step s3)
 clear ab
 have M:=zc m3
 have ac:=zc i3
 clear i3 m3 s3 Q
 clear a0 a1 a2 a3 a4 a5 a6 a7 a8 a9 L N af
 obtain rfl:z3=(D:Int):=ac.out
 have dz:decide ((0:Int)≤(D:Int))=true:=decide_eq_true (by omega)
 have ai:w.heap.size+1<w3.heap.size:=j.out.lt
 unfold pv
 go_upto_region 17 with fail
 refine zL (R:=fun W=>Bx H Z W (w.heap.size) _∧Bx H Z W (w.heap.size+1) _∧Bx H Z W (w3.heap.size) _∧Mem (Cx.mk I o true) H A n Z q3 W∧SB w.heap.size S w Z W) ⟨(z.out.alloc _),(j.out.alloc _),(Bx.new M.out _),(M.out.alloc _),(Y.out.alloc _)⟩ ?_
 clear z j Y M
 rintro w4 ⟨V,U,X2,m4,t4⟩
 have z:=zc V
 have j:=zc U
 have ad:=zc X2
 have ag:=zc m4
 have ae:=zc t4
 clear m4 t4 V U X2
 obtain⟨b0,b1,b2,b3,b4,b5,b6,b7,b8,b9,ak,al,bf⟩:=j.out.box
 obtain⟨c0,c1,c2,c3,c4,c5,c6,c7,c8,c9,am,aj,cf⟩:=ad.out.box
 go_wp2
 refine bodyPost_ret (results_cell_row rfl _ _ (w.heap.size+1) 53 _ (0,0) _ rfl ((j.out.put ..)).heap Tryz.underlying53 rfl (by kernel_rfl)) rfl ?_
 exact zY rfl (show Is (.error D) q3 _ from rfl) (ag.out.put j.out ..) (ae.out.put (by omega) ..)
theorem znj (n:List Tk) (j:Nat) (M D o:Nat) (S:Sv) (q:PS) (d:Nat) (w:World) (U:Mem (Cx.mk n j true) M D o S q w) (hk:((ze (Cx.mk n j true) q.pos).kind==2)=false) (ho:isT (Cx.mk n j true) q.pos 4 zn=false) (hp:q.pos<(Cx.mk n j true).ts.length) (hu:isT (Cx.mk n j true) q.pos 1 za7=true):
  Calls Tryz.prog 168 #[pv (Cx.mk n j true) M D S q (-1) d] w (Out (Cx.mk n j true) M D o (pE (Cx.mk n j true) .part d q) d S w):=by
 have HM:=zc U
 have I:=U.tok
 have H:(Cx.mk n j true).ts.length≤4000:=U.few
 have ad:=(zan U.tok).1
 clear U
 have HV:Hid (pE (Cx.mk n j true) .part d q=zbc (Cx.mk n j true) za7 (adv q)):=by show pE (Cx.mk n j true) .part d q=_;rw[zb6,hk,ho,hu];rfl
 have ae:q.pos<n.length:=hp
 obtain⟨c0,_,_,_⟩:=I.cells hp (d:=⟨0,sNone,0,(Cx.mk n j true).fin⟩)
 change _=some (Value.int .i64 (ze (Cx.mk n j true) q.pos).kind) at c0
 generalize (ze (Cx.mk n j true) q.pos).kind=kd at c0 hk
 unfold pv
 go_enter Tryz.func168,Tryz.ntmps168
 go_wp2_with fail
 refine (zh (Cx.mk n j true) M D o S q (-1) d 4 zn _ (zq (zq I _) _) H (by decide)).mono ?_
 rintro e w1 ⟨rfl,O⟩
 rw[ho]
 obtain⟨X0,X1,m1,t1⟩:=HM.out.two O
 have A:=zc X0
 have z:=zc X1
 have J:=zc m1
 have V:=zc t1
 clear X0 X1 m1 t1 O
 obtain⟨a0,a1,a2,a3,a4,Y,a6,a7,Z,a9,K,L,af⟩:=A.out.box
 go_wp2_with fail
 refine (zh (Cx.mk n j true) M D o S q (-1) d 1 za7 _ J.out.tok H (by decide)).mono ?_
 rintro e w2 ⟨rfl,E⟩
 rw[hu]
 replace A:=zc (A.out.below E)
 replace z:=zc (z.out.below E)
 have N:=zc (V.out.below E)
 have Q:=zc (J.out.later E)
 clear E V J
 clear a0 a1 a2 a3 a4 Y a6 a7 Z a9 K L af
 obtain⟨a0,a1,a2,a3,a4,Y,a6,a7,Z,a9,K,L,af⟩:=A.out.box
 go_wp2_with fail
 refine (zgD (Cx.mk n j true) M D o S (adv q) d za7 _ ((Q.out.adv hp).set A.out 1 _) (by simp[adv])).mono ?_
 rintro e w3 ⟨S3,q3,z3,rfl,i3,m3,X⟩
 replace A:=zc ((A.out.at1 _).stp X)
 replace z:=zc ((z.out.set_other (by omega) 1 _).stp X)
 have ac:Hid (SB w.heap.size S w S3 w3):=(N.out.set (by omega) 1 _).step X
 clear N
 have aa:=zc m3
 have ab:=zc i3
 clear i3 m3 X Q
 clear a0 a1 a2 a3 a4 Y a6 a7 Z a9 K L af
 obtain⟨b0,b1,b2,b3,b4,b5,b6,b7,b8,b9,ah,ag,bf⟩:=z.out.box
 unfold pv
 go_wp2
 refine bodyPost_ret (results_cell_row rfl _ _ (w.heap.size+1) 53 _ (0,0) _ rfl ((z.out.put ..)).heap Tryz.underlying53 rfl (by kernel_rfl)) rfl ?_
 rw[HV.out]
 exact zY rfl ab.out (aa.out.put z.out ..) (ac.out.put (by omega) ..)
theorem znk (n:List Tk) (j:Nat) (J D o:Nat) (S:Sv) (q:PS) (d:Nat) (w:World) (hm:Mem (Cx.mk n j true) J D o S q w) (hk:((ze (Cx.mk n j true) q.pos).kind==2)=false) (ho:isT (Cx.mk n j true) q.pos 4 zn=false) (hp:q.pos<(Cx.mk n j true).ts.length) (hu:isT (Cx.mk n j true) q.pos 1 za7=false) (hn:zD (Cx.mk n j true) q.pos false=true) (hd:isT (Cx.mk n j true) (q.pos+1) 4 cPoint=false):
  Calls Tryz.prog 168 #[pv (Cx.mk n j true) J D S q (-1) d] w (Out (Cx.mk n j true) J D o (pE (Cx.mk n j true) .part d q) d S w):=by
 have HM:=zc hm
 have L:=hm.tok
 have I:(Cx.mk n j true).ts.length≤4000:=hm.few
 have an:=(zan hm.tok).1
 clear hm
 have HV:Hid (pE (Cx.mk n j true) .part d q=zbc (Cx.mk n j true) (ze (Cx.mk n j true) q.pos).text (adv q)):=by show pE (Cx.mk n j true) .part d q=_;rw[zb6,hk,ho,hu,zj,hn];show (if isT (Cx.mk n j true) (adv q).pos 4 cPoint then _ else _)=_;rw[zx,hd];rfl
 have ar:q.pos<n.length:=hp
 obtain⟨c0,_,_,_⟩:=L.cells hp (d:=⟨0,sNone,0,(Cx.mk n j true).fin⟩)
 change _=some (Value.int .i64 (ze (Cx.mk n j true) q.pos).kind) at c0
 generalize (ze (Cx.mk n j true) q.pos).kind=kd at c0 hk
 unfold pv
 go_enter Tryz.func168,Tryz.ntmps168
 go_wp2_with fail
 refine (zh (Cx.mk n j true) J D o S q (-1) d 4 zn _ (zq (zq L _) _) I (by decide)).mono ?_
 rintro e w1 ⟨rfl,ac⟩
 rw[ho]
 obtain⟨X0,X1,m1,t1⟩:=HM.out.two ac
 have A:=zc X0
 have z:=zc X1
 have M:=zc m1
 have Z:=zc t1
 clear X0 X1 m1 t1 ac
 obtain⟨a0,a1,a2,a3,a4,a5,a6,a7,a8,a9,O,Q,af⟩:=A.out.box
 go_wp2_with fail
 refine (zh (Cx.mk n j true) J D o S q (-1) d 1 za7 _ M.out.tok I (by decide)).mono ?_
 rintro e w2 ⟨rfl,H⟩
 rw[hu]
 replace A:=zc (A.out.below H)
 replace z:=zc (z.out.below H)
 have ad:=zc (Z.out.below H)
 have U:=zc (M.out.later H)
 clear H Z M
 clear a0 a1 a2 a3 a4 a5 a6 a7 a8 a9 O Q af
 obtain⟨a0,a1,a2,a3,a4,a5,a6,a7,a8,a9,O,Q,af⟩:=A.out.box
 go_wp2_with fail
 refine (zbe (Cx.mk n j true) J D o (.ok q) S q (-1) d false _ (zX q) U.out).mono ?_
 rintro e w3 ⟨S3,q3,z3,n3,rfl,i3,m3,s3⟩
 replace A:=zc (A.out.stp s3)
 replace z:=zc (z.out.stp s3)
 have aa:=zc (ad.out.step s3)
 clear ad
 have K:=zc m3
 have X:=zc i3
 clear i3 m3 s3 U
 clear a0 a1 a2 a3 a4 a5 a6 a7 a8 a9 O Q af
 obtain⟨hq,rfl,V⟩:=zf5 X.out hn
 have HQ:=zc hq
 have aj:=zc V
 have Y:q3.pos=q.pos+1:=by rw[hq];rfl
 have ai:isT (Cx.mk n j true) q3.pos 4 cPoint=false:=by rw[Y];exact hd
 clear hq V X
 have ao:w.heap.size+1<w3.heap.size:=z.out.lt
 unfold pv
 clear Y
 go_wp2_with fail
 refine (zh (Cx.mk n j true) J D o S3 q3 (-1) d 4 cPoint _ (K.out.alloc _).tok I (by decide)).mono ?_
 rintro e w4 ⟨rfl,E⟩
 rw[ai]
 replace A:=zc ((A.out.alloc _).below E)
 replace z:=zc ((z.out.alloc _).below E)
 replace N:=zc ((Bx.new K.out _).below E)
 have ab:Hid (SB w.heap.size S w S3 w4):=(aa.out.alloc _).below E
 have ae:Hid (Mem (Cx.mk n j true) J D o S3 q3 w4):=(K.out.alloc _).later E
 clear E aa K
 obtain⟨c0,c1,c2,c3,c4,c5,c6,c7,c8,c9,ak,ag,cf⟩:=N.out.box
 go_wp2_with fail
 refine (zgD (Cx.mk n j true) J D o S3 q3 d n3 _ ae.out (by rw[HQ.out];simp[adv])).mono ?_
 rintro e w5 ⟨S5,q5,z5,rfl,i5,m5,s5⟩
 replace A:=zc (A.out.stp s5)
 replace z:=zc (z.out.stp s5)
 replace N:=zc (N.out.stp s5)
 have al:=zc (ab.out.step s5)
 clear ab
 have am:=zc m5
 have ah:=zc i5
 clear i5 m5 s5 ae
 clear c0 c1 c2 c3 c4 c5 c6 c7 c8 c9 ak ag cf
 obtain⟨b0,b1,b2,b3,b4,b5,b6,b7,b8,b9,ap,aq,bf⟩:=z.out.box
 unfold pv
 go_wp2
 refine bodyPost_ret (results_cell_row rfl _ _ (w.heap.size+1) 53 _ (0,0) _ rfl ((z.out.put ..)).heap Tryz.underlying53 rfl (by kernel_rfl)) rfl ?_
 rw[HV.out,←HQ.out,←aj.out]
 exact zY rfl ah.out (am.out.put z.out ..) (al.out.put (by omega) ..)
theorem znl (A:List Tk) (j:Nat) (J E o:Nat) (S:Sv) (q:PS) (d:Nat) (w:World) (hm:Mem (Cx.mk A j true) J E o S q w) (hk:((ze (Cx.mk A j true) q.pos).kind==2)=false) (ho:isT (Cx.mk A j true) q.pos 4 zn=false) (hp:q.pos<(Cx.mk A j true).ts.length) (hu:isT (Cx.mk A j true) q.pos 1 za7=false) (hn:zD (Cx.mk A j true) q.pos false=true) (hd:isT (Cx.mk A j true) (q.pos+1) 4 cPoint=true):
  Calls Tryz.prog 168 #[pv (Cx.mk A j true) J E S q (-1) d] w (Out (Cx.mk A j true) J E o (pE (Cx.mk A j true) .part d q) d S w):=by
 have HM:=zc hm
 have ae:=hm.tok
 have K:(Cx.mk A j true).ts.length≤4000:=hm.few
 have aL:=(zan hm.tok).1
 clear hm
 have HV:Hid (pE (Cx.mk A j true) .part d q=bd (bd (.ok (adv (adv q))) (zj (Cx.mk A j true) true)) fun y=>zbx (Cx.mk A j true) (ze (Cx.mk A j true) q.pos).text y.2 y.1):=by show pE (Cx.mk A j true) .part d q=_;rw[zb6,hk,ho,hu,zj,hn];show (if isT (Cx.mk A j true) (adv q).pos 4 cPoint then _ else _)=_;rw[zx,hd];rfl
 have aO:q.pos<A.length:=hp
 obtain⟨c0,_,_,_⟩:=ae.cells hp (d:=⟨0,sNone,0,(Cx.mk A j true).fin⟩)
 change _=some (Value.int .i64 (ze (Cx.mk A j true) q.pos).kind) at c0
 generalize (ze (Cx.mk A j true) q.pos).kind=kd at c0 hk
 unfold pv
 go_enter Tryz.func168,Tryz.ntmps168
 go_wp2_with fail
 refine (zh (Cx.mk A j true) J E o S q (-1) d 4 zn _ (zq (zq ae _) _) K (by decide)).mono ?_
 rintro e w1 ⟨rfl,aw⟩
 rw[ho]
 obtain⟨X0,X1,m1,t1⟩:=HM.out.two aw
 have z:=zc X0
 have n:=zc X1
 have ag:=zc m1
 have ar:=zc t1
 clear X0 X1 m1 t1 aw
 obtain⟨a0,a1,a2,a3,a4,a5,a6,a7,a8,a9,ai,aj,af⟩:=z.out.box
 go_wp2_with fail
 refine (zh (Cx.mk A j true) J E o S q (-1) d 1 za7 _ ag.out.tok K (by decide)).mono ?_
 rintro e w2 ⟨rfl,U⟩
 rw[hu]
 replace z:=zc (z.out.below U)
 replace n:=zc (n.out.below U)
 have az:=zc (ar.out.below U)
 have al:=zc (ag.out.later U)
 clear U ar ag
 clear a0 a1 a2 a3 a4 a5 a6 a7 a8 a9 ai aj af
 obtain⟨a0,a1,a2,a3,a4,a5,a6,a7,a8,a9,ai,aj,af⟩:=z.out.box
 go_wp2_with fail
 refine (zbe (Cx.mk A j true) J E o (.ok q) S q (-1) d false _ (zX q) al.out).mono ?_
 rintro e w3 ⟨S3,q3,z3,n3,rfl,i3,m3,s3⟩
 replace z:=zc (z.out.stp s3)
 replace n:=zc (n.out.stp s3)
 have au:=zc (az.out.step s3)
 clear az
 have ab:=zc m3
 have an:=zc i3
 clear i3 m3 s3 al
 clear a0 a1 a2 a3 a4 a5 a6 a7 a8 a9 ai aj af
 obtain⟨hq,rfl,am⟩:=zf5 an.out hn
 have HQ:=zc hq
 have ax:=zc am
 have ao:q3.pos=q.pos+1:=by rw[hq];rfl
 have aq:isT (Cx.mk A j true) q3.pos 4 cPoint=true:=by rw[ao];exact hd
 clear hq am an
 have aN:w.heap.size+1<w3.heap.size:=n.out.lt
 unfold pv
 clear ao
 go_wp2_with fail
 refine (zh (Cx.mk A j true) J E o S3 q3 (-1) d 4 cPoint _ (ab.out.alloc _).tok K (by decide)).mono ?_
 rintro e w4 ⟨rfl,M⟩
 rw[aq]
 replace z:=zc ((z.out.alloc _).below M)
 replace n:=zc ((n.out.alloc _).below M)
 replace D:=zc ((Bx.new ab.out _).below M)
 have av:Hid (SB w.heap.size S w S3 w4):=(au.out.alloc _).below M
 have aB:Hid (Mem (Cx.mk A j true) J E o S3 q3 w4):=(ab.out.alloc _).later M
 clear M au ab
 obtain⟨c0,c1,c2,c3,c4,c5,c6,c7,c8,c9,aJ,aD,cf⟩:=D.out.box
 have ak:q3.pos<(Cx.mk A j true).ts.length:=za1 aq (by decide)
 have aK:q3.pos<A.length:=ak
 go_wp2_with fail
 refine (zbe (Cx.mk A j true) J E o (.ok (adv q3)) S3 (adv q3) (-1) d true _ (zX _) ((aB.out.adv ak).set D.out 1 _)).mono ?_
 rintro e w5 ⟨Z,q5,z5,n5,rfl,i5,m5,s5⟩
 replace z:=zc ((z.out.set_other (by omega) 1 _).stp s5)
 replace n:=zc ((n.out.set_other (by omega) 1 _).stp s5)
 replace D:=zc ((D.out.at1 _).stp s5)
 have ac:Hid (SB w.heap.size S w Z w5):=(av.out.set (by omega) 1 _).step s5
 clear av
 have L:=zc m5
 have Q:=zc i5
 clear i5 m5 s5 aB
 clear c0 c1 c2 c3 c4 c5 c6 c7 c8 c9 aJ aD cf
 have aM:w.heap.size+1<w5.heap.size:=n.out.lt
 have aC:w3.heap.size<w5.heap.size:=D.out.lt
 cases hc:(decide (z5<0)&&isT (Cx.mk A j true) q5.pos 4 zn) with
 |true=>
  unfold pv
  go_wp2_with fail
  refine (zh (Cx.mk A j true) J E o Z q5 z5 d 4 zn _ (L.out.alloc _).tok K (by decide)).mono ?_
  rintro e w6 ⟨rfl,H⟩
  rw[hc]
  replace z:=zc ((z.out.alloc _).below H)
  replace n:=zc ((n.out.alloc _).below H)
  replace D:=zc ((D.out.alloc _).below H)
  replace I:=zc ((Bx.new L.out _).below H)
  have X:Hid (SB w.heap.size S w Z w6):=(ac.out.alloc _).below H
  have V:Hid (Mem (Cx.mk A j true) J E o Z q5 w6):=(L.out.alloc _).later H
  clear H ac L
  obtain⟨d0,d1,d2,d3,d4,d5,d6,d7,d8,d9,O,Y,df⟩:=I.out.box
  go_wp2_with fail
  refine (zad (Cx.mk A j true) J E o _ Z q5 z5 d zn _ Q.out.fst V.out).mono ?_
  rintro e w7 ⟨S7,q7,z7,rfl,i7,m7,N⟩
  replace z:=zc (z.out.stp N)
  replace n:=zc (n.out.stp N)
  replace D:=zc (D.out.stp N)
  replace I:=zc (I.out.stp N)
  have aa:=zc (X.out.step N)
  clear X
  have ad:=zc m7
  have ah:=zc i7
  clear i7 m7 N V
  clear d0 d1 d2 d3 d4 d5 d6 d7 d8 d9 O Y df
  go_wp2_with fail
  refine (zad (Cx.mk A j true) J E o _ S7 q7 z7 d za0 _ ah.out ad.out).mono ?_
  rintro e w8 ⟨S8,q8,z8,rfl,i8,m8,s8⟩
  replace z:=zc (z.out.stp s8)
  replace n:=zc (n.out.stp s8)
  replace D:=zc (D.out.stp s8)
  replace I:=zc (I.out.stp s8)
  have aA:=zc (aa.out.step s8)
  clear aa
  have ap:=zc m8
  have ay:=zc i8
  clear i8 m8 s8 ad
  obtain⟨d0,d1,d2,d3,d4,d5,d6,d7,d8,d9,O,Y,df⟩:=I.out.box
  unfold pv
  go_wp2_with fail
  refine (zcK (Cx.mk A j true) J E o _ S8 q8 z8 d ⟨5,0,n3,n5,0,0⟩ _ ay.out (ap.out.put I.out ..) (zbh ay.out)).mono ?_
  rintro e w9 ⟨S9,q9,z9,rfl,i9,m9,s9⟩
  replace z:=zc ((z.out.other (by omega) ..).stp s9)
  replace n:=zc ((n.out.other (by omega) ..).stp s9)
  replace D:=zc ((D.out.other (by omega) ..).stp s9)
  replace I:=zc ((I.out.put ..).stp s9)
  have aE:Hid (SB w.heap.size S w S9 w9):=(aA.out.put (by omega) ..).step s9
  clear aA
  have aG:=zc m9
  have aI:=zc i9
  clear i9 m9 s9 ap
  clear d0 d1 d2 d3 d4 d5 d6 d7 d8 d9 O Y df
  obtain⟨b0,b1,b2,b3,b4,b5,b6,b7,b8,b9,aF,aH,bf⟩:=n.out.box
  unfold pv
  go_wp2
  refine bodyPost_ret (results_cell_row rfl _ _ (w.heap.size+1) 53 _ (0,0) _ rfl ((n.out.put ..)).heap Tryz.underlying53 rfl (by kernel_rfl)) rfl ?_
  rw[HV.out,←HQ.out,←ax.out,←zi8 Q.out hc]
  exact zY rfl aI.out (aG.out.put n.out ..) (aE.out.put (by omega) ..)
 |false=>
  unfold pv
  go_wp2_with fail
  refine (zh (Cx.mk A j true) J E o Z q5 z5 d 4 zn _ (L.out.alloc _).tok K (by decide)).mono ?_
  rintro e w6 ⟨rfl,H⟩
  rw[hc]
  replace z:=zc ((z.out.alloc _).below H)
  replace n:=zc ((n.out.alloc _).below H)
  replace D:=zc ((D.out.alloc _).below H)
  replace I:=zc ((Bx.new L.out _).below H)
  have X:Hid (SB w.heap.size S w Z w6):=(ac.out.alloc _).below H
  have V:Hid (Mem (Cx.mk A j true) J E o Z q5 w6):=(L.out.alloc _).later H
  clear H ac L
  obtain⟨d0,d1,d2,d3,d4,d5,d6,d7,d8,d9,O,Y,df⟩:=I.out.box
  go_wp2_with fail
  refine (zcK (Cx.mk A j true) J E o _ Z q5 z5 d ⟨4,0,n3,n5,0,0⟩ _ Q.out.fst V.out (ziA Q.out)).mono ?_
  rintro e w7 ⟨S7,q7,z7,rfl,i7,m7,N⟩
  replace z:=zc (z.out.stp N)
  replace n:=zc (n.out.stp N)
  replace D:=zc (D.out.stp N)
  replace I:=zc (I.out.stp N)
  have aa:=zc (X.out.step N)
  clear X
  have ad:=zc m7
  have ah:=zc i7
  clear i7 m7 N V
  clear d0 d1 d2 d3 d4 d5 d6 d7 d8 d9 O Y df
  obtain⟨b0,b1,b2,b3,b4,b5,b6,b7,b8,b9,aF,aH,bf⟩:=n.out.box
  unfold pv
  go_wp2
  refine bodyPost_ret (results_cell_row rfl _ _ (w.heap.size+1) 53 _ (0,0) _ rfl ((n.out.put ..)).heap Tryz.underlying53 rfl (by kernel_rfl)) rfl ?_
  rw[HV.out,←HQ.out,←ax.out,←zi9 Q.out hc]
  exact zY rfl ah.out (ad.out.put n.out ..) (aa.out.put (by omega) ..)
theorem znm (o:List Tk) (j:Nat) (E D z:Nat) (S:Sv) (q:PS) (d:Nat) (w:World) (V:Mem (Cx.mk o j false) E D z S q w) (X: ¬q.pos<(Cx.mk o j false).ts.length):
  Calls Tryz.prog 168 #[pv (Cx.mk o j false) E D S q (-1) d] w (Out (Cx.mk o j false) E D z (pE (Cx.mk o j false) .part d q) d S w):=by
 have HM:=zc V
 have J:=V.tok
 have N:(Cx.mk o j false).ts.length≤4000:=V.few
 have ag:=(zan V.tok).1
 clear V
 have hk:((ze (Cx.mk o j false) q.pos).kind==2)=false:=by rw[zdl (by omega)];rfl
 have ho:isT (Cx.mk o j false) q.pos 4 zn=false:=zeE X (by decide)
 have hu:isT (Cx.mk o j false) q.pos 1 za7=false:=zeE X (by decide)
 have hn:zD (Cx.mk o j false) q.pos false=false:=zg0 X
 have HV:Hid (pE (Cx.mk o j false) .part d q= .error (zr (Cx.mk o j false) q.pos)):=by show pE (Cx.mk o j false) .part d q=_;rw[zb6,hk,ho,zj,hn];rfl
 have al: ¬q.pos<o.length:=X
 unfold pv
 go_enter Tryz.func168,Tryz.ntmps168
 go_wp2_with fail
 refine (zh (Cx.mk o j false) E D z S q (-1) d 4 zn _ (zq (zq J _) _) N (by decide)).mono ?_
 rintro e w1 ⟨rfl,Q⟩
 rw[ho]
 obtain⟨L,K,m1,t1⟩:=HM.out.two Q
 have A:=zc L
 have n:=zc K
 have I:=zc m1
 have M:=zc t1
 clear L K m1 t1 Q
 obtain⟨a0,a1,a2,a3,a4,a5,a6,a7,a8,a9,ac,ae,af⟩:=A.out.box
 go_wp2_with fail
 refine (zbe (Cx.mk o j false) E D z (.ok q) S q (-1) d false _ (zX q) I.out).mono ?_
 rintro e w2 ⟨O,q2,z2,n2,rfl,i2,m2,Y⟩
 replace A:=zc (A.out.stp Y)
 replace n:=zc (n.out.stp Y)
 have U:=zc (M.out.step Y)
 clear M
 have H:=zc m2
 have Z:=zc i2
 clear i2 m2 Y I
 clear a0 a1 a2 a3 a4 a5 a6 a7 a8 a9 ac ae af
 obtain rfl:=zf6 Z.out hn
 have dz:decide ((0:Int)≤(zr (Cx.mk o j false) q.pos:Int))=true:=decide_eq_true (by omega)
 have ah:w.heap.size+1<w2.heap.size:=n.out.lt
 unfold pv
 go_upto_region 17 with fail
 refine zL (R:=fun W=>Bx E O W (w.heap.size) _∧Bx E O W (w.heap.size+1) _∧Bx E O W (w2.heap.size) _∧Mem (Cx.mk o j false) E D z O q2 W∧SB w.heap.size S w O W) ⟨(A.out.alloc _),(n.out.alloc _),(Bx.new H.out _),(H.out.alloc _),(U.out.alloc _)⟩ ?_
 clear A n U H
 rintro w3 ⟨L,K,X2,m3,t3⟩
 have A:=zc L
 have n:=zc K
 have aa:=zc X2
 have ad:=zc m3
 have ab:=zc t3
 clear m3 t3 L K X2
 obtain⟨b0,b1,b2,b3,b4,b5,b6,b7,b8,b9,aj,ak,bf⟩:=n.out.box
 obtain⟨c0,c1,c2,c3,c4,c5,c6,c7,c8,c9,am,ai,cf⟩:=aa.out.box
 go_wp2
 refine bodyPost_ret (results_cell_row rfl _ _ (w.heap.size+1) 53 _ (0,0) _ rfl ((n.out.put ..)).heap Tryz.underlying53 rfl (by kernel_rfl)) rfl ?_
 rw[HV.out]
 exact zY rfl (show Is (.error (zr (Cx.mk o j false) q.pos)) q2 _ from rfl) (ad.out.put n.out ..) (ab.out.put (by omega) ..)
theorem znn (n:List Tk) (j:Nat) (E D z:Nat) (S:Sv) (q:PS) (d:Nat) (w:World) (V:Mem (Cx.mk n j false) E D z S q w) (hk:((ze (Cx.mk n j false) q.pos).kind==2)=false) (ho:isT (Cx.mk n j false) q.pos 4 zn=false) (hp:q.pos<(Cx.mk n j false).ts.length) (hn:zD (Cx.mk n j false) q.pos false=false):
  Calls Tryz.prog 168 #[pv (Cx.mk n j false) E D S q (-1) d] w (Out (Cx.mk n j false) E D z (pE (Cx.mk n j false) .part d q) d S w):=by
 have HM:=zc V
 have H:=V.tok
 have N:(Cx.mk n j false).ts.length≤4000:=V.few
 have ae:=(zan V.tok).1
 clear V
 have HV:Hid (pE (Cx.mk n j false) .part d q= .error (zr (Cx.mk n j false) q.pos)):=by show pE (Cx.mk n j false) .part d q=_;rw[zb6,hk,ho,zj,hn];rfl
 have ak:q.pos<n.length:=hp
 obtain⟨c0,_,_,_⟩:=H.cells hp (d:=⟨0,sNone,0,(Cx.mk n j false).fin⟩)
 change _=some (Value.int .i64 (ze (Cx.mk n j false) q.pos).kind) at c0
 generalize (ze (Cx.mk n j false) q.pos).kind=kd at c0 hk
 unfold pv
 go_enter Tryz.func168,Tryz.ntmps168
 go_wp2_with fail
 refine (zh (Cx.mk n j false) E D z S q (-1) d 4 zn _ (zq (zq H _) _) N (by decide)).mono ?_
 rintro e w1 ⟨rfl,Q⟩
 rw[ho]
 obtain⟨L,K,m1,t1⟩:=HM.out.two Q
 have A:=zc L
 have o:=zc K
 have J:=zc m1
 have M:=zc t1
 clear L K m1 t1 Q
 obtain⟨a0,a1,a2,a3,a4,a5,a6,a7,a8,a9,ab,ad,af⟩:=A.out.box
 go_wp2_with fail
 refine (zbe (Cx.mk n j false) E D z (.ok q) S q (-1) d false _ (zX q) J.out).mono ?_
 rintro e w2 ⟨O,q2,z2,n2,rfl,i2,m2,X⟩
 replace A:=zc (A.out.stp X)
 replace o:=zc (o.out.stp X)
 have U:=zc (M.out.step X)
 clear M
 have I:=zc m2
 have Y:=zc i2
 clear i2 m2 X J
 clear a0 a1 a2 a3 a4 a5 a6 a7 a8 a9 ab ad af
 obtain rfl:=zf6 Y.out hn
 have dz:decide ((0:Int)≤(zr (Cx.mk n j false) q.pos:Int))=true:=decide_eq_true (by omega)
 have ag:w.heap.size+1<w2.heap.size:=o.out.lt
 unfold pv
 go_upto_region 17 with fail
 refine zL (R:=fun W=>Bx E O W (w.heap.size) _∧Bx E O W (w.heap.size+1) _∧Bx E O W (w2.heap.size) _∧Mem (Cx.mk n j false) E D z O q2 W∧SB w.heap.size S w O W) ⟨(A.out.alloc _),(o.out.alloc _),(Bx.new I.out _),(I.out.alloc _),(U.out.alloc _)⟩ ?_
 clear A o U I
 rintro w3 ⟨L,K,X2,m3,t3⟩
 have A:=zc L
 have o:=zc K
 have Z:=zc X2
 have ac:=zc m3
 have aa:=zc t3
 clear m3 t3 L K X2
 obtain⟨b0,b1,b2,b3,b4,b5,b6,b7,b8,b9,ai,aj,bf⟩:=o.out.box
 obtain⟨c0,c1,c2,c3,c4,c5,c6,c7,c8,c9,al,ah,cf⟩:=Z.out.box
 go_wp2
 refine bodyPost_ret (results_cell_row rfl _ _ (w.heap.size+1) 53 _ (0,0) _ rfl ((o.out.put ..)).heap Tryz.underlying53 rfl (by kernel_rfl)) rfl ?_
 rw[HV.out]
 exact zY rfl (show Is (.error (zr (Cx.mk n j false) q.pos)) q2 _ from rfl) (ac.out.put o.out ..) (aa.out.put (by omega) ..)
theorem ziC (H:List Tk) (n:Nat) (E A o:Nat) (S:Sv) (q:PS) (d:Nat) (w:World) (X:Mem (Cx.mk H n false) E A o S q w) (D:Nat):
  Calls Tryz.prog 168 #[pv (Cx.mk H n false) E A S q (D:Int) d] w (Out (Cx.mk H n false) E A o (.error D) d S w):=by
 have HM:=zc X
 have K:=X.tok
 have O:(Cx.mk H n false).ts.length≤4000:=X.few
 have ag:=(zan X.tok).1
 clear X
 have hz: ¬(D:Int)<0:=by omega
 have hs: ∀k s,(decide ((D:Int)<0)&&isT (Cx.mk H n false) q.pos k s)=false:=fun k s=>by rw[decide_eq_false hz];rfl
 unfold pv
 go_enter Tryz.func168,Tryz.ntmps168
 go_wp2_with fail
 refine (zh (Cx.mk H n false) E A o S q (D:Int) d 4 zn _ (zq (zq K _) _) O (by decide)).mono ?_
 rintro e w1 ⟨rfl,U⟩
 rw[hs]
 obtain⟨M,L,m1,t1⟩:=HM.out.two U
 have z:=zc M
 have j:=zc L
 have J:=zc m1
 have N:=zc t1
 clear M L m1 t1 U
 obtain⟨a0,a1,a2,a3,a4,a5,a6,a7,a8,a9,ac,ae,af⟩:=z.out.box
 go_wp2_with fail
 refine (zbe (Cx.mk H n false) E A o (.error D) S q (D:Int) d false _ (show Is (.error D) q _ from rfl) J.out).mono ?_
 rintro e w2 ⟨Q,q2,z2,n2,rfl,i2,m2,Y⟩
 replace z:=zc (z.out.stp Y)
 replace j:=zc (j.out.stp Y)
 have V:=zc (N.out.step Y)
 clear N
 have I:=zc m2
 have Z:=zc i2
 clear i2 m2 Y J
 clear a0 a1 a2 a3 a4 a5 a6 a7 a8 a9 ac ae af
 obtain rfl:z2=(D:Int):=Z.out
 have dz:decide ((0:Int)≤(D:Int))=true:=decide_eq_true (by omega)
 have ah:w.heap.size+1<w2.heap.size:=j.out.lt
 unfold pv
 go_upto_region 17 with fail
 refine zL (R:=fun W=>Bx E Q W (w.heap.size) _∧Bx E Q W (w.heap.size+1) _∧Bx E Q W (w2.heap.size) _∧Mem (Cx.mk H n false) E A o Q q2 W∧SB w.heap.size S w Q W) ⟨(z.out.alloc _),(j.out.alloc _),(Bx.new I.out _),(I.out.alloc _),(V.out.alloc _)⟩ ?_
 clear z j V I
 rintro w3 ⟨M,L,X2,m3,t3⟩
 have z:=zc M
 have j:=zc L
 have aa:=zc X2
 have ad:=zc m3
 have ab:=zc t3
 clear m3 t3 M L X2
 obtain⟨b0,b1,b2,b3,b4,b5,b6,b7,b8,b9,aj,ak,bf⟩:=j.out.box
 obtain⟨c0,c1,c2,c3,c4,c5,c6,c7,c8,c9,al,ai,cf⟩:=aa.out.box
 go_wp2
 refine bodyPost_ret (results_cell_row rfl _ _ (w.heap.size+1) 53 _ (0,0) _ rfl ((j.out.put ..)).heap Tryz.underlying53 rfl (by kernel_rfl)) rfl ?_
 exact zY rfl (show Is (.error D) q2 _ from rfl) (ad.out.put j.out ..) (ab.out.put (by omega) ..)
theorem zno (n:List Tk) (j:Nat) (J A o:Nat) (S:Sv) (q:PS) (d:Nat) (w:World) (hm:Mem (Cx.mk n j false) J A o S q w) (hk:((ze (Cx.mk n j false) q.pos).kind==2)=false) (ho:isT (Cx.mk n j false) q.pos 4 zn=false) (hp:q.pos<(Cx.mk n j false).ts.length) (hn:zD (Cx.mk n j false) q.pos false=true) (hd:isT (Cx.mk n j false) (q.pos+1) 4 cPoint=false):
  Calls Tryz.prog 168 #[pv (Cx.mk n j false) J A S q (-1) d] w (Out (Cx.mk n j false) J A o (pE (Cx.mk n j false) .part d q) d S w):=by
 have HM:=zc hm
 have I:=hm.tok
 have K:(Cx.mk n j false).ts.length≤4000:=hm.few
 have am:=(zan hm.tok).1
 clear hm
 have HV:Hid (pE (Cx.mk n j false) .part d q=zbc (Cx.mk n j false) (ze (Cx.mk n j false) q.pos).text (adv q)):=by show pE (Cx.mk n j false) .part d q=_;rw[zb6,hk,ho,zj,hn];show (if isT (Cx.mk n j false) (adv q).pos 4 cPoint then _ else _)=_;rw[zx,hd];rfl
 have aq:q.pos<n.length:=hp
 obtain⟨c0,_,_,_⟩:=I.cells hp (d:=⟨0,sNone,0,(Cx.mk n j false).fin⟩)
 change _=some (Value.int .i64 (ze (Cx.mk n j false) q.pos).kind) at c0
 generalize (ze (Cx.mk n j false) q.pos).kind=kd at c0 hk
 unfold pv
 go_enter Tryz.func168,Tryz.ntmps168
 go_wp2_with fail
 refine (zh (Cx.mk n j false) J A o S q (-1) d 4 zn _ (zq (zq I _) _) K (by decide)).mono ?_
 rintro e w1 ⟨rfl,Y⟩
 rw[ho]
 obtain⟨X0,X1,m1,t1⟩:=HM.out.two Y
 have D:=zc X0
 have z:=zc X1
 have M:=zc m1
 have V:=zc t1
 clear X0 X1 m1 t1 Y
 obtain⟨a0,a1,a2,a3,a4,a5,a6,a7,a8,a9,ae,ak,af⟩:=D.out.box
 go_wp2_with fail
 refine (zbe (Cx.mk n j false) J A o (.ok q) S q (-1) d false _ (zX q) M.out).mono ?_
 rintro e w2 ⟨S2,U,z2,n2,rfl,i2,m2,s2⟩
 replace D:=zc (D.out.stp s2)
 replace z:=zc (z.out.stp s2)
 have aa:=zc (V.out.step s2)
 clear V
 have H:=zc m2
 have O:=zc i2
 clear i2 m2 s2 M
 clear a0 a1 a2 a3 a4 a5 a6 a7 a8 a9 ae ak af
 obtain⟨hq,rfl,N⟩:=zf5 O.out hn
 have HQ:=zc hq
 have ah:=zc N
 have Q:U.pos=q.pos+1:=by rw[hq];rfl
 have ad:isT (Cx.mk n j false) U.pos 4 cPoint=false:=by rw[Q];exact hd
 clear hq N O
 have an:w.heap.size+1<w2.heap.size:=z.out.lt
 unfold pv
 clear Q
 go_wp2_with fail
 refine (zh (Cx.mk n j false) J A o S2 U (-1) d 4 cPoint _ (H.out.alloc _).tok K (by decide)).mono ?_
 rintro e w3 ⟨rfl,E⟩
 rw[ad]
 replace D:=zc ((D.out.alloc _).below E)
 replace z:=zc ((z.out.alloc _).below E)
 replace L:=zc ((Bx.new H.out _).below E)
 have X:Hid (SB w.heap.size S w S2 w3):=(aa.out.alloc _).below E
 have ab:Hid (Mem (Cx.mk n j false) J A o S2 U w3):=(H.out.alloc _).later E
 clear E aa H
 obtain⟨c0,c1,c2,c3,c4,c5,c6,c7,c8,c9,aj,ac,cf⟩:=L.out.box
 go_wp2_with fail
 refine (zgD (Cx.mk n j false) J A o S2 U d n2 _ ab.out (by rw[HQ.out];simp[adv])).mono ?_
 rintro e w4 ⟨S4,q4,z4,rfl,i4,m4,Z⟩
 replace D:=zc (D.out.stp Z)
 replace z:=zc (z.out.stp Z)
 replace L:=zc (L.out.stp Z)
 have ag:=zc (X.out.step Z)
 clear X
 have al:=zc m4
 have ai:=zc i4
 clear i4 m4 Z ab
 clear c0 c1 c2 c3 c4 c5 c6 c7 c8 c9 aj ac cf
 obtain⟨b0,b1,b2,b3,b4,b5,b6,b7,b8,b9,ao,ap,bf⟩:=z.out.box
 unfold pv
 go_wp2
 refine bodyPost_ret (results_cell_row rfl _ _ (w.heap.size+1) 53 _ (0,0) _ rfl ((z.out.put ..)).heap Tryz.underlying53 rfl (by kernel_rfl)) rfl ?_
 rw[HV.out,←HQ.out,←ah.out]
 exact zY rfl ai.out (al.out.put z.out ..) (ag.out.put (by omega) ..)
theorem znp (A:List Tk) (j:Nat) (K E o:Nat) (S:Sv) (q:PS) (d:Nat) (w:World) (hm:Mem (Cx.mk A j false) K E o S q w) (hk:((ze (Cx.mk A j false) q.pos).kind==2)=false) (ho:isT (Cx.mk A j false) q.pos 4 zn=false) (hp:q.pos<(Cx.mk A j false).ts.length) (hn:zD (Cx.mk A j false) q.pos false=true) (hd:isT (Cx.mk A j false) (q.pos+1) 4 cPoint=true):
  Calls Tryz.prog 168 #[pv (Cx.mk A j false) K E S q (-1) d] w (Out (Cx.mk A j false) K E o (pE (Cx.mk A j false) .part d q) d S w):=by
 have HM:=zc hm
 have ad:=hm.tok
 have L:(Cx.mk A j false).ts.length≤4000:=hm.few
 have aI:=(zan hm.tok).1
 clear hm
 have HV:Hid (pE (Cx.mk A j false) .part d q=bd (bd (.ok (adv (adv q))) (zj (Cx.mk A j false) true)) fun y=>zbx (Cx.mk A j false) (ze (Cx.mk A j false) q.pos).text y.2 y.1):=by show pE (Cx.mk A j false) .part d q=_;rw[zb6,hk,ho,zj,hn];show (if isT (Cx.mk A j false) (adv q).pos 4 cPoint then _ else _)=_;rw[zx,hd];rfl
 have aL:q.pos<A.length:=hp
 obtain⟨c0,_,_,_⟩:=ad.cells hp (d:=⟨0,sNone,0,(Cx.mk A j false).fin⟩)
 change _=some (Value.int .i64 (ze (Cx.mk A j false) q.pos).kind) at c0
 generalize (ze (Cx.mk A j false) q.pos).kind=kd at c0 hk
 unfold pv
 go_enter Tryz.func168,Tryz.ntmps168
 go_wp2_with fail
 refine (zh (Cx.mk A j false) K E o S q (-1) d 4 zn _ (zq (zq ad _) _) L (by decide)).mono ?_
 rintro e w1 ⟨rfl,aq⟩
 rw[ho]
 obtain⟨X0,X1,m1,t1⟩:=HM.out.two aq
 have z:=zc X0
 have n:=zc X1
 have ag:=zc m1
 have ao:=zc t1
 clear X0 X1 m1 t1 aq
 obtain⟨a0,a1,a2,a3,a4,a5,a6,a7,a8,a9,aC,aF,af⟩:=z.out.box
 go_wp2_with fail
 refine (zbe (Cx.mk A j false) K E o (.ok q) S q (-1) d false _ (zX q) ag.out).mono ?_
 rintro e w2 ⟨S2,q2,z2,n2,rfl,i2,m2,s2⟩
 replace z:=zc (z.out.stp s2)
 replace n:=zc (n.out.stp s2)
 have au:=zc (ao.out.step s2)
 clear ao
 have Y:=zc m2
 have al:=zc i2
 clear i2 m2 s2 ag
 clear a0 a1 a2 a3 a4 a5 a6 a7 a8 a9 aC aF af
 obtain⟨hq,rfl,aj⟩:=zf5 al.out hn
 have HQ:=zc hq
 have ar:=zc aj
 have am:q2.pos=q.pos+1:=by rw[hq];rfl
 have an:isT (Cx.mk A j false) q2.pos 4 cPoint=true:=by rw[am];exact hd
 clear hq aj al
 have aK:w.heap.size+1<w2.heap.size:=n.out.lt
 unfold pv
 clear am
 go_wp2_with fail
 refine (zh (Cx.mk A j false) K E o S2 q2 (-1) d 4 cPoint _ (Y.out.alloc _).tok L (by decide)).mono ?_
 rintro e w3 ⟨rfl,N⟩
 rw[an]
 replace z:=zc ((z.out.alloc _).below N)
 replace n:=zc ((n.out.alloc _).below N)
 replace D:=zc ((Bx.new Y.out _).below N)
 have ap:Hid (SB w.heap.size S w S2 w3):=(au.out.alloc _).below N
 have av:Hid (Mem (Cx.mk A j false) K E o S2 q2 w3):=(Y.out.alloc _).later N
 clear N au Y
 obtain⟨c0,c1,c2,c3,c4,c5,c6,c7,c8,c9,aE,ay,cf⟩:=D.out.box
 have ah:q2.pos<(Cx.mk A j false).ts.length:=za1 an (by decide)
 have aH:q2.pos<A.length:=ah
 go_wp2_with fail
 refine (zbe (Cx.mk A j false) K E o (.ok (adv q2)) S2 (adv q2) (-1) d true _ (zX _) ((av.out.adv ah).set D.out 1 _)).mono ?_
 rintro e w4 ⟨Z,q4,z4,n4,rfl,i4,m4,s4⟩
 replace z:=zc ((z.out.set_other (by omega) 1 _).stp s4)
 replace n:=zc ((n.out.set_other (by omega) 1 _).stp s4)
 replace D:=zc ((D.out.at1 _).stp s4)
 have aa:Hid (SB w.heap.size S w Z w4):=(ap.out.set (by omega) 1 _).step s4
 clear ap
 have J:=zc m4
 have Q:=zc i4
 clear i4 m4 s4 av
 clear c0 c1 c2 c3 c4 c5 c6 c7 c8 c9 aE ay cf
 have aJ:w.heap.size+1<w4.heap.size:=n.out.lt
 have ax:w2.heap.size<w4.heap.size:=D.out.lt
 cases hc:(decide (z4<0)&&isT (Cx.mk A j false) q4.pos 4 zn) with
 |true=>
  unfold pv
  go_wp2_with fail
  refine (zh (Cx.mk A j false) K E o Z q4 z4 d 4 zn _ (J.out.alloc _).tok L (by decide)).mono ?_
  rintro e w5 ⟨rfl,H⟩
  rw[hc]
  replace z:=zc ((z.out.alloc _).below H)
  replace n:=zc ((n.out.alloc _).below H)
  replace D:=zc ((D.out.alloc _).below H)
  replace I:=zc ((Bx.new J.out _).below H)
  have U:Hid (SB w.heap.size S w Z w5):=(aa.out.alloc _).below H
  have V:Hid (Mem (Cx.mk A j false) K E o Z q4 w5):=(J.out.alloc _).later H
  clear H aa J
  obtain⟨d0,d1,d2,d3,d4,d5,d6,d7,d8,d9,O,X,df⟩:=I.out.box
  go_wp2_with fail
  refine (zad (Cx.mk A j false) K E o _ Z q4 z4 d zn _ Q.out.fst V.out).mono ?_
  rintro e w6 ⟨S6,q6,z6,rfl,i6,m6,M⟩
  replace z:=zc (z.out.stp M)
  replace n:=zc (n.out.stp M)
  replace D:=zc (D.out.stp M)
  replace I:=zc (I.out.stp M)
  have ac:=zc (U.out.step M)
  clear U
  have ab:=zc m6
  have ae:=zc i6
  clear i6 m6 M V
  clear d0 d1 d2 d3 d4 d5 d6 d7 d8 d9 O X df
  go_wp2_with fail
  refine (zad (Cx.mk A j false) K E o _ S6 q6 z6 d za0 _ ae.out ab.out).mono ?_
  rintro e w7 ⟨S7,q7,z7,rfl,i7,m7,s7⟩
  replace z:=zc (z.out.stp s7)
  replace n:=zc (n.out.stp s7)
  replace D:=zc (D.out.stp s7)
  replace I:=zc (I.out.stp s7)
  have ak:=zc (ac.out.step s7)
  clear ac
  have aw:=zc m7
  have ai:=zc i7
  clear i7 m7 s7 ab
  obtain⟨d0,d1,d2,d3,d4,d5,d6,d7,d8,d9,O,X,df⟩:=I.out.box
  unfold pv
  go_wp2_with fail
  refine (zcK (Cx.mk A j false) K E o _ S7 q7 z7 d ⟨5,0,n2,n4,0,0⟩ _ ai.out (aw.out.put I.out ..) (zbh ai.out)).mono ?_
  rintro e w8 ⟨S8,q8,z8,rfl,i8,m8,s8⟩
  replace z:=zc ((z.out.other (by omega) ..).stp s8)
  replace n:=zc ((n.out.other (by omega) ..).stp s8)
  replace D:=zc ((D.out.other (by omega) ..).stp s8)
  replace I:=zc ((I.out.put ..).stp s8)
  have aG:Hid (SB w.heap.size S w S8 w8):=(ak.out.put (by omega) ..).step s8
  clear ak
  have aA:=zc m8
  have aD:=zc i8
  clear i8 m8 s8 aw
  clear d0 d1 d2 d3 d4 d5 d6 d7 d8 d9 O X df
  obtain⟨b0,b1,b2,b3,b4,b5,b6,b7,b8,b9,az,aB,bf⟩:=n.out.box
  unfold pv
  go_wp2
  refine bodyPost_ret (results_cell_row rfl _ _ (w.heap.size+1) 53 _ (0,0) _ rfl ((n.out.put ..)).heap Tryz.underlying53 rfl (by kernel_rfl)) rfl ?_
  rw[HV.out,←HQ.out,←ar.out,←zi8 Q.out hc]
  exact zY rfl aD.out (aA.out.put n.out ..) (aG.out.put (by omega) ..)
 |false=>
  unfold pv
  go_wp2_with fail
  refine (zh (Cx.mk A j false) K E o Z q4 z4 d 4 zn _ (J.out.alloc _).tok L (by decide)).mono ?_
  rintro e w5 ⟨rfl,H⟩
  rw[hc]
  replace z:=zc ((z.out.alloc _).below H)
  replace n:=zc ((n.out.alloc _).below H)
  replace D:=zc ((D.out.alloc _).below H)
  replace I:=zc ((Bx.new J.out _).below H)
  have U:Hid (SB w.heap.size S w Z w5):=(aa.out.alloc _).below H
  have V:Hid (Mem (Cx.mk A j false) K E o Z q4 w5):=(J.out.alloc _).later H
  clear H aa J
  obtain⟨d0,d1,d2,d3,d4,d5,d6,d7,d8,d9,O,X,df⟩:=I.out.box
  go_wp2_with fail
  refine (zcK (Cx.mk A j false) K E o _ Z q4 z4 d ⟨4,0,n2,n4,0,0⟩ _ Q.out.fst V.out (ziA Q.out)).mono ?_
  rintro e w6 ⟨S6,q6,z6,rfl,i6,m6,M⟩
  replace z:=zc (z.out.stp M)
  replace n:=zc (n.out.stp M)
  replace D:=zc (D.out.stp M)
  replace I:=zc (I.out.stp M)
  have ac:=zc (U.out.step M)
  clear U
  have ab:=zc m6
  have ae:=zc i6
  clear i6 m6 M V
  clear d0 d1 d2 d3 d4 d5 d6 d7 d8 d9 O X df
  obtain⟨b0,b1,b2,b3,b4,b5,b6,b7,b8,b9,az,aB,bf⟩:=n.out.box
  unfold pv
  go_wp2
  refine bodyPost_ret (results_cell_row rfl _ _ (w.heap.size+1) 53 _ (0,0) _ rfl ((n.out.put ..)).heap Tryz.underlying53 rfl (by kernel_rfl)) rfl ?_
  rw[HV.out,←HQ.out,←ar.out,←zi9 Q.out hc]
  exact zY rfl ae.out (ab.out.put n.out ..) (ac.out.put (by omega) ..)
def zgE (C:Cx) (gt cap base m:Nat):Prop:=∀(x:PR) (S:Sv) (q:PS) (z:Int) (d:Nat) (w:World),Is x q z→Mem C gt cap base S q w→(z<0→C.ts.length-q.pos<m)→d≤20→
 Calls Tryz.prog 168 #[pv C gt cap S q z d] w (Out C gt cap base (bd x (pE C .part d)) d S w)
def ziD (C:Cx) (gt cap base m:Nat):Prop:=∀(x:PR) (S:Sv) (q:PS) (z:Int) (d:Nat) (w:World),Is x q z→Mem C gt cap base S q w→(z<0→C.ts.length-q.pos<m)→d≤20→
 Calls Tryz.prog 136 #[pv C gt cap S q z d] w (Out C gt cap base (bd x (pE C .prod d)) d S w)
theorem SumOK.mono {C:Cx} {o n j m k:Nat} (h:SumOK C o n j m) (D:k≤m):SumOK C o n j k:=fun x S q z d w I E H A=>h x S q z d w I E (fun g=>Nat.lt_of_lt_of_le (H g) D) A
theorem znq {C:Cx} {D n j m:Nat} (X:SumOK C D n j m):zgE C D n j (m+1):=by
 intro x S q z d w V E Y K
 by_cases O:z<0
 ·obtain⟨rfl,rfl⟩:=zaC V O
  rw[zz]
  have Q:SumOK C D n j (C.ts.length-q.pos):=X.mono (by have:=Y O;omega)
  cases H:((ze C q.pos).kind==2) with
  |true=>exact zne C D n j S q d w E H
  |false=>
   cases J:isT C q.pos 4 zn with
   |true=>
    by_cases U:20≤d
    ·exact znf C D n j S q d w E H J U K
    ·exact zng C D n j S q d w E H J (by omega) Q
   |false=>
    obtain⟨A,o,M⟩:=C
    cases M with
    |true=>
     by_cases I:q.pos<A.length
     ·cases N:isT (Cx.mk A o true) q.pos 1 za7 with
      |true=>exact znj A o D n j S q d w E H J I N
      |false=>
       cases L:zD (Cx.mk A o true) q.pos false with
       |false=>exact zni A o D n j S q d w E H J I N L
       |true=>
        cases K:isT (Cx.mk A o true) (q.pos+1) 4 cPoint with
        |false=>exact znk A o D n j S q d w E H J I N L K
        |true=>exact znl A o D n j S q d w E H J I N L K
     ·exact znh A o D n j S q d w E I
    |false=>
     by_cases I:q.pos<A.length
     ·cases L:zD (Cx.mk A o false) q.pos false with
      |false=>exact znn A o D n j S q d w E H J I L
      |true=>
       cases K:isT (Cx.mk A o false) (q.pos+1) 4 cPoint with
       |false=>exact zno A o D n j S q d w E H J I L K
       |true=>exact znp A o D n j S q d w E H J I L K
     ·exact znm A o D n j S q d w E I
 ·obtain⟨e,rfl,rfl⟩:=zdc V O
  rw[zdU]
  obtain⟨A,o,M⟩:=C
  cases M with
  |true=>exact ziB A o D n j S q d w E e
  |false=>exact ziC A o D n j S q d w E e
theorem zgF {C:Cx} {x:PR} {q:PS} {z:Int} (h:Is x q z) (F:PS→Ex):bd x (zN C (F q))=bd x fun q'=>zN C (F q') q':=by
 cases x with
 |ok a=>obtain⟨rfl,_⟩:=h;rfl
 |error e=>rfl
theorem ziE {C:Cx} {y:PS→Ex} {x:PR} {q:PS} {n:Nat} (j: ∀a,x= .ok a→n≤a.pos) (h:(bd x fun q'=>zN C (y q') q')= .ok q):n≤q.pos:=by
 obtain⟨a,z,o⟩:=zf h
 obtain⟨rfl,_⟩:=zb5 o
 exact j a z
theorem znr {C:Cx} {d m:Nat} {x:PR} {q j:PS} {z n:Int} (A:Is x q z) (I:Is (bd x (pE C .part d)) j n) (D:z<0→C.ts.length-q.pos<m) (E:n<0):C.ts.length-j.pos<m:=by
 obtain⟨e,_⟩:=zaC I E
 obtain⟨a,o,H⟩:=zf e
 subst o
 obtain⟨rfl,rfl⟩:=A
 have:=zaY H
 have:=D (by decide)
 omega
theorem zns {C:Cx} {d m:Nat} {x:PR} {q j:PS} {z n:Int} (A:Is x q z) (I:Is (bd x (pE C .prod d)) j n) (D:z<0→C.ts.length-q.pos<m) (E:n<0):C.ts.length-j.pos<m:=by
 obtain⟨e,_⟩:=zaC I E
 obtain⟨a,o,H⟩:=zf e
 subst o
 obtain⟨rfl,rfl⟩:=A
 have:=zaY H
 have:=D (by decide)
 omega
theorem znt {C:Cx} {d:Nat} {j q:PS} {z:Int} (h:Is (bd (.ok (adv j)) (pE C .part d)) q z) (n:z<0):1≤q.pos:=by
 obtain⟨e,_⟩:=zaC h n
 have:=zaY (show pE C .part d (adv j)= .ok q from e)
 rw[zx] at this
 omega
theorem ziF {C:Cx} {d:Nat} {j q:PS} {z:Int} (h:Is (bd (.ok (adv j)) (pE C .prod d)) q z) (n:z<0):1≤q.pos:=by
 obtain⟨e,_⟩:=zaC h n
 have:=zaY (show pE C .prod d (adv j)= .ok q from e)
 rw[zx] at this
 omega
theorem znu {C:Cx} {d:Nat} {F:PS→Ex} {j q:PS} {z:Int} (h:Is (bd (bd (.ok (adv j)) (pE C .part d)) fun q'=>zN C (F q') q') q z) (o:z<0):j.pos+1≤q.pos:=by
 obtain⟨e,_⟩:=zaC h o
 exact ziE (fun a n=>by have:=zaY (show pE C .part d (adv j)= .ok a from n);rw[zx] at this;exact this) e
theorem ziG {C:Cx} {d:Nat} {F:PS→Ex} {j q:PS} {z:Int} (h:Is (bd (bd (.ok (adv j)) (pE C .prod d)) fun q'=>zN C (F q') q') q z) (o:z<0):j.pos+1≤q.pos:=by
 obtain⟨e,_⟩:=zaC h o
 exact ziE (fun a n=>by have:=zaY (show pE C .prod d (adv j)= .ok a from n);rw[zx] at this;exact this) e
theorem znv {C:Cx} {d:Nat} {q:PS} (j:isT C q.pos 4 zw=true) (_:q.pos<C.ts.length):
  bd (.ok q) (pE C .prodT d)=bd (bd (bd (.ok (adv q)) (pE C .part d)) fun q'=>zN C ⟨8,0,sNone,sNone,(q.ex.length:Int)-1,(q'.ex.length:Int)-1⟩ q') (pE C .prodT d):=by
 show pE C .prodT d q=_
 rw[zfo,if_pos j]
 rfl
theorem ziH {C:Cx} {d:Nat} {q:PS} {k:Int} (j:(isT C q.pos 4 zbU||isT C q.pos 4 zbb)=true) (n:zcY C q.pos=k) (_:q.pos<C.ts.length):
  bd (.ok q) (pE C .sumT d)=bd (bd (bd (.ok (adv q)) (pE C .prod d)) fun q'=>zN C ⟨k,0,sNone,sNone,(q.ex.length:Int)-1,(q'.ex.length:Int)-1⟩ q') (pE C .sumT d):=by
 show pE C .sumT d q=_
 rw[ze7,if_pos j,n]
 rfl
theorem znw {C:Cx} {d:Nat} {x:PR} {q:PS} {z:Int} (j:Is x q z) (n:(decide (z<0)&&isT C q.pos 4 zw)=false):Is (bd x (pE C .prodT d)) q z:=by
 cases x with
 |ok a=>
  obtain⟨rfl,rfl⟩:=j
  rw[Bool.and_eq_false_iff] at n
  rw[zz,zfo,n.resolve_left (by decide)]
  exact⟨rfl,rfl⟩
 |error e=>exact j
theorem znx {C:Cx} {d:Nat} {x:PR} {q:PS} {z:Int} (n:Is x q z) (o:(decide (z<0)&&isT C q.pos 4 zbU)=false) (j:(decide (z<0)&&isT C q.pos 4 zbb)=false):Is (bd x (pE C .sumT d)) q z:=by
 cases x with
 |ok a=>
  obtain⟨rfl,rfl⟩:=n
  rw[Bool.and_eq_false_iff] at o j
  rw[zz,ze7,o.resolve_left (by decide),j.resolve_left (by decide)]
  exact⟨rfl,rfl⟩
 |error e=>exact n
theorem zny {C:Cx} {i:Nat} (h:isT C i 4 zbU=true):isT C i 4 zbb=false:=by
 simp only[isT,Bool.and_eq_true,beq_iff_eq] at h
 simp only[isT,h.2]
 rw[Bool.and_eq_false_iff]
 exact .inr (by simp)
theorem ziI {C:Cx} {M H D m:Nat} (hP:zgE C M H D m):ziD C M H D m:=by
 intro x S q z d w hx hm hl ad
 have HP:=zc hP
 have HM:=zc hm
 have HX:=zc hx
 have HL:=zc hl
 have ag:=hm.few
 clear hP hm hx hl
 unfold pv
 go_enter Tryz.func136,Tryz.ntmps136
 go_wp2_with fail
 refine (HP.out x S q z d _ HX.out ((HM.out.alloc _).alloc _) HL.out ad).mono ?_
 rintro e w1 ⟨S1,q1,z1,rfl,i1,m1,s1⟩
 obtain⟨X0,X1,t1⟩:=HM.out.two2 s1
 have j:=zc X0
 have n:=zc X1
 have ap:=zc m1
 have au:=zc t1
 have ak:=zc i1
 clear X0 X1 i1 m1 t1 s1
 obtain⟨V,X,L,U,a4,N,Y,a7,Z,a9,o,A,O⟩:=j.out.box
 unfold pv
 go_wp2
 go_loopg [] (C.ts.length+1) (fun k wr=>∃(x':PR) (I:Sv) (J:PS) (z':Int),Is x' J z'∧bd x' (pE C .prodT d)=bd x (pE C .prod d)∧(z'<0→C.ts.length-J.pos<k)∧(z'<0→C.ts.length-J.pos<m)∧Mem C M H D I J wr∧SB w.heap.size S w I wr∧Bx M I wr w.heap.size #[.slice (some ⟨M,0,none⟩) C.ts.length H,.int .i64 J.pos,.int .i64 C.fin,.bool C.scr,.slice I.rq.a J.rq.length I.rq.cap,.slice I.im.a J.im.length I.im.cap,.slice I.ep.a J.ep.length I.ep.cap,.slice I.st.a J.st.length I.st.cap,.slice I.ex.a J.ex.length I.ex.cap,.slice I.la.a J.la.length I.la.cap,.int .i64 z',.int .i64 d]∧Bx M I wr (w.heap.size+1) #[.slice none 0 0,.int .i64 0,.int .i64 0,.bool false,.slice none 0 0,.slice none 0 0,.slice none 0 0,.slice none 0 0,.slice none 0 0,.slice none 0 0,.int .i64 0,.int .i64 0])
 case atStart=>exact⟨_,S1,q1,z1,ak.out,by rw[zM];exact zab fun a _=>(zhD C d a).symm,fun _=>by omega,fun hz=>znr HX.out ak.out HL.out hz,(ap.out.put j.out ..),(au.out.put (by omega) ..),(j.out.put ..),(n.out.other (by omega) ..)⟩
 case round=>
  obtain⟨x2,S2,Q,z2,i2,e2,l2,b2,m2,t2,X0,X1⟩:=hrel
  have j:=zc X0
  have n:=zc X1
  have K:=zc m2
  have ab:=zc t2
  have aj:=zc i2
  have al:=zc e2
  have aw:=zc l2
  have aq:=zc b2
  have az:=m2.inv.ex
  clear X0 X1 i2 m2 t2 e2 l2 b2
  cases hc:(decide (z2<0)&&isT C Q.pos 4 zw) with
  |true=>
   obtain⟨V,X,L,U,a4,N,Y,a7,Z,a9,o,A,O⟩:=j.out.box
   go_wp2_with fail
   refine (zh C M H D S2 Q z2 d 4 zw _ K.out.tok ag (by decide)).mono ?_
   rintro e w3 ⟨rfl,E⟩
   rw[hc]
   replace j:=zc (j.out.below E)
   replace n:=zc (n.out.below E)
   have aa:=zc (ab.out.below E)
   have ac:=zc (K.out.later E)
   clear E ab K
   clear V X L U a4 N Y a7 Z a9 o A O
   rw[Bool.and_eq_true,decide_eq_true_eq] at hc
   obtain⟨hz,hs⟩:=hc
   have hp:Q.pos<C.ts.length:=za1 hs (by decide)
   obtain⟨rfl,rfl⟩:=zaC aj.out hz
   have aB:=aw.out hz
   have aD:=aq.out hz
   skip
   obtain⟨V,X,L,U,a4,N,Y,a7,Z,a9,o,A,O⟩:=j.out.box
   go_wp2_with fail
   refine (HP.out (.ok (adv Q)) S2 (adv Q) (-1) d _ (zX _) ((ac.out.adv hp).set j.out 1 _) (fun _=>by rw[zx];omega) ad).mono ?_
   rintro e w4 ⟨S4,q4,z4,rfl,i4,m4,s4⟩
   replace j:=zc ((j.out.at1 _).stp s4)
   replace n:=zc ((n.out.set_other (by omega) 1 _).stp s4)
   have am:Hid (SB w.heap.size S w S4 w4):=(aa.out.set (by omega) 1 _).step s4
   clear aa
   have ao:=zc m4
   have ah:=zc i4
   clear i4 m4 s4 ac
   clear V X L U a4 N Y a7 Z a9 o A O
   obtain⟨V,X,L,U,a4,N,Y,a7,Z,a9,o,A,O⟩:=j.out.box
   unfold pv
   go_upto_region 6 with fail
   refine zL (R:=fun W=>Bx M S4 W (w.heap.size) _∧Bx M S4 W (w.heap.size+1) _∧Mem C M H D S4 q4 W∧SB w.heap.size S w S4 W) ⟨(j.out.put ..),(n.out.other (by omega) ..),(ao.out.put j.out ..),(am.out.put (by omega) ..)⟩ ?_
   clear V X L U a4 N Y a7 Z a9 o A O
   clear j n am ao
   rintro w5 ⟨X0,X1,m5,t5⟩
   have j:=zc X0
   have n:=zc X1
   have ai:=zc m5
   have an:=zc t5
   clear m5 t5 X0 X1
   obtain⟨V,X,L,U,a4,N,Y,a7,Z,a9,o,A,O⟩:=j.out.box
   have ay:=ai.out.inv.ex
   go_wp2_with fail
   refine (zcK C M H D _ S4 q4 z4 d ⟨8,0,sNone,sNone,(Q.ex.length:Int)-1,(q4.ex.length:Int)-1⟩ _ ah.out ai.out (fun h=>znt ah.out h)).mono ?_
   rintro e w6 ⟨S6,q6,z6,rfl,i6,m6,s6⟩
   replace j:=zc (j.out.stp s6)
   replace n:=zc (n.out.stp s6)
   have ax:=zc (an.out.step s6)
   clear an
   have av:=zc m6
   have ar:=zc i6
   clear i6 m6 s6 ai
   clear V X L U a4 N Y a7 Z a9 o A O
   have HI:Hid (Is (bd (bd (.ok (adv Q)) (pE C .part d)) fun J=>zN C ⟨8,0,sNone,sNone,(Q.ex.length:Int)-1,(J.ex.length:Int)-1⟩ J) q6 z6):=by rw[←zgF ah.out (fun J=>⟨8,0,sNone,sNone,(Q.ex.length:Int)-1,(J.ex.length:Int)-1⟩)];exact ar.out
   have ae:Hid (z6<0→Q.pos+1≤q6.pos):=fun h=>znu HI.out h
   obtain⟨V,X,L,U,a4,N,Y,a7,Z,a9,o,A,O⟩:=j.out.box
   unfold pv
   go_wp2
   go_roundg (gk-1)
   case rel=>exact⟨_,S6,q6,z6,HI.out,by rw[←al.out];exact (znv (d:=d) hs hp).symm,fun h=>by have:=ae.out h;omega,fun h=>by have:=ae.out h;omega,(av.out.put j.out ..),(ax.out.put (by omega) ..),(j.out.put ..),(n.out.other (by omega) ..)⟩
   case measure=>omega
  |false=>
   obtain⟨V,X,L,U,a4,N,Y,a7,Z,a9,o,A,O⟩:=j.out.box
   go_wp2_with fail
   refine (zh C M H D S2 Q z2 d 4 zw _ K.out.tok ag (by decide)).mono ?_
   rintro e w3 ⟨rfl,E⟩
   rw[hc]
   replace j:=zc (j.out.below E)
   replace n:=zc (n.out.below E)
   have aa:=zc (ab.out.below E)
   have ac:=zc (K.out.later E)
   clear E ab K
   clear V X L U a4 N Y a7 Z a9 o A O
   obtain⟨V,X,L,U,a4,N,Y,a7,Z,a9,o,A,O⟩:=j.out.box
   obtain⟨b0,b1,b2,b3,b4,b5,b6,b7,b8,b9,aA,aC,bf⟩:=n.out.box
   go_wp2
   refine bodyPost_ret (results_cell_row rfl _ _ (w.heap.size+1) 53 _ (0,0) _ rfl ((n.out.put ..)).heap Tryz.underlying53 rfl (by kernel_rfl)) rfl ?_
   exact zY rfl (show Is (bd x (pE C .prod d)) Q z2 from by rw[←al.out];exact znw aj.out hc) (ac.out.put n.out ..) (aa.out.put (by omega) ..)
theorem ziJ {C:Cx} {gt I D m:Nat} (hP:ziD C gt I D m):SumOK C gt I D m:=by
 intro x S q z d w hx hm hl ak
 have HP:=zc hP
 have HM:=zc hm
 have HX:=zc hx
 have HL:=zc hl
 have ab:=hm.few
 clear hP hm hx hl
 unfold pv
 go_enter Tryz.func75,Tryz.ntmps75
 go_wp2_with fail
 refine (HP.out x S q z d _ HX.out ((HM.out.alloc _).alloc _) HL.out ak).mono ?_
 rintro e w1 ⟨S1,q1,z1,rfl,i1,m1,s1⟩
 obtain⟨X0,X1,t1⟩:=HM.out.two2 s1
 have j:=zc X0
 have n:=zc X1
 have aD:=zc m1
 have aH:=zc t1
 have aA:=zc i1
 clear X0 X1 i1 m1 t1 s1
 obtain⟨N,O,J,M,Y,K,Q,V,U,X,o,A,L⟩:=j.out.box
 unfold pv
 go_wp2
 go_loopg [] (C.ts.length+1) (fun k wr=>∃(x':PR) (S':Sv) (q':PS) (z':Int),Is x' q' z'∧bd x' (pE C .sumT d)=bd x (pE C .sum d)∧(z'<0→C.ts.length-q'.pos<k)∧(z'<0→C.ts.length-q'.pos<m)∧Mem C gt I D S' q' wr∧SB w.heap.size S w S' wr∧Bx gt S' wr w.heap.size #[.slice (some ⟨gt,0,none⟩) C.ts.length I,.int .i64 q'.pos,.int .i64 C.fin,.bool C.scr,.slice S'.rq.a q'.rq.length S'.rq.cap,.slice S'.im.a q'.im.length S'.im.cap,.slice S'.ep.a q'.ep.length S'.ep.cap,.slice S'.st.a q'.st.length S'.st.cap,.slice S'.ex.a q'.ex.length S'.ex.cap,.slice S'.la.a q'.la.length S'.la.cap,.int .i64 z',.int .i64 d]∧Bx gt S' wr (w.heap.size+1) #[.slice none 0 0,.int .i64 0,.int .i64 0,.bool false,.slice none 0 0,.slice none 0 0,.slice none 0 0,.slice none 0 0,.slice none 0 0,.slice none 0 0,.int .i64 0,.int .i64 0])
 case atStart=>exact⟨_,S1,q1,z1,aA.out,by rw[zM];exact zab fun a _=>(zhC C d a).symm,fun _=>by omega,fun hz=>zns HX.out aA.out HL.out hz,(aD.out.put j.out ..),(aH.out.put (by omega) ..),(j.out.put ..),(n.out.other (by omega) ..)⟩
 case round=>
  obtain⟨x2,S2,H,z2,i2,e2,l2,b2,m2,t2,X0,X1⟩:=hrel
  have j:=zc X0
  have n:=zc X1
  have ai:=zc m2
  have ar:=zc t2
  have av:=zc i2
  have ax:=zc e2
  have aB:=zc l2
  have az:=zc b2
  have aL:=m2.inv.ex
  clear X0 X1 i2 m2 t2 e2 l2 b2
  cases hc:(decide (z2<0)&&isT C H.pos 4 zbU) with
  |true=>
   obtain⟨N,O,J,M,Y,K,Q,V,U,X,o,A,L⟩:=j.out.box
   go_wp2_with fail
   refine (zh C gt I D S2 H z2 d 4 zbU _ ai.out.tok ab (by decide)).mono ?_
   rintro e w3 ⟨rfl,Z⟩
   rw[hc]
   replace j:=zc (j.out.below Z)
   replace n:=zc (n.out.below Z)
   have ag:=zc (ar.out.below Z)
   have aa:=zc (ai.out.later Z)
   clear Z ar ai
   clear N O J M Y K Q V U X o A L
   rw[Bool.and_eq_true,decide_eq_true_eq] at hc
   obtain⟨hz,hs⟩:=hc
   have aC:isT C H.pos 4 zbb=false:=zny hs
   have ac:(decide (z2<0)&&isT C H.pos 4 zbb)=false:=by rw[aC,Bool.and_false]
   obtain⟨N,O,J,M,Y,K,Q,V,U,X,o,A,L⟩:=j.out.box
   go_wp2_with fail
   refine (zh C gt I D S2 H z2 d 4 zbb _ aa.out.tok ab (by decide)).mono ?_
   rintro e w4 ⟨rfl,E⟩
   rw[ac]
   replace j:=zc (j.out.below E)
   replace n:=zc (n.out.below E)
   have ah:=zc (ag.out.below E)
   have ae:=zc (aa.out.later E)
   clear E ag aa
   clear N O J M Y K Q V U X o A L
   clear ac
   have hp:H.pos<C.ts.length:=za1 hs (by decide)
   obtain⟨rfl,rfl⟩:=zaC av.out hz
   have aG:=aB.out hz
   have aI:=az.out hz
   skip
   obtain⟨N,O,J,M,Y,K,Q,V,U,X,o,A,L⟩:=j.out.box
   go_wp2_with fail
   refine (HP.out (.ok (adv H)) S2 (adv H) (-1) d _ (zX _) ((ae.out.adv hp).set j.out 1 _) (fun _=>by rw[zx];omega) ak).mono ?_
   rintro e w5 ⟨S5,q5,z5,rfl,i5,m5,s5⟩
   replace j:=zc ((j.out.at1 _).stp s5)
   replace n:=zc ((n.out.set_other (by omega) 1 _).stp s5)
   have am:Hid (SB w.heap.size S w S5 w5):=(ah.out.set (by omega) 1 _).step s5
   clear ah
   have an:=zc m5
   have au:=zc i5
   clear i5 m5 s5 ae
   clear N O J M Y K Q V U X o A L
   obtain⟨N,O,J,M,Y,K,Q,V,U,X,o,A,L⟩:=j.out.box
   unfold pv
   go_upto_region 9 with fail
   refine zL (R:=fun W=>Bx gt S5 W (w.heap.size) _∧Bx gt S5 W (w.heap.size+1) _∧Mem C gt I D S5 q5 W∧SB w.heap.size S w S5 W) ⟨(j.out.put ..),(n.out.other (by omega) ..),(an.out.put j.out ..),(am.out.put (by omega) ..)⟩ ?_
   clear N O J M Y K Q V U X o A L
   clear j n am an
   rintro w6 ⟨X0,X1,m6,t6⟩
   have j:=zc X0
   have n:=zc X1
   have aj:=zc m6
   have ao:=zc t6
   clear m6 t6 X0 X1
   obtain⟨N,O,J,M,Y,K,Q,V,U,X,o,A,L⟩:=j.out.box
   have ay:=aj.out.inv.ex
   go_wp2_with fail
   refine (zcK C gt I D _ S5 q5 z5 d ⟨6,0,sNone,sNone,(H.ex.length:Int)-1,(q5.ex.length:Int)-1⟩ _ au.out aj.out (fun h=>ziF au.out h)).mono ?_
   rintro e w7 ⟨S7,q7,z7,rfl,i7,m7,s7⟩
   replace j:=zc (j.out.stp s7)
   replace n:=zc (n.out.stp s7)
   have aq:=zc (ao.out.step s7)
   clear ao
   have ap:=zc m7
   have aE:=zc i7
   clear i7 m7 s7 aj
   clear N O J M Y K Q V U X o A L
   have HI:Hid (Is (bd (bd (.ok (adv H)) (pE C .prod d)) fun q'=>zN C ⟨6,0,sNone,sNone,(H.ex.length:Int)-1,(q'.ex.length:Int)-1⟩ q') q7 z7):=by rw[←zgF au.out (fun q'=>⟨6,0,sNone,sNone,(H.ex.length:Int)-1,(q'.ex.length:Int)-1⟩)];exact aE.out
   have ad:Hid (z7<0→H.pos+1≤q7.pos):=fun h=>ziG HI.out h
   obtain⟨N,O,J,M,Y,K,Q,V,U,X,o,A,L⟩:=j.out.box
   unfold pv
   go_wp2
   go_roundg (gk-1)
   case rel=>exact⟨_,S7,q7,z7,HI.out,by rw[←ax.out];exact (ziH (d:=d) (by rw[hs];rfl) (show zcY C H.pos=6 by rw[zcY,aC];rfl) hp).symm,fun h=>by have:=ad.out h;omega,fun h=>by have:=ad.out h;omega,(ap.out.put j.out ..),(aq.out.put (by omega) ..),(j.out.put ..),(n.out.other (by omega) ..)⟩
   case measure=>omega
  |false=>
   obtain⟨N,O,J,M,Y,K,Q,V,U,X,o,A,L⟩:=j.out.box
   go_wp2_with fail
   refine (zh C gt I D S2 H z2 d 4 zbU _ ai.out.tok ab (by decide)).mono ?_
   rintro e w3 ⟨rfl,Z⟩
   rw[hc]
   replace j:=zc (j.out.below Z)
   replace n:=zc (n.out.below Z)
   have ag:=zc (ar.out.below Z)
   have aa:=zc (ai.out.later Z)
   clear Z ar ai
   clear N O J M Y K Q V U X o A L
   cases ac:(decide (z2<0)&&isT C H.pos 4 zbb) with
   |true=>
    obtain⟨N,O,J,M,Y,K,Q,V,U,X,o,A,L⟩:=j.out.box
    go_wp2_with fail
    refine (zh C gt I D S2 H z2 d 4 zbb _ aa.out.tok ab (by decide)).mono ?_
    rintro e w4 ⟨rfl,E⟩
    rw[ac]
    replace j:=zc (j.out.below E)
    replace n:=zc (n.out.below E)
    have ah:=zc (ag.out.below E)
    have ae:=zc (aa.out.later E)
    clear E ag aa
    clear N O J M Y K Q V U X o A L
    obtain⟨N,O,J,M,Y,K,Q,V,U,X,o,A,L⟩:=j.out.box
    go_wp2_with fail
    refine (zh C gt I D S2 H z2 d 4 zbb _ ae.out.tok ab (by decide)).mono ?_
    rintro e w5 ⟨rfl,al⟩
    rw[ac]
    replace j:=zc (j.out.below al)
    replace n:=zc (n.out.below al)
    have am:=zc (ah.out.below al)
    have an:=zc (ae.out.later al)
    clear al ah ae
    clear N O J M Y K Q V U X o A L
    rw[Bool.and_eq_true,decide_eq_true_eq] at ac
    obtain⟨hz,hs⟩:=ac
    have hp:H.pos<C.ts.length:=za1 hs (by decide)
    obtain⟨rfl,rfl⟩:=zaC av.out hz
    have aG:=aB.out hz
    have aI:=az.out hz
    skip
    obtain⟨N,O,J,M,Y,K,Q,V,U,X,o,A,L⟩:=j.out.box
    go_wp2_with fail
    refine (HP.out (.ok (adv H)) S2 (adv H) (-1) d _ (zX _) ((an.out.adv hp).set j.out 1 _) (fun _=>by rw[zx];omega) ak).mono ?_
    rintro e w6 ⟨S6,q6,z6,rfl,i6,m6,s6⟩
    replace j:=zc ((j.out.at1 _).stp s6)
    replace n:=zc ((n.out.set_other (by omega) 1 _).stp s6)
    have ao:Hid (SB w.heap.size S w S6 w6):=(am.out.set (by omega) 1 _).step s6
    clear am
    have aj:=zc m6
    have aw:=zc i6
    clear i6 m6 s6 an
    clear N O J M Y K Q V U X o A L
    obtain⟨N,O,J,M,Y,K,Q,V,U,X,o,A,L⟩:=j.out.box
    unfold pv
    go_upto_region 9 with fail
    refine zL (R:=fun W=>Bx gt S6 W (w.heap.size) _∧Bx gt S6 W (w.heap.size+1) _∧Mem C gt I D S6 q6 W∧SB w.heap.size S w S6 W) ⟨(j.out.put ..),(n.out.other (by omega) ..),(aj.out.put j.out ..),(ao.out.put (by omega) ..)⟩ ?_
    clear N O J M Y K Q V U X o A L
    clear j n ao aj
    rintro w7 ⟨X0,X1,m7,t7⟩
    have j:=zc X0
    have n:=zc X1
    have ap:=zc m7
    have aq:=zc t7
    clear m7 t7 X0 X1
    obtain⟨N,O,J,M,Y,K,Q,V,U,X,o,A,L⟩:=j.out.box
    have ay:=ap.out.inv.ex
    go_wp2_with fail
    refine (zcK C gt I D _ S6 q6 z6 d ⟨7,0,sNone,sNone,(H.ex.length:Int)-1,(q6.ex.length:Int)-1⟩ _ aw.out ap.out (fun h=>ziF aw.out h)).mono ?_
    rintro e w8 ⟨S8,q8,z8,rfl,i8,m8,s8⟩
    replace j:=zc (j.out.stp s8)
    replace n:=zc (n.out.stp s8)
    have aK:=zc (aq.out.step s8)
    clear aq
    have aF:=zc m8
    have aJ:=zc i8
    clear i8 m8 s8 ap
    clear N O J M Y K Q V U X o A L
    have HI:Hid (Is (bd (bd (.ok (adv H)) (pE C .prod d)) fun q'=>zN C ⟨7,0,sNone,sNone,(H.ex.length:Int)-1,(q'.ex.length:Int)-1⟩ q') q8 z8):=by rw[←zgF aw.out (fun q'=>⟨7,0,sNone,sNone,(H.ex.length:Int)-1,(q'.ex.length:Int)-1⟩)];exact aJ.out
    have ad:Hid (z8<0→H.pos+1≤q8.pos):=fun h=>ziG HI.out h
    obtain⟨N,O,J,M,Y,K,Q,V,U,X,o,A,L⟩:=j.out.box
    unfold pv
    go_wp2
    go_roundg (gk-1)
    case rel=>exact⟨_,S8,q8,z8,HI.out,by rw[←ax.out];exact (ziH (d:=d) (by rw[hs,Bool.or_true]) (show zcY C H.pos=7 by rw[zcY,hs];rfl) hp).symm,fun h=>by have:=ad.out h;omega,fun h=>by have:=ad.out h;omega,(aF.out.put j.out ..),(aK.out.put (by omega) ..),(j.out.put ..),(n.out.other (by omega) ..)⟩
    case measure=>omega
   |false=>
    obtain⟨N,O,J,M,Y,K,Q,V,U,X,o,A,L⟩:=j.out.box
    go_wp2_with fail
    refine (zh C gt I D S2 H z2 d 4 zbb _ aa.out.tok ab (by decide)).mono ?_
    rintro e w4 ⟨rfl,E⟩
    rw[ac]
    replace j:=zc (j.out.below E)
    replace n:=zc (n.out.below E)
    have ah:=zc (ag.out.below E)
    have ae:=zc (aa.out.later E)
    clear E ag aa
    clear N O J M Y K Q V U X o A L
    obtain⟨N,O,J,M,Y,K,Q,V,U,X,o,A,L⟩:=j.out.box
    obtain⟨b0,b1,b2,b3,b4,b5,b6,b7,b8,b9,aM,aN,bf⟩:=n.out.box
    go_wp2
    refine bodyPost_ret (results_cell_row rfl _ _ (w.heap.size+1) 53 _ (0,0) _ rfl ((n.out.put ..)).heap Tryz.underlying53 rfl (by kernel_rfl)) rfl ?_
    exact zY rfl (show Is (bd x (pE C .sum d)) H z2 from by rw[←ax.out];exact znx av.out hc ac) (ae.out.put n.out ..) (ah.out.put (by omega) ..)
theorem znz (C:Cx) (D n j:Nat):zgE C D n j 0:=by
 intro x S q z d w J E K L
 by_cases H:z<0
 ·have:=K H
  omega
 ·obtain⟨e,rfl,rfl⟩:=zdc J H
  rw[zdU]
  obtain⟨I,o,A⟩:=C
  cases A with
  |true=>exact ziB I o D n j S q d w E e
  |false=>exact ziC I o D n j S q d w E e
theorem zn0 (C:Cx) (o n j:Nat) (m:Nat):SumOK C o n j m:=by
 induction m with
 |zero=>exact ziJ (ziI (znz C o n j))
 |succ m q=>exact ziJ (ziI (znq q))
theorem zcN (C:Cx) (o n j:Nat) (x:PR) (S:Sv) (q:PS) (z:Int) (w:World) (D:Is x q z) (A:Mem C o n j S q w):
  Calls Tryz.prog 75 #[pv C o n S q z 0] w (Out C o n j (bd x (pE C .sum 0)) 0 S w):=
 zn0 C o n j (C.ts.length+1) x S q z 0 w D A (fun _=>by omega) (by omega)
theorem Is2.withN {y:PRN} {q q':PS} {z z':Int} {n:ByteArray} {F:PR→ByteArray→PR} (h:Is2 y q z n) (D: ∀e n,F (.error e) n= .error e) (j:Is (F (zaK y) n) q' z'):Is2 (withN y F) q' z' n:=by
 cases y with
 |ok a=>
  obtain⟨_,_,rfl⟩:=h
  have e:zaK (.ok a)= .ok a.1:=rfl
  rw[e] at j
  show Is2 (bd (F (.ok a.1) a.2) fun q=>.ok (q,a.2)) q' z' a.2
  cases o:F (.ok a.1) a.2 with
  |ok b=>rw[o] at j;exact⟨j.1,j.2,rfl⟩
  |error e=>rw[o] at j;exact j
 |error e=>
  have A:zaK (.error e)= .error e:=rfl
  rw[A,D] at j
  exact j
theorem ziK {C:Cx} {A n j:Nat} {y:PRN} {d:Nat} {S o:Sv} {w z:World} {q':PS} {z':Int} {q:ByteArray} {v:Value} (I:v=pv C A n o q' z' d) (E:Is2 y q' z' q) (D:Mem C A n j o q' z) (H:SB w.heap.size S w o z):zdo C A n j y d S w (.returned (.tuple #[v,.string q])) z:=
 ⟨o,q',z',q,by rw[I],E,D,H.done⟩
theorem zgG (C:Cx) (E D o:Nat) (S:Sv) (q:PS) (w:World) (hm:Mem C E D o S q w):
  Calls Tryz.prog 72 #[pv C E D S q (-1) 0] w (zdo C E D o (zcj C q) 0 S w):=by
 have HM:=zc hm
 clear hm
 unfold pv
 go_enter Tryz.func72,Tryz.ntmps72
 go_wp2_with fail
 refine (zaH C E D o (.ok q) S q (-1) 0 zC _ (zX q) ((HM.out.alloc _).alloc _)).mono ?_
 rintro e w1 ⟨S1,q1,z1,rfl,i1,m1,s1⟩
 obtain⟨Q,O,t1⟩:=HM.out.two2 s1
 have z:=zc Q
 have j:=zc O
 have L:=zc m1
 have V:=zc t1
 have ak:=zc i1
 clear Q O i1 m1 t1 s1
 go_wp2_with fail
 refine (zbe C E D o _ S1 q1 z1 0 false _ ak.out L.out).mono ?_
 rintro e w2 ⟨S2,q2,z2,n2,rfl,i2,m2,s2⟩
 replace z:=zc (z.out.stp s2)
 replace j:=zc (j.out.stp s2)
 have ab:=zc (V.out.step s2)
 clear V
 have I:=zc m2
 have N:=zc i2
 clear i2 m2 s2 L
 have an:w.heap.size+1<w2.heap.size:=j.out.lt
 unfold pv
 go_wp2_with fail
 refine (zad C E D o _ S2 q2 z2 0 cEq _ N.out.fst (I.out.alloc _)).mono ?_
 rintro e w3 ⟨S3,q3,z3,rfl,i3,m3,s3⟩
 replace z:=zc ((z.out.alloc _).stp s3)
 replace j:=zc ((j.out.alloc _).stp s3)
 replace A:=zc ((Bx.new I.out _).stp s3)
 have X:Hid (SB w.heap.size S w S3 w3):=(ab.out.alloc _).step s3
 clear ab
 have ac:=zc m3
 have ai:=zc i3
 clear i3 m3 s3 I
 go_wp2_with fail
 refine (zcN C E D o _ S3 q3 z3 _ ai.out ac.out).mono ?_
 rintro e w4 ⟨S4,q4,z4,rfl,i4,m4,s4⟩
 replace z:=zc (z.out.stp s4)
 replace j:=zc (j.out.stp s4)
 replace A:=zc (A.out.stp s4)
 have Z:=zc (X.out.step s4)
 clear X
 have ag:=zc m4
 have al:=zc i4
 clear i4 m4 s4 ac
 go_wp2_with fail
 refine (zad C E D o _ S4 q4 z4 0 cSemi _ al.out ag.out).mono ?_
 rintro e w5 ⟨K,q5,z5,rfl,i5,m5,Y⟩
 replace z:=zc (z.out.stp Y)
 replace j:=zc (j.out.stp Y)
 replace A:=zc (A.out.stp Y)
 have ad:=zc (Z.out.step Y)
 clear Z
 have ae:=zc m5
 have M:=zc i5
 clear i5 m5 Y ag
 obtain⟨c0,c1,c2,c3,c4,c5,c6,c7,c8,c9,J,H,cf⟩:=A.out.box
 unfold pv
 go_upto_region 3 with fail
 refine zL (R:=fun W=>Bx E K W (w.heap.size) _∧Bx E K W (w.heap.size+1) _∧Bx E K W (w2.heap.size) _∧Mem C E D o K q5 W∧SB w.heap.size S w K W) ⟨(z.out.other (by omega) ..),(j.out.other (by omega) ..),(A.out.put ..),(ae.out.put A.out ..),(ad.out.put (by omega) ..)⟩ ?_
 clear c0 c1 c2 c3 c4 c5 c6 c7 c8 c9 J H cf
 clear z j A ad ae
 rintro w6 ⟨Q,O,X2,m6,t6⟩
 have z:=zc Q
 have j:=zc O
 have A:=zc X2
 have aa:=zc m6
 have af:=zc t6
 clear m6 t6 Q O X2
 obtain⟨c0,c1,c2,c3,c4,c5,c6,c7,c8,c9,J,H,cf⟩:=A.out.box
 go_wp2_with fail
 refine (zcL C E D o _ K q5 z5 0 1 n2 _ M.out aa.out (zbh M.out)).mono ?_
 rintro e w7 ⟨S7,q7,z7,rfl,i7,m7,U⟩
 replace z:=zc (z.out.stp U)
 replace j:=zc (j.out.stp U)
 replace A:=zc (A.out.stp U)
 have aj:=zc (af.out.step U)
 clear af
 have am:=zc m7
 have ah:=zc i7
 clear i7 m7 U aa
 clear c0 c1 c2 c3 c4 c5 c6 c7 c8 c9 J H cf
 obtain⟨b0,b1,b2,b3,b4,b5,b6,b7,b8,b9,ao,ap,bf⟩:=j.out.box
 unfold pv
 go_wp2
 refine bodyPost_ret (zaA rfl _ _ (w.heap.size+1) 53 _ (0,0) _ rfl ((j.out.put ..)).heap Tryz.underlying53 rfl (by kernel_rfl)) rfl ?_
 exact ziK rfl (N.out.withN (F:=fun x n=>_) (fun _ _=>rfl) ah.out) (am.out.put j.out ..) (aj.out.put (by omega) ..)
theorem zgH (C:Cx) (E D A:Nat) (S:Sv) (q:PS) (w:World) (hm:Mem C E D A S q w):
  Calls Tryz.prog 73 #[pv C E D S q (-1) 0] w (zdo C E D A (fnP C q) 0 S w):=by
 have HM:=zc hm
 clear hm
 unfold pv
 go_enter Tryz.func73,Tryz.ntmps73
 go_wp2_with fail
 refine (zaH C E D A (.ok q) S q (-1) 0 zT _ (zX q) ((HM.out.alloc _).alloc _)).mono ?_
 rintro e w1 ⟨S1,q1,z1,rfl,i1,m1,s1⟩
 obtain⟨U,O,t1⟩:=HM.out.two2 s1
 have z:=zc U
 have o:=zc O
 have ai:=zc m1
 have ay:=zc t1
 have aT:=zc i1
 clear U O i1 m1 t1 s1
 go_wp2_with fail
 refine (zbe C E D A _ S1 q1 z1 0 false _ aT.out ai.out).mono ?_
 rintro e w2 ⟨S2,q2,z2,n2,rfl,i2,m2,s2⟩
 replace z:=zc (z.out.stp s2)
 replace o:=zc (o.out.stp s2)
 have aG:=zc (ay.out.step s2)
 clear ay
 have ah:=zc m2
 have ao:=zc i2
 clear i2 m2 s2 ai
 have aZ:w.heap.size+1<w2.heap.size:=o.out.lt
 unfold pv
 go_wp2_with fail
 refine (zad C E D A _ S2 q2 z2 0 zn _ ao.out.fst (ah.out.alloc _)).mono ?_
 rintro e w3 ⟨S3,q3,z3,rfl,i3,m3,s3⟩
 replace z:=zc ((z.out.alloc _).stp s3)
 replace o:=zc ((o.out.alloc _).stp s3)
 replace j:=zc ((Bx.new ah.out _).stp s3)
 have az:Hid (SB w.heap.size S w S3 w3):=(aG.out.alloc _).step s3
 clear aG
 have aH:=zc m3
 have aQ:=zc i3
 clear i3 m3 s3 ah
 go_wp2_with fail
 refine (zad C E D A _ S3 q3 z3 0 za0 _ aQ.out aH.out).mono ?_
 rintro e w4 ⟨S4,q4,z4,rfl,i4,m4,s4⟩
 replace z:=zc (z.out.stp s4)
 replace o:=zc (o.out.stp s4)
 replace j:=zc (j.out.stp s4)
 have aC:=zc (az.out.step s4)
 clear az
 have aO:=zc m4
 have aU:=zc i4
 clear i4 m4 s4 aH
 go_wp2_with fail
 refine (zad C E D A _ S4 q4 z4 0 zJ _ aU.out aO.out).mono ?_
 rintro e w5 ⟨S5,q5,z5,rfl,i5,m5,s5⟩
 replace z:=zc (z.out.stp s5)
 replace o:=zc (o.out.stp s5)
 replace j:=zc (j.out.stp s5)
 have aI:=zc (aC.out.step s5)
 clear aC
 have aJ:=zc m5
 have aR:=zc i5
 clear i5 m5 s5 aO
 obtain⟨V,c1,c2,N,M,Y,c6,c7,X,c9,I,H,Z⟩:=j.out.box
 unfold pv
 go_upto_region 3 with fail
 refine zL (R:=fun W=>Bx E S5 W (w.heap.size) _∧Bx E S5 W (w.heap.size+1) _∧Bx E S5 W (w2.heap.size) _∧Mem C E D A S5 q5 W∧SB w.heap.size S w S5 W) ⟨(z.out.other (by omega) ..),(o.out.other (by omega) ..),(j.out.put ..),(aJ.out.put j.out ..),(aI.out.put (by omega) ..)⟩ ?_
 clear V c1 c2 N M Y c6 c7 X c9 I H Z
 clear z o j aI aJ
 rintro w6 ⟨U,O,X2,m6,t6⟩
 have z:=zc U
 have o:=zc O
 have j:=zc X2
 have aE:=zc m6
 have aL:=zc t6
 clear m6 t6 U O X2
 obtain⟨V,c1,c2,N,M,Y,c6,c7,X,c9,I,H,Z⟩:=j.out.box
 go_wp2_with fail
 refine (zaH C E D A _ S5 q5 z5 0 zdT _ aR.out aE.out).mono ?_
 rintro e w7 ⟨S7,q7,z7,rfl,i7,m7,s7⟩
 replace z:=zc (z.out.stp s7)
 replace o:=zc (o.out.stp s7)
 replace j:=zc (j.out.stp s7)
 have an:=zc (aL.out.step s7)
 clear aL
 have aM:=zc m7
 have aP:=zc i7
 clear i7 m7 s7 aE
 clear V c1 c2 N M Y c6 c7 X c9 I H Z
 go_wp2_with fail
 refine (zcN C E D A _ S7 q7 z7 _ aP.out aM.out).mono ?_
 rintro e w8 ⟨S8,q8,z8,rfl,i8,m8,s8⟩
 replace z:=zc (z.out.stp s8)
 replace o:=zc (o.out.stp s8)
 replace j:=zc (j.out.stp s8)
 have aK:=zc (an.out.step s8)
 clear an
 have aq:=zc m8
 have aV:=zc i8
 clear i8 m8 s8 aM
 obtain⟨V,c1,c2,N,M,Y,c6,c7,X,c9,I,H,Z⟩:=j.out.box
 unfold pv
 go_upto_region 4 with fail
 refine zL (R:=fun W=>Bx E S8 W (w.heap.size) _∧Bx E S8 W (w.heap.size+1) _∧Bx E S8 W (w2.heap.size) _∧Mem C E D A S8 q8 W∧SB w.heap.size S w S8 W) ⟨(z.out.other (by omega) ..),(o.out.other (by omega) ..),(j.out.put ..),(aq.out.put j.out ..),(aK.out.put (by omega) ..)⟩ ?_
 clear V c1 c2 N M Y c6 c7 X c9 I H Z
 clear z o j aK aq
 rintro w9 ⟨U,O,X2,m9,t9⟩
 have z:=zc U
 have o:=zc O
 have j:=zc X2
 have ax:=zc m9
 have aj:=zc t9
 clear m9 t9 U O X2
 obtain⟨V,c1,c2,N,M,Y,c6,c7,X,c9,I,H,Z⟩:=j.out.box
 go_wp2_with fail
 refine (zad C E D A _ S8 q8 z8 0 cSemi _ aV.out ax.out).mono ?_
 rintro e a2 ⟨aX,aY,aW,rfl,ar,aB,Q⟩
 replace z:=zc (z.out.stp Q)
 replace o:=zc (o.out.stp Q)
 replace j:=zc (j.out.stp Q)
 have ad:=zc (aj.out.step Q)
 clear aj
 have af:=zc aB
 have aD:=zc ar
 clear ar aB Q ax
 clear V c1 c2 N M Y c6 c7 X c9 I H Z
 go_wp2_with fail
 refine (zad C E D A _ aX aY aW 0 zbm _ aD.out af.out).mono ?_
 rintro e a0 ⟨J,am,aS,rfl,al,ak,K⟩
 replace z:=zc (z.out.stp K)
 replace o:=zc (o.out.stp K)
 replace j:=zc (j.out.stp K)
 have ac:=zc (ad.out.step K)
 clear ad
 have ab:=zc ak
 have ae:=zc al
 clear al ak K af
 obtain⟨V,c1,c2,N,M,Y,c6,c7,X,c9,I,H,Z⟩:=j.out.box
 unfold pv
 go_upto_region 5 with fail
 refine zL (R:=fun W=>Bx E J W (w.heap.size) _∧Bx E J W (w.heap.size+1) _∧Bx E J W (w2.heap.size) _∧Mem C E D A J am W∧SB w.heap.size S w J W) ⟨(z.out.other (by omega) ..),(o.out.other (by omega) ..),(j.out.put ..),(ab.out.put j.out ..),(ac.out.put (by omega) ..)⟩ ?_
 clear V c1 c2 N M Y c6 c7 X c9 I H Z
 clear z o j ac ab
 rintro a7 ⟨U,O,X2,ap,aF⟩
 have z:=zc U
 have o:=zc O
 have j:=zc X2
 have ag:=zc ap
 have aa:=zc aF
 clear ap aF U O X2
 obtain⟨V,c1,c2,N,M,Y,c6,c7,X,c9,I,H,Z⟩:=j.out.box
 go_wp2_with fail
 refine (zcL C E D A _ J am aS 0 2 n2 _ ae.out ag.out (zbh ae.out)).mono ?_
 rintro e a4 ⟨a3,a6,a8,rfl,au,aN,L⟩
 replace z:=zc (z.out.stp L)
 replace o:=zc (o.out.stp L)
 replace j:=zc (j.out.stp L)
 have aw:=zc (aa.out.step L)
 clear aa
 have aA:=zc aN
 have av:=zc au
 clear au aN L ag
 clear V c1 c2 N M Y c6 c7 X c9 I H Z
 obtain⟨b0,b1,b2,b3,b4,b5,b6,b7,b8,b9,a1,a5,bf⟩:=o.out.box
 unfold pv
 go_wp2
 refine bodyPost_ret (zaA rfl _ _ (w.heap.size+1) 53 _ (0,0) _ rfl ((o.out.put ..)).heap Tryz.underlying53 rfl (by kernel_rfl)) rfl ?_
 exact ziK rfl (ao.out.withN (F:=fun x n=>_) (fun _ _=>rfl) av.out) (aA.out.put o.out ..) (aw.out.put (by omega) ..)
end Go.Proofs.YticdggnnpjachaaGreat
