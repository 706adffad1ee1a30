/-
  A row of pairs of names beside a program under way. No program is spoken of but for the numbers of its types.
  What spec's l4Tail answers: the walk.
  What spec's l4List answers: the walk.
  What spec's l4Part answers,if l4Sum answers so behind it: the walks.
  What spec's l4Part answers where no number and no bracket stands,in a script: the walks.
  What spec's l4Part answers where no number and no bracket stands: the walks.
  What spec's l4Part,l4Product and l4Sum answer: the walks of the two loops,and the three together.
  What spec's l4Let and l4Fn answer: the walks.
-/
import Derived.Deep.DeepCutAuto
import Derived.Test.YticdggnnpjachaaGreatCbSpecBox
namespace Go.Proofs.YticdggnnpjachaaGreat
set_option maxRecDepth 100000
set_option maxHeartbeats 6400000
open Go.RowKit Go.PlainAid
structure Row (S:Sv) (w:World) (base B:Nat) (r:Rw) (l:List Ep):Prop where
 own:OwnR w base 102 4 r l.length (l.flatMap epL)
 free: ∀k,r.blk=some k→¬S.has k
 new: ∀k,r.blk=some k→B≤k
 addr: ∃g,r.a=some ⟨g,0,none⟩
theorem Row.ne {n b:Nat} {S:Sv} {w:World} {j B:Nat} {r:Rw} {l:List Ep} {q:Array Value} (h:Row S w j B r l) (z:Bx n S w b q): ∀k,r.blk=some k→k≠b:=by
 rintro k o rfl
 obtain⟨_,_,c,g⟩:=h.own.typed o
 rw[z.heap] at g
 simp only[Option.some.injEq,Obj.cells.injEq] at g
 exact absurd g.2.1 (by decide)
theorem Row.stp {S o:Sv} {w q:World} {j B:Nat} {r:Rw} {l:List Ep} (h:Row S w j B r l) (s:Stp S w o q):Row o q j B r l:=
 ⟨h.own.keep fun k n=>s.block k (h.own.typed n).2.1 (h.free k n),fun k n g=>(s.sub k g).elim (h.free k n) fun z=>by have:=(h.own.typed n).2.1;omega,h.new,h.addr⟩
theorem Row.below {S:Sv} {w n:World} {j B:Nat} {r:Rw} {l:List Ep} (h:Row S w j B r l) (s:Below w.heap.size w n):Row S n j B r l:=h.stp (Stp.below s)
theorem Row.alloc {S:Sv} {w:World} {j B:Nat} {r:Rw} {l:List Ep} (h:Row S w j B r l) (o:Obj):Row S (w.alloc o) j B r l:=h.below ((Below.refl _ _).alloc (Nat.le_refl _) _)
theorem Row.drew {S:Sv} {w:World} {j B:Nat} {r:Rw} {l:List Ep} (h:Row S w j B r l):Row S w.drew j B r l:=⟨h.own,h.free,h.new,h.addr⟩
theorem Row.set {n b:Nat} {S:Sv} {w:World} {j B:Nat} {r:Rw} {l:List Ep} {q:Array Value} (h:Row S w j B r l) (z:Bx n S w b q) (i:Nat) (u:Value):Row S (w.setCell ⟨b,i,none⟩ u) j B r l:=
 ⟨h.own.keep fun k o=>zi (h.ne z k o),h.free,h.new,h.addr⟩
theorem Row.put {A b:Nat} {S:Sv} {w:World} {j B:Nat} {r:Rw} {l:List Ep} {L:Array Value} (h:Row S w j B r l) (Q:Bx A S w b L) (D K z N J q H E O M o n:Value):Row S (set12 w b D K z N J q H E O M o n) j B r l:=
 ⟨h.own.keep fun k I=>zeQ (h.ne Q k I) _ _ _ _ _ _ _ _ _ _ _ _,h.free,h.new,h.addr⟩
theorem Row.nil {C:Cx} {z n j B:Nat} {S:Sv} {q:PS} {w:World} (h:Mem C z n j S q w) (A:B≤w.heap.size):Row S (w.alloc (.cells #[] 102 (0,0))) j B ⟨some ⟨w.heap.size,0,none⟩,0⟩ []:=by
 refine⟨World.ownsRow_lit w #[] 0 h.base (by unfold maxLen;omega) rfl,fun k o g=>?_,fun k o=>?_,⟨_,rfl⟩⟩
 ·simp only[Rw.blk,Value.ownBlock,Option.some.injEq] at o
  have:=(h.own.has g).2
  omega
 ·simp only[Rw.blk,Value.ownBlock,Option.some.injEq] at o
  omega
theorem Row.grow {C:Cx} {I D j B:Nat} {S:Sv} {q:PS} {W E:World} {r H:Rw} {l:List Ep} {x:Ep} (h:Row S W j B r l) (z:Mem C I D j S q W) (O:B≤W.heap.size) (L:W.grownBy E r.blk) (M:OwnR E j 102 4 H (l.length+1) (l.flatMap epL++epL x)) (A:H.blk=r.blk∨H.blk=some W.heap.size):
  Row S E j B H (l++[x])∧Mem C I D j S q E:=by
 refine⟨⟨?_,fun k o g=>?_,fun k o=>?_,M.addr.resolve_left (by omega)⟩,?_⟩
 ·have e:(l++[x]).length=l.length+1:=by simp
  rw[e]
  simpa using M
 ·rcases A with e|e
  ·exact h.free k (by rw[←e];exact o) g
  ·have N:W.heap.size=k:=Option.some.inj (e.symm.trans o)
   have:=(z.own.has g).2
   omega
 ·rcases A with e|e
  ·exact h.new k (by rw[←e];exact o)
  ·have N:W.heap.size=k:=Option.some.inj (e.symm.trans o)
   omega
 ·have n: ∀k,k<W.heap.size→r.blk≠some k→E.heap[k]? =W.heap[k]?:=fun k o J=>L.block k o fun e=>J e.symm
  refine⟨z.own.keep fun k o=>n k (z.own.has o).2 fun e=>h.free k e o,z.inv,zb0 z.tok (n I (zan z.tok).1 fun e=>?_),z.few,Nat.le_trans z.base L.size⟩
  obtain⟨_,_,c,g⟩:=h.own.typed e
  obtain⟨Q,K⟩:=zfr z.tok
  rw[g] at K
  simp only[Option.some.injEq,Obj.cells.injEq] at K
  exact absurd K.2.1 (by decide)
theorem Row.bx {o b:Nat} {S:Sv} {W z:World} {j B:Nat} {r:Rw} {l:List Ep} {q:Array Value} (h:Row S W j B r l) (n:Bx o S W b q) (A:W.grownBy z r.blk):Bx o S z b q:=
 ⟨(A.block b n.lt fun e=>h.ne n b e.symm rfl).trans n.heap,n.free,n.ne⟩
theorem Row.sb {S S0:Sv} {w W q:World} {n:Nat} {B:Nat} {r:Rw} {l:List Ep} (h:Row S W n B r l) (j:SB B S0 w S W) (o:W.grownBy q r.blk):SB B S0 w S q:=
 ⟨o.os.trans j.os,o.tape.trans j.tape,o.output.trans j.output,Nat.le_trans j.size o.size,j.low,fun k A z=>(o.block k (by have:=j.size;have:=j.low;omega) fun e=>by have:=h.new k e.symm;omega).trans (j.block k A z),j.sub⟩
theorem Mem.list3 {C:Cx} {A D j:Nat} {S n:Sv} {q:PS} {w o:World} {z cb:Array Value} (h:Mem C A D j S q w) (s:Stp S (((w.alloc (.cells z 53 (0,0))).alloc (.cells cb 53 (0,0))).alloc (.cells #[] 102 (0,0))) n o):
  Bx A n o w.heap.size z∧Bx A n o (w.heap.size+1) cb∧Row n o j w.heap.size ⟨some ⟨w.heap.size+1+1,0,none⟩,0⟩ []∧SB w.heap.size S w n o:=by
 refine⟨(((Bx.new h _).alloc _).alloc _).stp s,?_,?_,(SB.start (zcJ w _ _ _)).step s⟩
 ·have:=((Bx.new (h.alloc (.cells z 53 (0,0))) cb).alloc (.cells #[] 102 (0,0))).stp s
  rw[zk] at this
  exact this
 ·have:=(Row.nil (B:=w.heap.size) ((h.alloc (.cells z 53 (0,0))).alloc (.cells cb 53 (0,0))) (zaT w _ _).size).stp s
  rw[zc1] at this
  exact this
def Is3 (y:PRL) (q:PS) (z:Int) (l:List Ep):Prop:=
 match y with
 | .ok a=>q=a.1∧z= -1∧l=a.2
 | .error e=>z=(e:Int)
def zmX (C:Cx) (gt cap base:Nat) (y:PRL) (d:Nat) (S:Sv) (w:World) (e:Ending) (w':World):Prop:=
 ∃S' q' z' r l,e= .returned (.tuple #[pv C gt cap S' q' z' d,.slice r.a l.length r.cap,.bool (za8 l)])∧Is3 y q' z' l∧Mem C gt cap base S' q' w'∧Stp S w S' w'∧Row S' w' base w.heap.size r l∧l.length≤4001
theorem zi4 (l:List Ep) (x:Ep):za8 (l++[x])=(za8 l||(x.loc.toList==[100,101,102,97,117,108,116])):=by simp[za8]
theorem zmY {o:Func} {p u v:Tmp} {n:TypeId} (h:o.results= #[.cell p n,.tmp u,.tmp v]) (tmps:Array Value) (P:Program) (w:World):
  (results o tmps).run P w=((asAddr (tmps.getD p undef)).run P w).andThen fun a q=>((loadVar n a).run P q).andThen fun x j=>.ok (.tuple #[x,tmps.getD u undef,tmps.getD v undef]) j:=by
 simp only[results,h]
 simp[Sem.run_bind,Result.andThen]
theorem zi5 {P:Program} {o:Func} {p u v:Tmp} {n:TypeId} (h:o.results= #[.cell p n,.tmp u,.tmp v]) (tmps:Array Value) (w:World) (g:Nat) (t:TypeId) (j:Array Value) (q:Nat×Nat) (d:TypeDesc)
  (H:tmps.getD p undef= .pointer (some ⟨g,0,none⟩)) (E:w.heap[g]? =some (.cells j t q))
  (D:P.underlying n=some d) (A:(match d with| .struct _| .array _ _=>true|_=>false)=true) (z:(P.info? n).map (·.size)=some j.size):
  (results o tmps).run P w= .ok (.tuple #[.agg j,tmps.getD u undef,tmps.getD v undef]) w:=by
 rw[zmY h,H]
 simp[asAddr,Result.andThen,run_loadVar_row w g t n j q d E D A z]
theorem zbh {C:Cx} {x:PR} {k:Int} {s:ByteArray} {q:PS} {z:Int} (h:Is (bd x (zd C k s)) q z):z<0→1≤q.pos:=by
 intro n
 obtain⟨e,_⟩:=zaC h n
 obtain⟨a,_,j⟩:=zf e
 obtain⟨rfl,_⟩:=zb4 j
 simp[adv]
theorem zgD (C:Cx) (K z o:Nat) (S:Sv) (q:PS) (d:Nat) (nm:ByteArray) (w:World) (hm:Mem C K z o S q w) (hp:1≤q.pos):
  Calls Tryz.prog 191 #[pv C K z S q (-1) d,.string nm] w (Out C K z o (zbc C nm q) d S w):=by
 have HM:=zc hm
 have A:=hm.tok
 have O:=hm.few
 clear hm
 cases hi:isT C q.pos 4 zn with
 |true=>
  have HV:Hid (zbc C nm q=bd (bd (bd (.ok q) (zd C 4 zn)) (zd C 4 za0)) (zN C ⟨3,0,nm,sNone,0,0⟩)):=if_pos hi
  unfold pv
  go_enter Tryz.func191,Tryz.ntmps191
  go_wp2_with fail
  refine (zh C K z o S q (-1) d 4 zn _ (zq (zq A _) _) O (by decide)).mono ?_
  rintro e w1 ⟨rfl,J⟩
  rw[hi]
  obtain⟨Z,X1,Y,t1⟩:=HM.out.two J
  have n:=zc Z
  have j:=zc X1
  have H:=zc Y
  have D:=zc t1
  clear Z X1 Y t1 J
  clear A
  obtain⟨a0,a1,X,V,a4,a5,a6,a7,a8,a9,I,E,af⟩:=n.out.box
  go_wp2_with fail
  refine (zad C K z o (.ok q) S q (-1) d zn _ (zX q) H.out).mono ?_
  rintro e w2 ⟨S2,q2,z2,rfl,U,m2,N⟩
  replace n:=zc (n.out.stp N)
  replace j:=zc (j.out.stp N)
  have L:=zc (D.out.step N)
  clear D
  have M:=zc m2
  have Q:=zc U
  clear U m2 N H
  clear a0 a1 X V a4 a5 a6 a7 a8 a9 I E af
  go_wp2_with fail
  refine (zad C K z o _ S2 q2 z2 d za0 _ Q.out M.out).mono ?_
  rintro e w3 ⟨S3,q3,z3,rfl,i3,m3,s3⟩
  replace n:=zc (n.out.stp s3)
  replace j:=zc (j.out.stp s3)
  have ab:=zc (L.out.step s3)
  clear L
  have ac:=zc m3
  have aa:=zc i3
  clear i3 m3 s3 M
  obtain⟨a0,a1,X,V,a4,a5,a6,a7,a8,a9,I,E,af⟩:=n.out.box
  unfold pv
  go_wp2_with fail
  refine (zcK C K z o _ S3 q3 z3 d ⟨3,0,nm,sNone,0,0⟩ _ aa.out (ac.out.put n.out ..) (zbh aa.out)).mono ?_
  rintro e w4 ⟨S4,q4,z4,rfl,i4,m4,s4⟩
  replace n:=zc ((n.out.put ..).stp s4)
  replace j:=zc ((j.out.other (by omega) ..).stp s4)
  have ag:Hid (SB w.heap.size S w S4 w4):=(ab.out.put (by omega) ..).step s4
  clear ab
  have ai:=zc m4
  have ah:=zc i4
  clear i4 m4 s4 ac
  clear a0 a1 X V a4 a5 a6 a7 a8 a9 I E af
  obtain⟨b0,b1,b2,b3,b4,b5,b6,b7,b8,b9,ae,ad,bf⟩:=j.out.box
  unfold pv
  go_wp2
  refine bodyPost_ret (results_cell_row rfl _ _ (w.heap.size+1) 53 _ (0,0) _ rfl ((j.out.put ..)).heap Tryz.underlying53 rfl (by kernel_rfl)) rfl ?_
  rw[HV.out]
  exact zY rfl ah.out (ai.out.put j.out ..) (ag.out.put (by omega) ..)
 |false=>
  have HV:Hid (zbc C nm q=bd (.ok q) (zN C ⟨2,0,nm,sNone,0,0⟩)):=by show zbc C nm q=_;rw[zbc,hi];rfl
  unfold pv
  go_enter Tryz.func191,Tryz.ntmps191
  go_wp2_with fail
  refine (zh C K z o S q (-1) d 4 zn _ (zq (zq A _) _) O (by decide)).mono ?_
  rintro e w1 ⟨rfl,J⟩
  rw[hi]
  obtain⟨Z,X1,Y,t1⟩:=HM.out.two J
  have n:=zc Z
  have j:=zc X1
  have H:=zc Y
  have D:=zc t1
  clear Z X1 Y t1 J
  clear A
  obtain⟨a0,a1,X,V,a4,a5,a6,a7,a8,a9,I,E,af⟩:=n.out.box
  go_wp2_with fail
  refine (zcK C K z o (.ok q) S q (-1) d ⟨2,0,nm,sNone,0,0⟩ _ (zX q) H.out (fun _=>hp)).mono ?_
  rintro e w2 ⟨S2,q2,z2,rfl,U,m2,N⟩
  replace n:=zc (n.out.stp N)
  replace j:=zc (j.out.stp N)
  have L:=zc (D.out.step N)
  clear D
  have M:=zc m2
  have Q:=zc U
  clear U m2 N H
  clear a0 a1 X V a4 a5 a6 a7 a8 a9 I E af
  obtain⟨b0,b1,b2,b3,b4,b5,b6,b7,b8,b9,ae,ad,bf⟩:=j.out.box
  unfold pv
  go_wp2
  refine bodyPost_ret (results_cell_row rfl _ _ (w.heap.size+1) 53 _ (0,0) _ rfl ((j.out.put ..)).heap Tryz.underlying53 rfl (by kernel_rfl)) rfl ?_
  rw[HV.out]
  exact zY rfl Q.out (M.out.put j.out ..) (L.out.put (by omega) ..)
theorem zmZ {C:Cx} {j:Bool} {l:List Ep} {Y:PRN} {I D:ByteArray} {M H q:PS} {N E A:Int} (L:Is2 Y M N I) (o:Is2 (bd Y (asP C j)) H E D) (z:(decide (E<0)&&isT C H.pos 4 zbw)=false) (n:Is (bd (zaK (bd Y (asP C j))) (zd C 4 zbm)) q A):
  Is3 (bd Y fun a=>bd (asP C j a) fun b=>if isT C b.1.pos 4 zbw then zax C j (adv b.1) (l++[⟨0,b.2,a.2,sNone⟩]) else bd (zd C 4 zbm b.1) fun q'=>.ok (q',l++[⟨0,b.2,a.2,sNone⟩])) q A (l++[⟨0,D,I,sNone⟩]):=by
 cases Y with
 |error e=>exact n
 |ok a=>
  obtain⟨_,_,rfl⟩:=L
  rw[zz] at o n ⊢
  cases J:asP C j a with
  |error e=>rw[J] at n;exact n
  |ok b=>
   rw[J] at o n
   obtain⟨rfl,rfl,rfl⟩:=o
   rw[Bool.and_eq_false_iff] at z
   rw[zz,z.resolve_left (by decide)]
   have e:bd (zaK (.ok b)) (zd C 4 zbm)=zd C 4 zbm b.1:=rfl
   rw[e] at n
   show Is3 (bd (zd C 4 zbm b.1) _) _ _ _
   cases K:zd C 4 zbm b.1 with
   |error e=>rw[K] at n;exact n
   |ok c=>rw[K] at n;exact⟨n.1,n.2,rfl⟩
theorem zna {C:Cx} {j:Bool} {l:List Ep} {o L A:PS} {J I:ByteArray} {M z:Int} (E:Is2 (bd (.ok o) (zj C true)) L M J) (n:Is2 (bd (bd (.ok o) (zj C true)) (asP C j)) A z I) (N:z<0) (K:isT C A.pos 4 zbw=true):
  (bd (.ok o) fun q=>zax C j q l)=(bd (.ok (adv A)) fun q=>zax C j q (l++[⟨0,I,J,sNone⟩]))∧o.pos+1≤A.pos:=by
 rw[zz] at E n ⊢
 rw[zz,zfs]
 cases D:zj C true o with
 |error e=>rw[D] at n;have:z=(e:Int):=n;omega
 |ok a=>
  rw[D] at E n
  obtain⟨_,_,rfl⟩:=E
  rw[zz] at n ⊢
  obtain⟨rfl,_⟩:=zbd D
  cases H:asP C j (adv o,(ze C o.pos).text) with
  |error e=>rw[H] at n;have:z=(e:Int):=n;omega
  |ok b=>
   rw[H] at n
   obtain⟨rfl,rfl,rfl⟩:=n
   have:=zeA H
   rw[zz,K]
   exact⟨rfl,this⟩
theorem znb {C:Cx} {j:Bool} {x:PR} {q n:PS} {z o:Int} {l:List Ep} (A:Is x q z) (D: ¬z<0) (E:Is (bd x (zd C 4 zbm)) n o):Is3 (bd x fun q=>zax C j q l) n o l:=by
 obtain⟨e,rfl,_⟩:=zdc A D
 exact E
theorem znc {C:Cx} {j:Bool} {Y:PRN} {o z:PS} {n D:Int} {H A:ByteArray} (q:Is2 Y o n H) (E:(decide (n<0)&&isT C o.pos 1 sAs)=true) (I:Is2 (bd (.ok (adv o)) (zj C j)) z D A):Is2 (bd Y (asP C j)) z D A:=by
 rw[Bool.and_eq_true,decide_eq_true_eq] at E
 cases Y with
 |error e=>have:n=(e:Int):=q;omega
 |ok a=>
  obtain⟨rfl,_,_⟩:=q
  rw[zz,asP,if_pos E.2]
  exact I
theorem znd {C:Cx} {j:Bool} {Y:PRN} {n:PS} {o:Int} {q:ByteArray} (z:Is2 Y n o q) (A:(decide (o<0)&&isT C n.pos 1 sAs)=false) (D:((q.toList==[100,101,102,97,117,108,116])&& !j)=true):Is2 (bd Y (asP C j)) n (zbp C n.pos o) q:=by
 cases Y with
 |error e=>
  have h:o=(e:Int):=z
  show zbp C n.pos o=(e:Int)
  rw[zbp,if_neg (by omega)]
  exact h
 |ok a=>
  obtain⟨rfl,rfl,rfl⟩:=z
  rw[Bool.and_eq_false_iff] at A
  rw[zz,asP,A.resolve_left (by decide),D]
  rfl
theorem zi6 {C:Cx} {j:Bool} {Y:PRN} {o:PS} {q:Int} {n:ByteArray} (z:Is2 Y o q n) (A:(decide (q<0)&&isT C o.pos 1 sAs)=false) (D:((n.toList==[100,101,102,97,117,108,116])&& !j)=false):Is2 (bd Y (asP C j)) o q n:=by
 cases Y with
 |error e=>exact z
 |ok a=>
  obtain⟨rfl,rfl,rfl⟩:=z
  rw[Bool.and_eq_false_iff] at A
  rw[zz,asP,A.resolve_left (by decide),D]
  exact⟨rfl,rfl,rfl⟩
theorem zi7 (C:Cx) (K J z:Nat) (S:Sv) (q:PS) (d:Nat) (ah:Bool) (w:World) (hm:Mem C K J z S q w):
  Calls Tryz.prog 130 #[pv C K J S q (-1) d,.bool ah] w (zmX C K J z (zcw C ah q) d S w):=by
 obtain⟨i0,hi,aQ,aJ,aY⟩:=info_parts Tryz.infoExp
 have HM:=zc hm
 have aj:=hm.few
 clear hm
 unfold pv
 go_enter Tryz.func130,Tryz.ntmps130
 go_wp2_with fail
 refine (zad C K J z (.ok q) S q (-1) d zJ _ (zX q) (((HM.out.alloc _).alloc _).alloc _)).mono ?_
 rintro e w1 ⟨S1,q1,z1,rfl,i1,m1,s1⟩
 obtain⟨X0,X1,R0,t1⟩:=HM.out.list3 s1
 have j:=zc X0
 have n:=zc X1
 have A:=zc R0
 have aH:=zc t1
 have aV:=zc m1
 have aW:=zc i1
 clear i1 m1 s1 X0 X1 R0 t1
 obtain⟨a0,a1,V,U,Z,a5,a6,a7,X,Y,E,D,af⟩:=j.out.box
 unfold pv
 go_wp2
 go_loopg [7,8] (C.ts.length+1) (fun k o an wr=>∃(x':PR) (S':Sv) (q':PS) (z':Int) (r:Rw) (l:List Ep),Is x' q' z'∧bd x' (fun q=>zax C ah q l)=zcw C ah q∧(z'<0→C.ts.length-q'.pos<k)∧(l.length≤q'.pos∨l=[])∧o= .slice r.a l.length r.cap∧an= .bool (za8 l)∧Mem C K J z S' q' wr∧SB w.heap.size S w S' wr∧Bx K S' wr w.heap.size #[.slice (some ⟨K,0,none⟩) C.ts.length J,.int .i64 q'.pos,.int .i64 C.fin,.bool C.scr,.slice S'.rq.a q'.rq.length S'.rq.cap,.slice S'.im.a q'.im.length S'.im.cap,.slice S'.ep.a q'.ep.length S'.ep.cap,.slice S'.st.a q'.st.length S'.st.cap,.slice S'.ex.a q'.ex.length S'.ex.cap,.slice S'.la.a q'.la.length S'.la.cap,.int .i64 z',.int .i64 d]∧Bx K S' wr (w.heap.size+1) #[.slice none 0 0,.int .i64 0,.int .i64 0,.bool false,.slice none 0 0,.slice none 0 0,.slice none 0 0,.slice none 0 0,.slice none 0 0,.slice none 0 0,.int .i64 0,.int .i64 0]∧Row S' wr z w.heap.size r l)
 case atStart=>exact⟨_,S1,q1,z1,_,[],aW.out,rfl,fun _=>by omega,.inr rfl,rfl,rfl,(aV.out.put j.out ..),(aH.out.put (by omega) ..),(j.out.put ..),(n.out.other (by omega) ..),(A.out.put j.out ..)⟩
 case round=>
  obtain⟨x2,S2,q2,z2,r,l,i2,e2,l2,n2,rfl,rfl,m2,t2,X0,X1,R0⟩:=hrel
  have j:=zc X0
  have n:=zc X1
  have ap:=zc m2
  have ao:=zc t2
  have aw:=zc i2
  have av:=zc e2
  have aP:=zc l2
  have A:=zc R0
  have bc:l.length≤4000:=n2.elim (fun g=>by have:=m2.inv.pos;omega) (fun g=>by rw[g];simp)
  have aO:=zc n2
  clear X0 X1 i2 m2 t2 e2 l2 R0 n2
  by_cases hz:z2<0
  ·skip
   obtain⟨rfl,rfl⟩:=zaC aw.out hz
   have be:=aP.out hz
   obtain⟨a0,a1,V,U,Z,a5,a6,a7,X,Y,E,D,af⟩:=j.out.box
   go_wp2_with fail
   refine (zbe C K J z (.ok q2) S2 q2 (-1) d true _ (zX q2) ap.out).mono ?_
   rintro e w3 ⟨Q,q3,z3,n3,rfl,i3,m3,s3⟩
   replace j:=zc (j.out.stp s3)
   replace n:=zc (n.out.stp s3)
   have aq:=zc (ao.out.step s3)
   have I:Hid (Row Q w3 z w.heap.size r l):=A.out.stp s3
   clear A
   have A:=zc I
   clear I
   clear ao
   have al:=zc m3
   have ab:=zc i3
   clear i3 m3 s3 ap
   clear a0 a1 V U Z a5 a6 a7 X Y E D af
   have ba:w.heap.size+1<w3.heap.size:=n.out.lt
   unfold pv
   go_upto_region 6 with fail
   refine zL (R:=fun W=>Bx K Q W (w.heap.size) _∧Bx K Q W (w.heap.size+1) _∧Bx K Q W (w3.heap.size) _∧Row Q W z w.heap.size r l∧Mem C K J z Q q3 W∧SB w.heap.size S w Q W) ⟨(j.out.alloc _),(n.out.alloc _),(Bx.new al.out _),(A.out.alloc _),(al.out.alloc _),(aq.out.alloc _)⟩ ?_
   clear j n aq al
   clear A
   rintro w4 ⟨X0,X1,X2,R0,m4,t4⟩
   have A:=zc R0
   clear R0
   have j:=zc X0
   have n:=zc X1
   have L:=zc X2
   have aC:=zc m4
   have az:=zc t4
   clear m4 t4 X0 X1 X2
   obtain⟨a0,a1,V,U,Z,a5,a6,a7,X,Y,E,D,af⟩:=j.out.box
   obtain⟨c0,c1,c2,c3,c4,c5,c6,c7,c8,c9,aI,aS,cf⟩:=L.out.box
   go_upto_region 7 with fail
   refine zL (R:=fun W=>Bx K Q W (w.heap.size) _∧Bx K Q W (w.heap.size+1) _∧Bx K Q W (w3.heap.size) _∧Row Q W z w.heap.size r l∧Mem C K J z Q q3 W∧SB w.heap.size S w Q W) ⟨(j.out.put ..),(n.out.other (by omega) ..),(L.out.other (by omega) ..),(A.out.put j.out ..),(aC.out.put j.out ..),(az.out.put (by omega) ..)⟩ ?_
   clear a0 a1 V U Z a5 a6 a7 X Y E D af c0 c1 c2 c3 c4 c5 c6 c7 c8 c9 aI aS cf
   clear j n L az aC
   clear A
   rintro w5 ⟨X0,X1,X2,R0,m5,t5⟩
   have A:=zc R0
   clear R0
   have j:=zc X0
   have n:=zc X1
   have L:=zc X2
   have ai:=zc m5
   have ak:=zc t5
   clear m5 t5 X0 X1 X2
   skip
   obtain⟨a0,a1,V,U,Z,a5,a6,a7,X,Y,E,D,af⟩:=j.out.box
   skip
   go_wp2_with fail
   refine (zh C K J z Q q3 z3 d 1 sAs _ ai.out.tok aj (by decide)).mono ?_
   rintro e w6 ⟨rfl,ag⟩
   replace j:=zc (j.out.below ag)
   replace n:=zc (n.out.below ag)
   replace L:=zc (L.out.below ag)
   have O:=zc (ak.out.below ag)
   have M:=zc (ai.out.later ag)
   have I:Hid (Row Q w6 z w.heap.size r l):=A.out.below ag
   clear A
   have A:=zc I
   clear I
   clear ag ak ai
   clear a0 a1 V U Z a5 a6 a7 X Y E D af
   go_upto_if 28 with fail
   go_cut [11] (fun aK wx=>∃(N:Sv) (q5:PS) (z5:Int) (n5:ByteArray),aK= .string n5∧Is2 (bd (bd (.ok q2) (zj C true)) (asP C ah)) q5 z5 n5∧Mem C K J z N q5 wx∧SB w.heap.size S w N wx∧Bx K N wx w.heap.size #[.slice (some ⟨K,0,none⟩) C.ts.length J,.int .i64 q5.pos,.int .i64 C.fin,.bool C.scr,.slice N.rq.a q5.rq.length N.rq.cap,.slice N.im.a q5.im.length N.im.cap,.slice N.ep.a q5.ep.length N.ep.cap,.slice N.st.a q5.st.length N.st.cap,.slice N.ex.a q5.ex.length N.ex.cap,.slice N.la.a q5.la.length N.la.cap,.int .i64 z5,.int .i64 d]∧Bx K N wx (w.heap.size+1) #[.slice none 0 0,.int .i64 0,.int .i64 0,.bool false,.slice none 0 0,.slice none 0 0,.slice none 0 0,.slice none 0 0,.slice none 0 0,.slice none 0 0,.int .i64 0,.int .i64 0]∧Row N wx z w.heap.size r l)
   case first=>
    cases hb:(decide (z3<0)&&isT C q3.pos 1 sAs) with
    |true=>
     have aX:q3.pos<C.ts.length:=by rw[Bool.and_eq_true] at hb;exact za1 hb.2 (by decide)
     obtain⟨a0,a1,V,U,Z,a5,a6,a7,X,Y,E,D,af⟩:=j.out.box
     have aN:z3= -1:=by rw[Bool.and_eq_true,decide_eq_true_eq] at hb;exact (zaC ab.out.fst hb.1).2
     subst aN
     go_wp2_with fail
     refine (zbe C K J z (.ok (adv q3)) Q (adv q3) (-1) d ah _ (zX _) ((M.out.adv aX).set j.out 1 _)).mono ?_
     rintro e w7 ⟨S7,q7,z7,n7,rfl,i7,m7,s7⟩
     have ad:Hid (Bx K S7 w7 _ _):=(j.out.at1 _).stp s7
     have ae:Hid (Bx K S7 w7 _ _):=(n.out.set_other (by omega) 1 _).stp s7
     have au:Hid (Bx K S7 w7 _ _):=(L.out.set_other (by omega) 1 _).stp s7
     have ac:Hid (SB w.heap.size S w S7 w7):=(O.out.set (by omega) 1 _).step s7
     replace A:=zc ((A.out.set j.out 1 _).stp s7)
     clear j n L O
     have j:=zc ad
     have n:=zc ae
     have L:=zc au
     clear ad ae au
     have aa:=zc m7
     have aT:=zc i7
     clear i7 m7 s7 M
     clear a0 a1 V U Z a5 a6 a7 X Y E D af
     have bb:w.heap.size+1<w7.heap.size:=n.out.lt
     have aE:w3.heap.size<w7.heap.size:=L.out.lt
     unfold pv
     go_upto_region 11 with fail
     refine zL (R:=fun W=>Bx K S7 W (w.heap.size) _∧Bx K S7 W (w.heap.size+1) _∧Bx K S7 W (w3.heap.size) _∧Bx K S7 W (w7.heap.size) _∧Row S7 W z w.heap.size r l∧Mem C K J z S7 q7 W∧SB w.heap.size S w S7 W) ⟨(j.out.alloc _),(n.out.alloc _),(L.out.alloc _),(Bx.new aa.out _),(A.out.alloc _),(aa.out.alloc _),(ac.out.alloc _)⟩ ?_
     clear j n L ac aa
     clear A
     rintro w8 ⟨X0,X1,X2,X3,R0,m8,t8⟩
     have A:=zc R0
     clear R0
     have j:=zc X0
     have n:=zc X1
     have L:=zc X2
     have aM:=zc X3
     have ay:=zc m8
     have ax:=zc t8
     clear m8 t8 X0 X1 X2 X3
     obtain⟨a0,a1,V,U,Z,a5,a6,a7,X,Y,E,D,af⟩:=j.out.box
     obtain⟨d0,d1,d2,d3,d4,d5,d6,d7,d8,d9,bi,bg,df⟩:=aM.out.box
     go_wp2
     go_meet
     case rel=>exact⟨S7,q7,z7,n7,rfl,znc ab.out hb aT.out,(ay.out.put j.out ..),(ax.out.put (by omega) ..),(j.out.put ..),(n.out.other (by omega) ..),(A.out.put j.out ..)⟩
    |false=>
     cases e3:(n3.toList==[100,101,102,97,117,108,116]) with
     |true=>
      cases ah with
      |false=>
       obtain⟨a0,a1,V,U,Z,a5,a6,a7,X,Y,E,D,af⟩:=j.out.box
       go_wp2_with fail
       refine (zda C K J z Q q3 z3 d _ M.out.tok aj).mono ?_
       rintro e w7 ⟨rfl,H⟩
       replace j:=zc (j.out.below H)
       replace n:=zc (n.out.below H)
       replace L:=zc (L.out.below H)
       have ac:=zc (O.out.below H)
       have aa:=zc (M.out.later H)
       have I:Hid (Row Q w7 z w.heap.size r l):=A.out.below H
       clear A
       have A:=zc I
       clear I
       clear H O M
       clear a0 a1 V U Z a5 a6 a7 X Y E D af
       obtain⟨a0,a1,V,U,Z,a5,a6,a7,X,Y,E,D,af⟩:=j.out.box
       unfold pv
       go_wp2
       go_meet
       case rel=>exact⟨Q,q3,(zbp C q3.pos z3),n3,rfl,znd ab.out hb (by rw[e3];rfl),(aa.out.put j.out ..),(ac.out.put (by omega) ..),(j.out.put ..),(n.out.other (by omega) ..),(A.out.put j.out ..)⟩
      |true=>
       obtain⟨a0,a1,V,U,Z,a5,a6,a7,X,Y,E,D,af⟩:=j.out.box
       go_wp2
       go_meet
       case rel=>exact⟨Q,q3,z3,n3,rfl,zi6 ab.out hb (by rw[e3];rfl),M.out,O.out,j.out,n.out,A.out⟩
     |false=>
      obtain⟨a0,a1,V,U,Z,a5,a6,a7,X,Y,E,D,af⟩:=j.out.box
      go_wp2
      go_meet
      case rel=>exact⟨Q,q3,z3,n3,rfl,zi6 ab.out hb (by rw[e3];rfl),M.out,O.out,j.out,n.out,A.out⟩
   case rest=>
    obtain⟨N,q5,z5,n5,rfl,i5,m5,t5,X0,X1,R0⟩:=hcut
    clear j n L A M O
    have j:=zc X0
    have n:=zc X1
    have ai:=zc m5
    have ak:=zc t5
    have am:=zc i5
    have A:=zc R0
    clear X0 X1 i5 m5 t5 R0
    go_upto_region 15 with fail
    go_cut [8] (fun s8 wx=>s8= .bool (za8 l||(n3.toList==[100,101,102,97,117,108,116]))∧wx=wc)
    case first=>
     cases ha:za8 l with
     |true=>
      go_wp2
      go_meet
      case rel=>exact⟨by rw[ha];rfl,rfl⟩
     |false=>
      cases e3:(n3.toList==[100,101,102,97,117,108,116]) with
      |true=>
       go_wp2
       go_meet
       case rel=>exact⟨by rw[ha,e3];rfl,rfl⟩
      |false=>
       go_wp2
       go_meet
       case rel=>exact⟨by rw[ha,e3];rfl,rfl⟩
    case rest=>
     obtain⟨rfl,rfl⟩:=hcut
     have ar:=fun o=>A.out.own.alloc o
     have aZ:=ai.out.base
     go_wp2_with (at_builtin;refine zcu _ rfl _ _ 24 rfl z 102 i0 _ 4 56 Tryz.underlying24 hi aQ aJ aY rfl (by decide) (by decide) r l.length _ (by rfl) (ar _) wc.heap.size (epL ⟨0,n5,n3,sNone⟩) (by rfl) (by exact heap_alloc_new wc _) rfl (by intro u hu;simp[epL] at hu;rcases hu with rfl|rfl|rfl|rfl<;>rfl) (by omega) (by rw[zk];omega) ?_)
     intro r' w6 hr hg aB
     obtain⟨R6,m6⟩:=(A.out.alloc _).grow (x:=⟨0,n5,n3,sNone⟩) (ai.out.alloc _) (by rw[zk];have:=ak.out.size;omega) hg hr (by rw[zk];exact aB)
     have ad:Hid (Bx K N w6 _ _):=(A.out.alloc _).bx (j.out.alloc _) hg
     have ae:Hid (Bx K N w6 _ _):=(A.out.alloc _).bx (n.out.alloc _) hg
     have O:Hid (SB w.heap.size S w N w6):=(A.out.alloc _).sb (ak.out.alloc _) hg
     have M:=zc m6
     clear j n A hr hg aB ar aZ ai ak m6
     have j:=zc ad
     have n:=zc ae
     have A:=zc R6
     clear ad ae R6
     cases hc:(decide (z5<0)&&isT C q5.pos 4 zbw) with
     |true=>
      obtain⟨a0,a1,V,U,Z,a5,a6,a7,X,Y,E,D,af⟩:=j.out.box
      go_wp2_with fail
      refine (zh C K J z N q5 z5 d 4 zbw _ M.out.tok aj (by decide)).mono ?_
      rintro e w7 ⟨rfl,H⟩
      rw[hc]
      replace j:=zc (j.out.below H)
      replace n:=zc (n.out.below H)
      have ac:=zc (O.out.below H)
      have aa:=zc (M.out.later H)
      have I:Hid (Row N w7 z w.heap.size r' (l++[⟨0,n5,n3,sNone⟩])):=A.out.below H
      clear A
      have A:=zc I
      clear I
      clear H O M
      clear a0 a1 V U Z a5 a6 a7 X Y E D af
      rw[Bool.and_eq_true,decide_eq_true_eq] at hc
      obtain⟨aA,aD⟩:=hc
      have aR:q5.pos<C.ts.length:=za1 aD (by decide)
      obtain⟨E5,P5⟩:=zna (l:=l) ab.out am.out aA aD
      have HE:=zc E5
      obtain rfl:z5= -1:=(zaC am.out.fst aA).2
      have aL:Hid ((l++[(⟨0,n5,n3,sNone⟩:Ep)]).length≤q5.pos+1∨l++[(⟨0,n5,n3,sNone⟩:Ep)]=[]):=.inl (by simp only[List.length_append,List.length_singleton];exact aO.out.elim (fun g=>by omega) (fun g=>by rw[g];simp))
      clear E5
      obtain⟨a0,a1,V,U,Z,a5,a6,a7,X,Y,E,D,af⟩:=j.out.box
      go_wp2
      go_roundg (gk-1)
      case rel=>exact⟨.ok (adv q5),N,adv q5,-1,r',l++[⟨0,n5,n3,sNone⟩],zX _,by rw[←av.out];exact HE.out.symm,fun _=>by rw[zx];omega,aL.out,by simp,by rw[zi4],((aa.out.adv aR).set j.out 1 _),(ac.out.set (by omega) 1 _),(j.out.at1 _),(n.out.set_other (by omega) 1 _),(A.out.set j.out 1 _)⟩
      case measure=>omega
     |false=>
      obtain⟨a0,a1,V,U,Z,a5,a6,a7,X,Y,E,D,af⟩:=j.out.box
      go_wp2_with fail
      refine (zh C K J z N q5 z5 d 4 zbw _ M.out.tok aj (by decide)).mono ?_
      rintro e w7 ⟨rfl,H⟩
      rw[hc]
      replace j:=zc (j.out.below H)
      replace n:=zc (n.out.below H)
      have ac:=zc (O.out.below H)
      have aa:=zc (M.out.later H)
      have I:Hid (Row N w7 z w.heap.size r' (l++[⟨0,n5,n3,sNone⟩])):=A.out.below H
      clear A
      have A:=zc I
      clear I
      clear H O M
      clear a0 a1 V U Z a5 a6 a7 X Y E D af
      obtain⟨a0,a1,V,U,Z,a5,a6,a7,X,Y,E,D,af⟩:=j.out.box
      go_wp2_with fail
      refine (zad C K J z _ N q5 z5 d zbm _ am.out.fst aa.out).mono ?_
      rintro e w8 ⟨S8,q8,z8,rfl,i8,m8,s8⟩
      replace j:=zc (j.out.stp s8)
      replace n:=zc (n.out.stp s8)
      have ax:=zc (ac.out.step s8)
      have I:Hid (Row S8 w8 z w.heap.size r' (l++[⟨0,n5,n3,sNone⟩])):=A.out.stp s8
      clear A
      have A:=zc I
      clear I
      clear ac
      have ay:=zc m8
      have aU:=zc i8
      clear i8 m8 s8 aa
      clear a0 a1 V U Z a5 a6 a7 X Y E D af
      obtain⟨b0,b1,b2,b3,b4,b5,b6,b7,b8,b9,aG,aF,bf⟩:=n.out.box
      unfold pv
      go_wp2
      refine bodyPost_ret (zi5 rfl _ _ (w.heap.size+1) 53 _ (0,0) _ rfl ((n.out.put ..)).heap Tryz.underlying53 rfl (by kernel_rfl)) rfl ?_
      exact⟨S8,q8,z8,r',l++[⟨0,n5,n3,sNone⟩],by simp[pv,zi4],by rw[←av.out,zz,zfs];exact zmZ ab.out am.out hc aU.out,(ay.out.put n.out ..),((ax.out.put (by omega) ..)).done,(A.out.put n.out ..),by simp;omega⟩
  ·skip
   obtain⟨a0,a1,V,U,Z,a5,a6,a7,X,Y,E,D,af⟩:=j.out.box
   go_wp2_with fail
   refine (zad C K J z _ S2 q2 z2 d zbm _ aw.out ap.out).mono ?_
   rintro e w3 ⟨Q,q3,z3,rfl,i3,m3,s3⟩
   replace j:=zc (j.out.stp s3)
   replace n:=zc (n.out.stp s3)
   have aq:=zc (ao.out.step s3)
   have I:Hid (Row Q w3 z w.heap.size r l):=A.out.stp s3
   clear A
   have A:=zc I
   clear I
   clear ao
   have al:=zc m3
   have ab:=zc i3
   clear i3 m3 s3 ap
   clear a0 a1 V U Z a5 a6 a7 X Y E D af
   obtain⟨b0,b1,b2,b3,b4,b5,b6,b7,b8,b9,aG,aF,bf⟩:=n.out.box
   unfold pv
   go_wp2
   refine bodyPost_ret (zi5 rfl _ _ (w.heap.size+1) 53 _ (0,0) _ rfl ((n.out.put ..)).heap Tryz.underlying53 rfl (by kernel_rfl)) rfl ?_
   exact⟨Q,q3,z3,r,l,rfl,by rw[←av.out];exact znb aw.out (by omega) ab.out,(al.out.put n.out ..),((aq.out.put (by omega) ..)).done,(A.out.put n.out ..),by omega⟩
def SumOK (C:Cx) (gt cap base m:Nat):Prop:=∀(x:PR) (S:Sv) (q:PS) (z:Int) (d:Nat) (w:World),Is x q z→Mem C gt cap base S q w→(z<0→C.ts.length-q.pos<m)→d≤20→
 Calls Tryz.prog 75 #[pv C gt cap S q z d] w (Out C gt cap base (bd x (pE C .sum d)) d S w)
theorem zf5 {C:Cx} {o:Bool} {q z:PS} {n:Int} {j:ByteArray} (h:Is2 (bd (.ok q) (zj C o)) z n j) (A:zD C q.pos o=true):z=adv q∧n= -1∧j=(ze C q.pos).text:=by
 rw[zz,zj,if_pos A] at h
 exact h
theorem zf6 {C:Cx} {o:Bool} {q A:PS} {j:Int} {n:ByteArray} (h:Is2 (bd (.ok q) (zj C o)) A j n) (z:zD C q.pos o=false):j=(zr C q.pos:Int):=by
 rw[zz,zj,z] at h
 exact h
theorem zi8 {C:Cx} {n:ByteArray} {y:Except Nat (PS×ByteArray)} {q:PS} {z:Int} {f:ByteArray} (h:Is2 y q z f) (j:(decide (z<0)&&isT C q.pos 4 zn)=true):bd (bd (bd (zaK y) (zd C 4 zn)) (zd C 4 za0)) (zN C ⟨5,0,n,f,0,0⟩)=bd y fun a=>zbx C n a.2 a.1:=by
 rw[Bool.and_eq_true,decide_eq_true_eq] at j
 cases y with
 |ok a=>
  obtain⟨rfl,_,rfl⟩:=h
  show _=zbx C n a.2 a.1
  rw[zbx,if_pos j.2]
  rfl
 |error e=>rfl
theorem zi9 {C:Cx} {n:ByteArray} {y:Except Nat (PS×ByteArray)} {q:PS} {z:Int} {f:ByteArray} (h:Is2 y q z f) (j:(decide (z<0)&&isT C q.pos 4 zn)=false):bd (zaK y) (zN C ⟨4,0,n,f,0,0⟩)=bd y fun a=>zbx C n a.2 a.1:=by
 cases y with
 |ok a=>
  obtain⟨rfl,rfl,rfl⟩:=h
  rw[Bool.and_eq_false_iff] at j
  show _=zbx C n a.2 a.1
  rw[zbx,j.resolve_left (by decide)]
  rfl
 |error e=>rfl
theorem ziA {C:Cx} {o:Bool} {x:PR} {q:PS} {z:Int} {n:ByteArray} (h:Is2 (bd x (zj C o)) q z n):z<0→1≤q.pos:=by
 intro D
 cases j:bd x (zj C o) with
 |error e=>rw[j] at h;have:z=(e:Int):=h;omega
 |ok a=>
  rw[j] at h
  obtain⟨rfl,_,_⟩:=h
  obtain⟨b,_,A⟩:=zf j
  obtain⟨rfl,_⟩:=zbd A
  simp[adv]
theorem zne (C:Cx) (D o j:Nat) (S:Sv) (q:PS) (d:Nat) (w:World) (E:Mem C D o j S q w) (L:((ze C q.pos).kind==2)=true):
  Calls Tryz.prog 168 #[pv C D o S q (-1) d] w (Out C D o j (pE C .part d q) d S w):=by
 have HM:=zc E
 have z:=E.tok
 have X:C.ts.length≤4000:=E.few
 have aa:=(zan E.tok).1
 clear E
 have hp:q.pos<C.ts.length:=zfn L (by decide)
 have HV:Hid (pE C .part d q=bd (.ok (adv q)) (zN C ⟨1,(ze C q.pos).num,sNone,sNone,0,0⟩)):=by show pE C .part d q=_;rw[zb6,if_pos L];rfl
 obtain⟨U,_,O,_⟩:=z.cells hp (d:=⟨0,sNone,0,C.fin⟩)
 change _=some (Value.int .i64 (ze C q.pos).kind) at U
 change _=some (Value.int .i64 (ze C q.pos).num) at O
 have H:Hid (Mem C D o j S (adv q) w):=HM.out.adv hp
 generalize (ze C q.pos).kind=kd at U L
 have HN:Hid (∀n,n=(ze C q.pos).num→pE C .part d q=bd (.ok (adv q)) (zN C ⟨1,n,sNone,sNone,0,0⟩)):=fun n e=>by rw[e];exact HV.out
 generalize I:(ze C q.pos).num=nm at O
 have N:Hid (nm=(ze C q.pos).num):=I.symm
 clear I HV z
 unfold pv
 go_enter Tryz.func168,Tryz.ntmps168
 go_wp2_with fail
 refine (zcK C D o j (.ok (adv q)) S (adv q) (-1) d ⟨1,nm,sNone,sNone,0,0⟩ _ (zX _) ((H.out.alloc _).alloc _) (fun _=>by simp[adv])).mono ?_
 rintro e w1 ⟨S1,q1,z1,rfl,Z,Y,Q⟩
 obtain⟨X0,X1,V⟩:=H.out.two2 Q
 have A:=zc X1
 have J:=zc Y
 have M:=zc V
 have K:=zc Z
 clear X0 X1 Z Y V Q
 obtain⟨b0,b1,b2,b3,b4,b5,b6,b7,b8,b9,ac,ab,bf⟩:=A.out.box
 unfold pv
 go_wp2
 refine bodyPost_ret (results_cell_row rfl _ _ (w.heap.size+1) 53 _ (0,0) _ rfl ((A.out.put ..)).heap Tryz.underlying53 rfl (by kernel_rfl)) rfl ?_
 rw[HN.out nm N.out]
 exact zY rfl K.out (J.out.put A.out ..) (M.out.put (by omega) ..)
theorem znf (C:Cx) (I n j:Nat) (S:Sv) (q:PS) (d:Nat) (w:World) (J:Mem C I n j S q w) (V:((ze C q.pos).kind==2)=false) (M:isT C q.pos 4 zn=true) (hd:20≤d) (ad:d≤20):
  Calls Tryz.prog 168 #[pv C I n S q (-1) d] w (Out C I n j (pE C .part d q) d S w):=by
 have HM:=zc J
 have A:=J.tok
 have D:C.ts.length≤4000:=J.few
 have aa:=(zan J.tok).1
 clear J
 have hp:q.pos<C.ts.length:=za1 M (by decide)
 have HV:Hid (pE C .part d q= .error (zr C q.pos)):=by show pE C .part d q=_;rw[zb6,V,M];simp[hd]
 have qd:decide ((20:Int)≤(d:Int))=true:=decide_eq_true (by omega)
 obtain⟨X,_,_,_⟩:=A.cells hp (d:=⟨0,sNone,0,C.fin⟩)
 change _=some (Value.int .i64 (ze C q.pos).kind) at X
 generalize (ze C q.pos).kind=kd at X V
 unfold pv
 go_enter Tryz.func168,Tryz.ntmps168
 go_wp2_with fail
 refine (zh C I n j S q (-1) d 4 zn _ (zq (zq A _) _) D (by decide)).mono ?_
 rintro e w1 ⟨rfl,L⟩
 rw[M]
 obtain⟨X0,X1,Z,Y⟩:=HM.out.two L
 have H:=zc X0
 have z:=zc X1
 have E:=zc Z
 have K:=zc Y
 clear X0 X1 Z Y L
 obtain⟨a0,a1,a2,a3,a4,a5,a6,a7,a8,a9,O,Q,af⟩:=H.out.box
 go_wp2_with fail
 refine (zda C I n j S q (-1) d _ E.out.tok D).mono ?_
 rintro e w2 ⟨rfl,o⟩
 replace H:=zc (H.out.below o)
 replace z:=zc (z.out.below o)
 have U:=zc (K.out.below o)
 have N:=zc (E.out.later o)
 clear o K E
 clear a0 a1 a2 a3 a4 a5 a6 a7 a8 a9 O Q af
 obtain⟨b0,b1,b2,b3,b4,b5,b6,b7,b8,b9,ac,ab,bf⟩:=z.out.box
 unfold pv
 go_wp2
 refine bodyPost_ret (results_cell_row rfl _ _ (w.heap.size+1) 53 _ (0,0) _ rfl ((z.out.put ..)).heap Tryz.underlying53 rfl (by kernel_rfl)) rfl ?_
 rw[HV.out]
 exact zY rfl (show Is (.error (zr C q.pos)) q _ from rfl) (N.out.put z.out ..) (U.out.put (by omega) ..)
theorem zng (C:Cx) (A z o:Nat) (S:Sv) (q:PS) (d:Nat) (w:World) (J:Mem C A z o S q w) (hk:((ze C q.pos).kind==2)=false) (ho:isT C q.pos 4 zn=true) (hd:d<20) (hS:SumOK C A z o (C.ts.length-q.pos)):
  Calls Tryz.prog 168 #[pv C A z S q (-1) d] w (Out C A z o (pE C .part d q) d S w):=by
 have HM:=zc J
 have I:=J.tok
 have U:C.ts.length≤4000:=J.few
 have ae:=(zan J.tok).1
 clear J
 have hp:q.pos<C.ts.length:=za1 ho (by decide)
 have HV:Hid (pE C .part d q=bd (bd (.ok (adv q)) (pE C .sum (d+1))) (zd C 4 za0)):=by show pE C .part d q=_;rw[zb6,hk,ho,if_neg (by decide),if_pos rfl,if_neg (by omega)];rfl
 have HS:=zc hS
 clear hS
 have qd:decide ((20:Int)≤(d:Int))=false:=decide_eq_false (by omega)
 obtain⟨c0,_,_,_⟩:=I.cells hp (d:=⟨0,sNone,0,C.fin⟩)
 change _=some (Value.int .i64 (ze C q.pos).kind) at c0
 generalize (ze C q.pos).kind=kd at c0 hk
 unfold pv
 go_enter Tryz.func168,Tryz.ntmps168
 go_wp2_with fail
 refine (zh C A z o S q (-1) d 4 zn _ (zq (zq I _) _) U (by decide)).mono ?_
 rintro e w1 ⟨rfl,Y⟩
 rw[ho]
 obtain⟨K,O,m1,t1⟩:=HM.out.two Y
 have j:=zc K
 have n:=zc O
 have V:=zc m1
 have L:=zc t1
 clear K O m1 t1 Y
 obtain⟨a0,a1,a2,Z,a4,a5,a6,a7,a8,a9,H,E,af⟩:=j.out.box
 go_wp2_with fail
 refine (HS.out (.ok (adv q)) S (adv q) (-1) (d+1) _ (zX _) (((V.out.adv hp).set j.out 1 _).set (j.out.at1 _) 11 _) (fun _=>by show C.ts.length-(q.pos+1)<_;omega) (by omega)).mono ?_
 rintro e w2 ⟨S2,q2,z2,rfl,i2,m2,s2⟩
 replace j:=zc (((j.out.at1 _).at11 _).stp s2)
 replace n:=zc (((n.out.set_other (by omega) 1 _).set_other (by omega) 11 _).stp s2)
 have M:Hid (SB w.heap.size S w S2 w2):=((L.out.set (by omega) 1 _).set (by omega) 11 _).step s2
 clear L
 have N:=zc m2
 have ac:=zc i2
 clear i2 m2 s2 V
 clear a0 a1 a2 Z a4 a5 a6 a7 a8 a9 H E af
 go_wp2_with fail
 refine (zad C A z o _ S2 q2 z2 (d+1) za0 _ ac.out N.out).mono ?_
 rintro e w3 ⟨S3,q3,z3,rfl,i3,m3,s3⟩
 replace j:=zc (j.out.stp s3)
 replace n:=zc (n.out.stp s3)
 have Q:=zc (M.out.step s3)
 clear M
 have X:=zc m3
 have ab:=zc i3
 clear i3 m3 s3 N
 obtain⟨a0,a1,a2,Z,a4,a5,a6,a7,a8,a9,H,E,af⟩:=j.out.box
 obtain⟨D,hD⟩: ∃D:Nat,D=d+1:=⟨_,rfl⟩
 rw[←hD]
 have ag:(D:Int)-1=d:=by omega
 have aj:D≤20:=by omega
 clear hD hd qd
 unfold pv
 go_upto_region 11 with fail
 refine zL (R:=fun W=>Bx A S3 W (w.heap.size) _∧Bx A S3 W (w.heap.size+1) _∧Mem C A z o S3 q3 W∧SB w.heap.size S w S3 W) ⟨(j.out.put ..),(n.out.other (by omega) ..),(X.out.put j.out ..),(Q.out.put (by omega) ..)⟩ ?_
 clear a0 a1 a2 Z a4 a5 a6 a7 a8 a9 H E af
 clear j n Q X
 rintro w4 ⟨K,O,m4,t4⟩
 have j:=zc K
 have n:=zc O
 have ad:=zc m4
 have aa:=zc t4
 clear m4 t4 K O
 obtain⟨a0,a1,a2,Z,a4,a5,a6,a7,a8,a9,H,E,af⟩:=j.out.box
 obtain⟨b0,b1,b2,b3,b4,b5,b6,b7,b8,b9,ai,ah,bf⟩:=n.out.box
 go_wp2
 refine bodyPost_ret (results_cell_row rfl _ _ (w.heap.size+1) 53 _ (0,0) _ rfl (((n.out.set_other (by omega) 11 _).put ..)).heap Tryz.underlying53 rfl (by kernel_rfl)) rfl ?_
 rw[HV.out]
 exact zY rfl ab.out ((ad.out.set j.out 11 _).put (n.out.set_other (by omega) 11 _) ..) ((aa.out.set (by omega) 11 _).put (by omega) ..)
theorem znh (z:List Tk) (j:Nat) (H D o:Nat) (S:Sv) (q:PS) (d:Nat) (w:World) (N:Mem (Cx.mk z j true) H D o S q w) (hp: ¬q.pos<(Cx.mk z j true).ts.length):
  Calls Tryz.prog 168 #[pv (Cx.mk z j true) H D S q (-1) d] w (Out (Cx.mk z j true) H D o (pE (Cx.mk z j true) .part d q) d S w):=by
 have HM:=zc N
 have V:=N.tok
 have I:(Cx.mk z j true).ts.length≤4000:=N.few
 have ah:=(zan N.tok).1
 clear N
 have hk:((ze (Cx.mk z j true) q.pos).kind==2)=false:=by rw[zdl (by omega)];rfl
 have ho:isT (Cx.mk z j true) q.pos 4 zn=false:=zeE hp (by decide)
 have hu:isT (Cx.mk z j true) q.pos 1 za7=false:=zeE hp (by decide)
 have hn:zD (Cx.mk z j true) q.pos false=false:=zg0 hp
 have HV:Hid (pE (Cx.mk z j true) .part d q= .error (zr (Cx.mk z j true) q.pos)):=by show pE (Cx.mk z j true) .part d q=_;rw[zb6,hk,ho,hu,zj,hn];rfl
 have al: ¬q.pos<z.length:=hp
 unfold pv
 go_enter Tryz.func168,Tryz.ntmps168
 go_wp2_with fail
 refine (zh (Cx.mk z j true) H D o S q (-1) d 4 zn _ (zq (zq V _) _) I (by decide)).mono ?_
 rintro e w1 ⟨rfl,aa⟩
 rw[ho]
 obtain⟨O,Y,m1,t1⟩:=HM.out.two aa
 have A:=zc O
 have n:=zc Y
 have K:=zc m1
 have Q:=zc t1
 clear O Y m1 t1 aa
 obtain⟨a0,a1,a2,a3,a4,a5,a6,a7,a8,a9,M,J,af⟩:=A.out.box
 go_wp2_with fail
 refine (zh (Cx.mk z j true) H D o S q (-1) d 1 za7 _ K.out.tok I (by decide)).mono ?_
 rintro e w2 ⟨rfl,E⟩
 rw[hu]
 replace A:=zc (A.out.below E)
 replace n:=zc (n.out.below E)
 have U:=zc (Q.out.below E)
 have X:=zc (K.out.later E)
 clear E Q K
 clear a0 a1 a2 a3 a4 a5 a6 a7 a8 a9 M J af
 obtain⟨a0,a1,a2,a3,a4,a5,a6,a7,a8,a9,M,J,af⟩:=A.out.box
 go_wp2_with fail
 refine (zbe (Cx.mk z j true) H D o (.ok q) S q (-1) d false _ (zX q) X.out).mono ?_
 rintro e w3 ⟨S3,q3,z3,n3,rfl,i3,m3,s3⟩
 replace A:=zc (A.out.stp s3)
 replace n:=zc (n.out.stp s3)
 have Z:=zc (U.out.step s3)
 clear U
 have L:=zc m3
 have ac:=zc i3
 clear i3 m3 s3 X
 clear a0 a1 a2 a3 a4 a5 a6 a7 a8 a9 M J af
 obtain rfl:=zf6 ac.out hn
 have dz:decide ((0:Int)≤(zr (Cx.mk z j true) q.pos:Int))=true:=decide_eq_true (by omega)
 have ag:w.heap.size+1<w3.heap.size:=n.out.lt
 unfold pv
 go_upto_region 17 with fail
 refine zL (R:=fun W=>Bx H S3 W (w.heap.size) _∧Bx H S3 W (w.heap.size+1) _∧Bx H S3 W (w3.heap.size) _∧Mem (Cx.mk z j true) H D o S3 q3 W∧SB w.heap.size S w S3 W) ⟨(A.out.alloc _),(n.out.alloc _),(Bx.new L.out _),(L.out.alloc _),(Z.out.alloc _)⟩ ?_
 clear A n Z L
 rintro w4 ⟨O,Y,X2,m4,t4⟩
 have A:=zc O
 have n:=zc Y
 have ae:=zc X2
 have ad:=zc m4
 have ab:=zc t4
 clear m4 t4 O Y X2
 obtain⟨b0,b1,b2,b3,b4,b5,b6,b7,b8,b9,aj,ai,bf⟩:=n.out.box
 obtain⟨c0,c1,c2,c3,c4,c5,c6,c7,c8,c9,ak,am,cf⟩:=ae.out.box
 go_wp2
 refine bodyPost_ret (results_cell_row rfl _ _ (w.heap.size+1) 53 _ (0,0) _ rfl ((n.out.put ..)).heap Tryz.underlying53 rfl (by kernel_rfl)) rfl ?_
 rw[HV.out]
 exact zY rfl (show Is (.error (zr (Cx.mk z j true) q.pos)) q3 _ from rfl) (ad.out.put n.out ..) (ab.out.put (by omega) ..)
theorem zni (o:List Tk) (j:Nat) (H D z:Nat) (S:Sv) (q:PS) (d:Nat) (w:World) (O:Mem (Cx.mk o j true) H D z S q w) (hk:((ze (Cx.mk o j true) q.pos).kind==2)=false) (ho:isT (Cx.mk o j true) q.pos 4 zn=false) (hp:q.pos<(Cx.mk o j true).ts.length) (hu:isT (Cx.mk o j true) q.pos 1 za7=false) (hn:zD (Cx.mk o j true) q.pos false=false):
  Calls Tryz.prog 168 #[pv (Cx.mk o j true) H D S q (-1) d] w (Out (Cx.mk o j true) H D z (pE (Cx.mk o j true) .part d q) d S w):=by
 have HM:=zc O
 have I:=O.tok
 have J:(Cx.mk o j true).ts.length≤4000:=O.few
 have ah:=(zan O.tok).1
 clear O
 have HV:Hid (pE (Cx.mk o j true) .part d q= .error (zr (Cx.mk o j true) q.pos)):=by show pE (Cx.mk o j true) .part d q=_;rw[zb6,hk,ho,hu,zj,hn];rfl
 have al:q.pos<o.length:=hp
 obtain⟨c0,_,_,_⟩:=I.cells hp (d:=⟨0,sNone,0,(Cx.mk o j true).fin⟩)
 change _=some (Value.int .i64 (ze (Cx.mk o j true) q.pos).kind) at c0
 generalize (ze (Cx.mk o j true) q.pos).kind=kd at c0 hk
 unfold pv
 go_enter Tryz.func168,Tryz.ntmps168
 go_wp2_with fail
 refine (zh (Cx.mk o j true) H D z S q (-1) d 4 zn _ (zq (zq I _) _) J (by decide)).mono ?_
 rintro e w1 ⟨rfl,aa⟩
 rw[ho]
 obtain⟨Q,Y,m1,t1⟩:=HM.out.two aa
 have A:=zc Q
 have n:=zc Y
 have L:=zc m1
 have U:=zc t1
 clear Q Y m1 t1 aa
 obtain⟨a0,a1,a2,a3,a4,a5,a6,a7,a8,a9,N,K,af⟩:=A.out.box
 go_wp2_with fail
 refine (zh (Cx.mk o j true) H D z S q (-1) d 1 za7 _ L.out.tok J (by decide)).mono ?_
 rintro e w2 ⟨rfl,E⟩
 rw[hu]
 replace A:=zc (A.out.below E)
 replace n:=zc (n.out.below E)
 have V:=zc (U.out.below E)
 have X:=zc (L.out.later E)
 clear E U L
 clear a0 a1 a2 a3 a4 a5 a6 a7 a8 a9 N K af
 obtain⟨a0,a1,a2,a3,a4,a5,a6,a7,a8,a9,N,K,af⟩:=A.out.box
 go_wp2_with fail
 refine (zbe (Cx.mk o j true) H D z (.ok q) S q (-1) d false _ (zX q) X.out).mono ?_
 rintro e w3 ⟨S3,q3,z3,n3,rfl,i3,m3,s3⟩
 replace A:=zc (A.out.stp s3)
 replace n:=zc (n.out.stp s3)
 have Z:=zc (V.out.step s3)
 clear V
 have M:=zc m3
 have ac:=zc i3
 clear i3 m3 s3 X
 clear a0 a1 a2 a3 a4 a5 a6 a7 a8 a9 N K af
 obtain rfl:=zf6 ac.out hn
 have dz:decide ((0:Int)≤(zr (Cx.mk o j true) q.pos:Int))=true:=decide_eq_true (by omega)
 have ag:w.heap.size+1<w3.heap.size:=n.out.lt
 unfold pv
 go_upto_region 17 with fail
 refine zL (R:=fun W=>Bx H S3 W (w.heap.size) _∧Bx H S3 W (w.heap.size+1) _∧Bx H S3 W (w3.heap.size) _∧Mem (Cx.mk o j true) H D z S3 q3 W∧SB w.heap.size S w S3 W) ⟨(A.out.alloc _),(n.out.alloc _),(Bx.new M.out _),(M.out.alloc _),(Z.out.alloc _)⟩ ?_
 clear A n Z M
 rintro w4 ⟨Q,Y,X2,m4,t4⟩
 have A:=zc Q
 have n:=zc Y
 have ae:=zc X2
 have ad:=zc m4
 have ab:=zc t4
 clear m4 t4 Q Y X2
 obtain⟨b0,b1,b2,b3,b4,b5,b6,b7,b8,b9,aj,ai,bf⟩:=n.out.box
 obtain⟨c0,c1,c2,c3,c4,c5,c6,c7,c8,c9,ak,am,cf⟩:=ae.out.box
 go_wp2
 refine bodyPost_ret (results_cell_row rfl _ _ (w.heap.size+1) 53 _ (0,0) _ rfl ((n.out.put ..)).heap Tryz.underlying53 rfl (by kernel_rfl)) rfl ?_
 rw[HV.out]
 exact zY rfl (show Is (.error (zr (Cx.mk o j true) q.pos)) q3 _ from rfl) (ad.out.put n.out ..) (ab.out.put (by omega) ..)
theorem ziB (I:List Tk) (o:Nat) (H A n:Nat) (S:Sv) (q:PS) (d:Nat) (w:World) (O:Mem (Cx.mk I o true) H A n S q w) (D:Nat):
  Calls Tryz.prog 168 #[pv (Cx.mk I o true) H A S q (D:Int) d] w (Out (Cx.mk I o true) H A n (.error D) d S w):=by
 have HM:=zc O
 have X:=O.tok
 have J:(Cx.mk I o true).ts.length≤4000:=O.few
 have ai:=(zan O.tok).1
 clear O
 have hz: ¬(D:Int)<0:=by omega
 have hs: ∀k s,(decide ((D:Int)<0)&&isT (Cx.mk I o true) q.pos k s)=false:=fun k s=>by rw[decide_eq_false hz];rfl
 unfold pv
 go_enter Tryz.func168,Tryz.ntmps168
 go_wp2_with fail
 refine (zh (Cx.mk I o true) H A n S q (D:Int) d 4 zn _ (zq (zq X _) _) J (by decide)).mono ?_
 rintro e w1 ⟨rfl,ab⟩
 rw[hs]
 obtain⟨Q,Z,m1,t1⟩:=HM.out.two ab
 have z:=zc Q
 have j:=zc Z
 have L:=zc m1
 have U:=zc t1
 clear Q Z m1 t1 ab
 obtain⟨a0,a1,a2,a3,a4,a5,a6,a7,a8,a9,N,K,af⟩:=z.out.box
 go_wp2_with fail
 refine (zh (Cx.mk I o true) H A n S q (D:Int) d 1 za7 _ L.out.tok J (by decide)).mono ?_
 rintro e w2 ⟨rfl,E⟩
 rw[hs]
 replace z:=zc (z.out.below E)
 replace j:=zc (j.out.below E)
 have V:=zc (U.out.below E)
 have Y:=zc (L.out.later E)
 clear E U L
 clear a0 a1 a2 a3 a4 a5 a6 a7 a8 a9 N K af
 obtain⟨a0,a1,a2,a3,a4,a5,a6,a7,a8,a9,N,K,af⟩:=z.out.box
 go_wp2_with fail
 refine (zbe (Cx.mk I o true) H A n (.error D) S q (D:Int) d false _ (show Is (.error D) q _ from rfl) Y.out).mono ?_
 rintro e w3 ⟨S3,q3,z3,n3,rfl,i3,m3,s3⟩
 replace z:=zc (z.out.stp s3)
 replace j:=zc (j.out.stp s3)
 have aa:=zc (V.out.step s3)
 clear V
 have M:=zc m3
 have ad:=zc i3
 clear i3 m3 s3 Y
 clear a0 a1 a2 a3 a4 a5 a6 a7 a8 a9 N K af
 obtain rfl:z3=(D:Int):=ad.out
 have dz:decide ((0:Int)≤(D:Int))=true:=decide_eq_true (by omega)
 have ah:w.heap.size+1<w3.heap.size:=j.out.lt
 unfold pv
 go_upto_region 17 with fail
 refine zL (R:=fun W=>Bx H S3 W (w.heap.size) _∧Bx H S3 W (w.heap.size+1) _∧Bx H S3 W (w3.heap.size) _∧Mem (Cx.mk I o true) H A n S3 q3 W∧SB w.heap.size S w S3 W) ⟨(z.out.alloc _),(j.out.alloc _),(Bx.new M.out _),(M.out.alloc _),(aa.out.alloc _)⟩ ?_
 clear z j aa M
 rintro w4 ⟨Q,Z,X2,m4,t4⟩
 have z:=zc Q
 have j:=zc Z
 have ag:=zc X2
 have ae:=zc m4
 have ac:=zc t4
 clear m4 t4 Q Z X2
 obtain⟨b0,b1,b2,b3,b4,b5,b6,b7,b8,b9,ak,aj,bf⟩:=j.out.box
 obtain⟨c0,c1,c2,c3,c4,c5,c6,c7,c8,c9,al,am,cf⟩:=ag.out.box
 go_wp2
 refine bodyPost_ret (results_cell_row rfl _ _ (w.heap.size+1) 53 _ (0,0) _ rfl ((j.out.put ..)).heap Tryz.underlying53 rfl (by kernel_rfl)) rfl ?_
 exact zY rfl (show Is (.error D) q3 _ from rfl) (ae.out.put j.out ..) (ac.out.put (by omega) ..)
theorem znj (n:List Tk) (j:Nat) (M D o:Nat) (S:Sv) (q:PS) (d:Nat) (w:World) (N:Mem (Cx.mk n j true) M D o S q w) (hk:((ze (Cx.mk n j true) q.pos).kind==2)=false) (ho:isT (Cx.mk n j true) q.pos 4 zn=false) (hp:q.pos<(Cx.mk n j true).ts.length) (hu:isT (Cx.mk n j true) q.pos 1 za7=true):
  Calls Tryz.prog 168 #[pv (Cx.mk n j true) M D S q (-1) d] w (Out (Cx.mk n j true) M D o (pE (Cx.mk n j true) .part d q) d S w):=by
 have HM:=zc N
 have H:=N.tok
 have I:(Cx.mk n j true).ts.length≤4000:=N.few
 have ac:=(zan N.tok).1
 clear N
 have HV:Hid (pE (Cx.mk n j true) .part d q=zbc (Cx.mk n j true) za7 (adv q)):=by show pE (Cx.mk n j true) .part d q=_;rw[zb6,hk,ho,hu];rfl
 have ad:q.pos<n.length:=hp
 obtain⟨c0,_,_,_⟩:=H.cells hp (d:=⟨0,sNone,0,(Cx.mk n j true).fin⟩)
 change _=some (Value.int .i64 (ze (Cx.mk n j true) q.pos).kind) at c0
 generalize (ze (Cx.mk n j true) q.pos).kind=kd at c0 hk
 unfold pv
 go_enter Tryz.func168,Tryz.ntmps168
 go_wp2_with fail
 refine (zh (Cx.mk n j true) M D o S q (-1) d 4 zn _ (zq (zq H _) _) I (by decide)).mono ?_
 rintro e w1 ⟨rfl,U⟩
 rw[ho]
 obtain⟨X0,X1,m1,t1⟩:=HM.out.two U
 have z:=zc X0
 have A:=zc X1
 have J:=zc m1
 have Q:=zc t1
 clear X0 X1 m1 t1 U
 obtain⟨a0,a1,a2,a3,a4,a5,a6,a7,Y,a9,K,L,af⟩:=z.out.box
 go_wp2_with fail
 refine (zh (Cx.mk n j true) M D o S q (-1) d 1 za7 _ J.out.tok I (by decide)).mono ?_
 rintro e w2 ⟨rfl,E⟩
 rw[hu]
 replace z:=zc (z.out.below E)
 replace A:=zc (A.out.below E)
 have V:=zc (Q.out.below E)
 have O:=zc (J.out.later E)
 clear E Q J
 clear a0 a1 a2 a3 a4 a5 a6 a7 Y a9 K L af
 obtain⟨a0,a1,a2,a3,a4,a5,a6,a7,Y,a9,K,L,af⟩:=z.out.box
 go_wp2_with fail
 refine (zgD (Cx.mk n j true) M D o S (adv q) d za7 _ ((O.out.adv hp).set z.out 1 _) (by simp[adv])).mono ?_
 rintro e w3 ⟨S3,q3,z3,rfl,i3,m3,X⟩
 replace z:=zc ((z.out.at1 _).stp X)
 replace A:=zc ((A.out.set_other (by omega) 1 _).stp X)
 have Z:Hid (SB w.heap.size S w S3 w3):=(V.out.set (by omega) 1 _).step X
 clear V
 have aa:=zc m3
 have ab:=zc i3
 clear i3 m3 X O
 clear a0 a1 a2 a3 a4 a5 a6 a7 Y a9 K L af
 obtain⟨b0,b1,b2,b3,b4,b5,b6,b7,b8,b9,ag,ae,bf⟩:=A.out.box
 unfold pv
 go_wp2
 refine bodyPost_ret (results_cell_row rfl _ _ (w.heap.size+1) 53 _ (0,0) _ rfl ((A.out.put ..)).heap Tryz.underlying53 rfl (by kernel_rfl)) rfl ?_
 rw[HV.out]
 exact zY rfl ab.out (aa.out.put A.out ..) (Z.out.put (by omega) ..)
theorem znk (n:List Tk) (j:Nat) (J D o:Nat) (S:Sv) (q:PS) (d:Nat) (w:World) (V:Mem (Cx.mk n j true) J D o S q w) (hk:((ze (Cx.mk n j true) q.pos).kind==2)=false) (ho:isT (Cx.mk n j true) q.pos 4 zn=false) (hp:q.pos<(Cx.mk n j true).ts.length) (hu:isT (Cx.mk n j true) q.pos 1 za7=false) (hn:zD (Cx.mk n j true) q.pos false=true) (hd:isT (Cx.mk n j true) (q.pos+1) 4 cPoint=false):
  Calls Tryz.prog 168 #[pv (Cx.mk n j true) J D S q (-1) d] w (Out (Cx.mk n j true) J D o (pE (Cx.mk n j true) .part d q) d S w):=by
 have HM:=zc V
 have L:=V.tok
 have I:(Cx.mk n j true).ts.length≤4000:=V.few
 have aq:=(zan V.tok).1
 clear V
 have HV:Hid (pE (Cx.mk n j true) .part d q=zbc (Cx.mk n j true) (ze (Cx.mk n j true) q.pos).text (adv q)):=by show pE (Cx.mk n j true) .part d q=_;rw[zb6,hk,ho,hu,zj,hn];show (if isT (Cx.mk n j true) (adv q).pos 4 cPoint then _ else _)=_;rw[zx,hd];rfl
 have av:q.pos<n.length:=hp
 obtain⟨c0,_,_,_⟩:=L.cells hp (d:=⟨0,sNone,0,(Cx.mk n j true).fin⟩)
 change _=some (Value.int .i64 (ze (Cx.mk n j true) q.pos).kind) at c0
 generalize (ze (Cx.mk n j true) q.pos).kind=kd at c0 hk
 unfold pv
 go_enter Tryz.func168,Tryz.ntmps168
 go_wp2_with fail
 refine (zh (Cx.mk n j true) J D o S q (-1) d 4 zn _ (zq (zq L _) _) I (by decide)).mono ?_
 rintro e w1 ⟨rfl,ah⟩
 rw[ho]
 obtain⟨X0,X1,m1,t1⟩:=HM.out.two ah
 have A:=zc X0
 have z:=zc X1
 have N:=zc m1
 have Y:=zc t1
 clear X0 X1 m1 t1 ah
 obtain⟨a0,a1,a2,a3,a4,a5,a6,a7,a8,a9,Q,M,af⟩:=A.out.box
 go_wp2_with fail
 refine (zh (Cx.mk n j true) J D o S q (-1) d 1 za7 _ N.out.tok I (by decide)).mono ?_
 rintro e w2 ⟨rfl,H⟩
 rw[hu]
 replace A:=zc (A.out.below H)
 replace z:=zc (z.out.below H)
 have aa:=zc (Y.out.below H)
 have ab:=zc (N.out.later H)
 clear H Y N
 clear a0 a1 a2 a3 a4 a5 a6 a7 a8 a9 Q M af
 obtain⟨a0,a1,a2,a3,a4,a5,a6,a7,a8,a9,Q,M,af⟩:=A.out.box
 go_wp2_with fail
 refine (zbe (Cx.mk n j true) J D o (.ok q) S q (-1) d false _ (zX q) ab.out).mono ?_
 rintro e w3 ⟨S3,q3,z3,n3,rfl,i3,m3,s3⟩
 replace A:=zc (A.out.stp s3)
 replace z:=zc (z.out.stp s3)
 have ad:=zc (aa.out.step s3)
 clear aa
 have K:=zc m3
 have Z:=zc i3
 clear i3 m3 s3 ab
 clear a0 a1 a2 a3 a4 a5 a6 a7 a8 a9 Q M af
 obtain⟨hq,rfl,ac⟩:=zf5 Z.out hn
 have HQ:=zc hq
 have an:=zc ac
 have ae:q3.pos=q.pos+1:=by rw[hq];rfl
 have ak:isT (Cx.mk n j true) q3.pos 4 cPoint=false:=by rw[ae];exact hd
 clear hq ac Z
 have ap:w.heap.size+1<w3.heap.size:=z.out.lt
 unfold pv
 clear ae
 go_wp2_with fail
 refine (zh (Cx.mk n j true) J D o S3 q3 (-1) d 4 cPoint _ (K.out.alloc _).tok I (by decide)).mono ?_
 rintro e w4 ⟨rfl,E⟩
 rw[ak]
 replace A:=zc ((A.out.alloc _).below E)
 replace z:=zc ((z.out.alloc _).below E)
 replace O:=zc ((Bx.new K.out _).below E)
 have X:Hid (SB w.heap.size S w S3 w4):=(ad.out.alloc _).below E
 have ag:Hid (Mem (Cx.mk n j true) J D o S3 q3 w4):=(K.out.alloc _).later E
 clear E ad K
 obtain⟨c0,c1,c2,c3,c4,c5,c6,c7,c8,c9,al,am,cf⟩:=O.out.box
 go_wp2_with fail
 refine (zgD (Cx.mk n j true) J D o S3 q3 d n3 _ ag.out (by rw[HQ.out];simp[adv])).mono ?_
 rintro e w5 ⟨S5,q5,z5,rfl,i5,m5,U⟩
 replace A:=zc (A.out.stp U)
 replace z:=zc (z.out.stp U)
 replace O:=zc (O.out.stp U)
 have ai:=zc (X.out.step U)
 clear X
 have ao:=zc m5
 have aj:=zc i5
 clear i5 m5 U ag
 clear c0 c1 c2 c3 c4 c5 c6 c7 c8 c9 al am cf
 obtain⟨b0,b1,b2,b3,b4,b5,b6,b7,b8,b9,au,ar,bf⟩:=z.out.box
 unfold pv
 go_wp2
 refine bodyPost_ret (results_cell_row rfl _ _ (w.heap.size+1) 53 _ (0,0) _ rfl ((z.out.put ..)).heap Tryz.underlying53 rfl (by kernel_rfl)) rfl ?_
 rw[HV.out,←HQ.out,←an.out]
 exact zY rfl aj.out (ao.out.put z.out ..) (ai.out.put (by omega) ..)
theorem znl (A:List Tk) (j:Nat) (J D o:Nat) (S:Sv) (q:PS) (d:Nat) (w:World) (hm:Mem (Cx.mk A j true) J D o S q w) (hk:((ze (Cx.mk A j true) q.pos).kind==2)=false) (ho:isT (Cx.mk A j true) q.pos 4 zn=false) (hp:q.pos<(Cx.mk A j true).ts.length) (hu:isT (Cx.mk A j true) q.pos 1 za7=false) (hn:zD (Cx.mk A j true) q.pos false=true) (hd:isT (Cx.mk A j true) (q.pos+1) 4 cPoint=true):
  Calls Tryz.prog 168 #[pv (Cx.mk A j true) J D S q (-1) d] w (Out (Cx.mk A j true) J D o (pE (Cx.mk A j true) .part d q) d S w):=by
 have HM:=zc hm
 have ad:=hm.tok
 have K:(Cx.mk A j true).ts.length≤4000:=hm.few
 have aM:=(zan hm.tok).1
 clear hm
 have HV:Hid (pE (Cx.mk A j true) .part d q=bd (bd (.ok (adv (adv q))) (zj (Cx.mk A j true) true)) fun y=>zbx (Cx.mk A j true) (ze (Cx.mk A j true) q.pos).text y.2 y.1):=by show pE (Cx.mk A j true) .part d q=_;rw[zb6,hk,ho,hu,zj,hn];show (if isT (Cx.mk A j true) (adv q).pos 4 cPoint then _ else _)=_;rw[zx,hd];rfl
 have aN:q.pos<A.length:=hp
 obtain⟨c0,_,_,_⟩:=ad.cells hp (d:=⟨0,sNone,0,(Cx.mk A j true).fin⟩)
 change _=some (Value.int .i64 (ze (Cx.mk A j true) q.pos).kind) at c0
 generalize (ze (Cx.mk A j true) q.pos).kind=kd at c0 hk
 unfold pv
 go_enter Tryz.func168,Tryz.ntmps168
 go_wp2_with fail
 refine (zh (Cx.mk A j true) J D o S q (-1) d 4 zn _ (zq (zq ad _) _) K (by decide)).mono ?_
 rintro e w1 ⟨rfl,aA⟩
 rw[ho]
 obtain⟨X0,X1,m1,t1⟩:=HM.out.two aA
 have z:=zc X0
 have n:=zc X1
 have ah:=zc m1
 have ak:=zc t1
 clear X0 X1 m1 t1 aA
 obtain⟨a0,a1,a2,a3,a4,a5,a6,a7,a8,a9,ai,ae,af⟩:=z.out.box
 go_wp2_with fail
 refine (zh (Cx.mk A j true) J D o S q (-1) d 1 za7 _ ah.out.tok K (by decide)).mono ?_
 rintro e w2 ⟨rfl,Q⟩
 rw[hu]
 replace z:=zc (z.out.below Q)
 replace n:=zc (n.out.below Q)
 have an:=zc (ak.out.below Q)
 have ao:=zc (ah.out.later Q)
 clear Q ak ah
 clear a0 a1 a2 a3 a4 a5 a6 a7 a8 a9 ai ae af
 obtain⟨a0,a1,a2,a3,a4,a5,a6,a7,a8,a9,ai,ae,af⟩:=z.out.box
 go_wp2_with fail
 refine (zbe (Cx.mk A j true) J D o (.ok q) S q (-1) d false _ (zX q) ao.out).mono ?_
 rintro e w3 ⟨S3,q3,z3,n3,rfl,i3,m3,s3⟩
 replace z:=zc (z.out.stp s3)
 replace n:=zc (n.out.stp s3)
 have aq:=zc (an.out.step s3)
 clear an
 have ac:=zc m3
 have am:=zc i3
 clear i3 m3 s3 ao
 clear a0 a1 a2 a3 a4 a5 a6 a7 a8 a9 ai ae af
 obtain⟨hq,rfl,ap⟩:=zf5 am.out hn
 have HQ:=zc hq
 have av:=zc ap
 have ar:q3.pos=q.pos+1:=by rw[hq];rfl
 have al:isT (Cx.mk A j true) q3.pos 4 cPoint=true:=by rw[ar];exact hd
 clear hq ap am
 have aJ:w.heap.size+1<w3.heap.size:=n.out.lt
 unfold pv
 clear ar
 go_wp2_with fail
 refine (zh (Cx.mk A j true) J D o S3 q3 (-1) d 4 cPoint _ (ac.out.alloc _).tok K (by decide)).mono ?_
 rintro e w4 ⟨rfl,N⟩
 rw[al]
 replace z:=zc ((z.out.alloc _).below N)
 replace n:=zc ((n.out.alloc _).below N)
 replace E:=zc ((Bx.new ac.out _).below N)
 have aj:Hid (SB w.heap.size S w S3 w4):=(aq.out.alloc _).below N
 have au:Hid (Mem (Cx.mk A j true) J D o S3 q3 w4):=(ac.out.alloc _).later N
 clear N aq ac
 obtain⟨c0,c1,c2,c3,c4,c5,c6,c7,c8,c9,aE,aG,cf⟩:=E.out.box
 have ax:q3.pos<(Cx.mk A j true).ts.length:=za1 al (by decide)
 have aK:q3.pos<A.length:=ax
 go_wp2_with fail
 refine (zbe (Cx.mk A j true) J D o (.ok (adv q3)) S3 (adv q3) (-1) d true _ (zX _) ((au.out.adv ax).set E.out 1 _)).mono ?_
 rintro e w5 ⟨S5,q5,z5,n5,rfl,i5,m5,s5⟩
 replace z:=zc ((z.out.set_other (by omega) 1 _).stp s5)
 replace n:=zc ((n.out.set_other (by omega) 1 _).stp s5)
 replace E:=zc ((E.out.at1 _).stp s5)
 have Z:Hid (SB w.heap.size S w S5 w5):=(aj.out.set (by omega) 1 _).step s5
 clear aj
 have L:=zc m5
 have O:=zc i5
 clear i5 m5 s5 au
 clear c0 c1 c2 c3 c4 c5 c6 c7 c8 c9 aE aG cf
 have aL:w.heap.size+1<w5.heap.size:=n.out.lt
 have aB:w3.heap.size<w5.heap.size:=E.out.lt
 cases hc:(decide (z5<0)&&isT (Cx.mk A j true) q5.pos 4 zn) with
 |true=>
  unfold pv
  go_wp2_with fail
  refine (zh (Cx.mk A j true) J D o S5 q5 z5 d 4 zn _ (L.out.alloc _).tok K (by decide)).mono ?_
  rintro e w6 ⟨rfl,H⟩
  rw[hc]
  replace z:=zc ((z.out.alloc _).below H)
  replace n:=zc ((n.out.alloc _).below H)
  replace E:=zc ((E.out.alloc _).below H)
  replace I:=zc ((Bx.new L.out _).below H)
  have V:Hid (SB w.heap.size S w S5 w6):=(Z.out.alloc _).below H
  have U:Hid (Mem (Cx.mk A j true) J D o S5 q5 w6):=(L.out.alloc _).later H
  clear H Z L
  obtain⟨d0,d1,d2,d3,d4,d5,d6,d7,d8,d9,Y,X,df⟩:=I.out.box
  go_wp2_with fail
  refine (zad (Cx.mk A j true) J D o _ S5 q5 z5 d zn _ O.out.fst U.out).mono ?_
  rintro e w7 ⟨S7,q7,z7,rfl,i7,m7,M⟩
  replace z:=zc (z.out.stp M)
  replace n:=zc (n.out.stp M)
  replace E:=zc (E.out.stp M)
  replace I:=zc (I.out.stp M)
  have ab:=zc (V.out.step M)
  clear V
  have aa:=zc m7
  have ag:=zc i7
  clear i7 m7 M U
  clear d0 d1 d2 d3 d4 d5 d6 d7 d8 d9 Y X df
  go_wp2_with fail
  refine (zad (Cx.mk A j true) J D o _ S7 q7 z7 d za0 _ ag.out aa.out).mono ?_
  rintro e w8 ⟨S8,q8,z8,rfl,i8,m8,s8⟩
  replace z:=zc (z.out.stp s8)
  replace n:=zc (n.out.stp s8)
  replace E:=zc (E.out.stp s8)
  replace I:=zc (I.out.stp s8)
  have ay:=zc (ab.out.step s8)
  clear ab
  have az:=zc m8
  have aw:=zc i8
  clear i8 m8 s8 aa
  obtain⟨d0,d1,d2,d3,d4,d5,d6,d7,d8,d9,Y,X,df⟩:=I.out.box
  unfold pv
  go_wp2_with fail
  refine (zcK (Cx.mk A j true) J D o _ S8 q8 z8 d ⟨5,0,n3,n5,0,0⟩ _ aw.out (az.out.put I.out ..) (zbh aw.out)).mono ?_
  rintro e w9 ⟨S9,q9,z9,rfl,i9,m9,s9⟩
  replace z:=zc ((z.out.other (by omega) ..).stp s9)
  replace n:=zc ((n.out.other (by omega) ..).stp s9)
  replace E:=zc ((E.out.other (by omega) ..).stp s9)
  replace I:=zc ((I.out.put ..).stp s9)
  have aH:Hid (SB w.heap.size S w S9 w9):=(ay.out.put (by omega) ..).step s9
  clear ay
  have aI:=zc m9
  have aF:=zc i9
  clear i9 m9 s9 az
  clear d0 d1 d2 d3 d4 d5 d6 d7 d8 d9 Y X df
  obtain⟨b0,b1,b2,b3,b4,b5,b6,b7,b8,b9,aD,aC,bf⟩:=n.out.box
  unfold pv
  go_wp2
  refine bodyPost_ret (results_cell_row rfl _ _ (w.heap.size+1) 53 _ (0,0) _ rfl ((n.out.put ..)).heap Tryz.underlying53 rfl (by kernel_rfl)) rfl ?_
  rw[HV.out,←HQ.out,←av.out,←zi8 O.out hc]
  exact zY rfl aF.out (aI.out.put n.out ..) (aH.out.put (by omega) ..)
 |false=>
  unfold pv
  go_wp2_with fail
  refine (zh (Cx.mk A j true) J D o S5 q5 z5 d 4 zn _ (L.out.alloc _).tok K (by decide)).mono ?_
  rintro e w6 ⟨rfl,H⟩
  rw[hc]
  replace z:=zc ((z.out.alloc _).below H)
  replace n:=zc ((n.out.alloc _).below H)
  replace E:=zc ((E.out.alloc _).below H)
  replace I:=zc ((Bx.new L.out _).below H)
  have V:Hid (SB w.heap.size S w S5 w6):=(Z.out.alloc _).below H
  have U:Hid (Mem (Cx.mk A j true) J D o S5 q5 w6):=(L.out.alloc _).later H
  clear H Z L
  obtain⟨d0,d1,d2,d3,d4,d5,d6,d7,d8,d9,Y,X,df⟩:=I.out.box
  go_wp2_with fail
  refine (zcK (Cx.mk A j true) J D o _ S5 q5 z5 d ⟨4,0,n3,n5,0,0⟩ _ O.out.fst U.out (ziA O.out)).mono ?_
  rintro e w7 ⟨S7,q7,z7,rfl,i7,m7,M⟩
  replace z:=zc (z.out.stp M)
  replace n:=zc (n.out.stp M)
  replace E:=zc (E.out.stp M)
  replace I:=zc (I.out.stp M)
  have ab:=zc (V.out.step M)
  clear V
  have aa:=zc m7
  have ag:=zc i7
  clear i7 m7 M U
  clear d0 d1 d2 d3 d4 d5 d6 d7 d8 d9 Y X df
  obtain⟨b0,b1,b2,b3,b4,b5,b6,b7,b8,b9,aD,aC,bf⟩:=n.out.box
  unfold pv
  go_wp2
  refine bodyPost_ret (results_cell_row rfl _ _ (w.heap.size+1) 53 _ (0,0) _ rfl ((n.out.put ..)).heap Tryz.underlying53 rfl (by kernel_rfl)) rfl ?_
  rw[HV.out,←HQ.out,←av.out,←zi9 O.out hc]
  exact zY rfl ag.out (aa.out.put n.out ..) (ab.out.put (by omega) ..)
theorem znm (o:List Tk) (j:Nat) (E A z:Nat) (S:Sv) (q:PS) (d:Nat) (w:World) (I:Mem (Cx.mk o j false) E A z S q w) (X: ¬q.pos<(Cx.mk o j false).ts.length):
  Calls Tryz.prog 168 #[pv (Cx.mk o j false) E A S q (-1) d] w (Out (Cx.mk o j false) E A z (pE (Cx.mk o j false) .part d q) d S w):=by
 have HM:=zc I
 have M:=I.tok
 have Q:(Cx.mk o j false).ts.length≤4000:=I.few
 have ah:=(zan I.tok).1
 clear I
 have hk:((ze (Cx.mk o j false) q.pos).kind==2)=false:=by rw[zdl (by omega)];rfl
 have ho:isT (Cx.mk o j false) q.pos 4 zn=false:=zeE X (by decide)
 have hu:isT (Cx.mk o j false) q.pos 1 za7=false:=zeE X (by decide)
 have hn:zD (Cx.mk o j false) q.pos false=false:=zg0 X
 have HV:Hid (pE (Cx.mk o j false) .part d q= .error (zr (Cx.mk o j false) q.pos)):=by show pE (Cx.mk o j false) .part d q=_;rw[zb6,hk,ho,zj,hn];rfl
 have al: ¬q.pos<o.length:=X
 unfold pv
 go_enter Tryz.func168,Tryz.ntmps168
 go_wp2_with fail
 refine (zh (Cx.mk o j false) E A z S q (-1) d 4 zn _ (zq (zq M _) _) Q (by decide)).mono ?_
 rintro e w1 ⟨rfl,V⟩
 rw[ho]
 obtain⟨J,O,m1,t1⟩:=HM.out.two V
 have D:=zc J
 have n:=zc O
 have U:=zc m1
 have K:=zc t1
 clear J O m1 t1 V
 obtain⟨a0,a1,a2,a3,a4,a5,a6,a7,a8,a9,ae,aa,af⟩:=D.out.box
 go_wp2_with fail
 refine (zbe (Cx.mk o j false) E A z (.ok q) S q (-1) d false _ (zX q) U.out).mono ?_
 rintro e w2 ⟨N,q2,z2,n2,rfl,i2,m2,Y⟩
 replace D:=zc (D.out.stp Y)
 replace n:=zc (n.out.stp Y)
 have L:=zc (K.out.step Y)
 clear K
 have H:=zc m2
 have Z:=zc i2
 clear i2 m2 Y U
 clear a0 a1 a2 a3 a4 a5 a6 a7 a8 a9 ae aa af
 obtain rfl:=zf6 Z.out hn
 have dz:decide ((0:Int)≤(zr (Cx.mk o j false) q.pos:Int))=true:=decide_eq_true (by omega)
 have ag:w.heap.size+1<w2.heap.size:=n.out.lt
 unfold pv
 go_upto_region 17 with fail
 refine zL (R:=fun W=>Bx E N W (w.heap.size) _∧Bx E N W (w.heap.size+1) _∧Bx E N W (w2.heap.size) _∧Mem (Cx.mk o j false) E A z N q2 W∧SB w.heap.size S w N W) ⟨(D.out.alloc _),(n.out.alloc _),(Bx.new H.out _),(H.out.alloc _),(L.out.alloc _)⟩ ?_
 clear D n L H
 rintro w3 ⟨J,O,X2,m3,t3⟩
 have D:=zc J
 have n:=zc O
 have ad:=zc X2
 have ac:=zc m3
 have ab:=zc t3
 clear m3 t3 J O X2
 obtain⟨b0,b1,b2,b3,b4,b5,b6,b7,b8,b9,aj,ai,bf⟩:=n.out.box
 obtain⟨c0,c1,c2,c3,c4,c5,c6,c7,c8,c9,ak,am,cf⟩:=ad.out.box
 go_wp2
 refine bodyPost_ret (results_cell_row rfl _ _ (w.heap.size+1) 53 _ (0,0) _ rfl ((n.out.put ..)).heap Tryz.underlying53 rfl (by kernel_rfl)) rfl ?_
 rw[HV.out]
 exact zY rfl (show Is (.error (zr (Cx.mk o j false) q.pos)) q2 _ from rfl) (ac.out.put n.out ..) (ab.out.put (by omega) ..)
theorem znn (n:List Tk) (j:Nat) (E A z:Nat) (S:Sv) (q:PS) (d:Nat) (w:World) (J:Mem (Cx.mk n j false) E A z S q w) (hk:((ze (Cx.mk n j false) q.pos).kind==2)=false) (ho:isT (Cx.mk n j false) q.pos 4 zn=false) (hp:q.pos<(Cx.mk n j false).ts.length) (hn:zD (Cx.mk n j false) q.pos false=false):
  Calls Tryz.prog 168 #[pv (Cx.mk n j false) E A S q (-1) d] w (Out (Cx.mk n j false) E A z (pE (Cx.mk n j false) .part d q) d S w):=by
 have HM:=zc J
 have H:=J.tok
 have Q:(Cx.mk n j false).ts.length≤4000:=J.few
 have ah:=(zan J.tok).1
 clear J
 have HV:Hid (pE (Cx.mk n j false) .part d q= .error (zr (Cx.mk n j false) q.pos)):=by show pE (Cx.mk n j false) .part d q=_;rw[zb6,hk,ho,zj,hn];rfl
 have al:q.pos<n.length:=hp
 obtain⟨Y,_,_,_⟩:=H.cells hp (d:=⟨0,sNone,0,(Cx.mk n j false).fin⟩)
 change _=some (Value.int .i64 (ze (Cx.mk n j false) q.pos).kind) at Y
 generalize (ze (Cx.mk n j false) q.pos).kind=kd at Y hk
 unfold pv
 go_enter Tryz.func168,Tryz.ntmps168
 go_wp2_with fail
 refine (zh (Cx.mk n j false) E A z S q (-1) d 4 zn _ (zq (zq H _) _) Q (by decide)).mono ?_
 rintro e w1 ⟨rfl,V⟩
 rw[ho]
 obtain⟨K,O,m1,t1⟩:=HM.out.two V
 have D:=zc K
 have o:=zc O
 have U:=zc m1
 have L:=zc t1
 clear K O m1 t1 V
 obtain⟨a0,a1,a2,a3,a4,a5,a6,a7,a8,a9,ae,aa,af⟩:=D.out.box
 go_wp2_with fail
 refine (zbe (Cx.mk n j false) E A z (.ok q) S q (-1) d false _ (zX q) U.out).mono ?_
 rintro e w2 ⟨N,q2,z2,n2,rfl,i2,m2,X⟩
 replace D:=zc (D.out.stp X)
 replace o:=zc (o.out.stp X)
 have M:=zc (L.out.step X)
 clear L
 have I:=zc m2
 have Z:=zc i2
 clear i2 m2 X U
 clear a0 a1 a2 a3 a4 a5 a6 a7 a8 a9 ae aa af
 obtain rfl:=zf6 Z.out hn
 have dz:decide ((0:Int)≤(zr (Cx.mk n j false) q.pos:Int))=true:=decide_eq_true (by omega)
 have ag:w.heap.size+1<w2.heap.size:=o.out.lt
 unfold pv
 go_upto_region 17 with fail
 refine zL (R:=fun W=>Bx E N W (w.heap.size) _∧Bx E N W (w.heap.size+1) _∧Bx E N W (w2.heap.size) _∧Mem (Cx.mk n j false) E A z N q2 W∧SB w.heap.size S w N W) ⟨(D.out.alloc _),(o.out.alloc _),(Bx.new I.out _),(I.out.alloc _),(M.out.alloc _)⟩ ?_
 clear D o M I
 rintro w3 ⟨K,O,X2,m3,t3⟩
 have D:=zc K
 have o:=zc O
 have ad:=zc X2
 have ac:=zc m3
 have ab:=zc t3
 clear m3 t3 K O X2
 obtain⟨b0,b1,b2,b3,b4,b5,b6,b7,b8,b9,aj,ai,bf⟩:=o.out.box
 obtain⟨Y,c1,c2,c3,c4,c5,c6,c7,c8,c9,ak,am,cf⟩:=ad.out.box
 go_wp2
 refine bodyPost_ret (results_cell_row rfl _ _ (w.heap.size+1) 53 _ (0,0) _ rfl ((o.out.put ..)).heap Tryz.underlying53 rfl (by kernel_rfl)) rfl ?_
 rw[HV.out]
 exact zY rfl (show Is (.error (zr (Cx.mk n j false) q.pos)) q2 _ from rfl) (ac.out.put o.out ..) (ab.out.put (by omega) ..)
theorem ziC (H:List Tk) (o:Nat) (E z n:Nat) (S:Sv) (q:PS) (d:Nat) (w:World) (J:Mem (Cx.mk H o false) E z n S q w) (D:Nat):
  Calls Tryz.prog 168 #[pv (Cx.mk H o false) E z S q (D:Int) d] w (Out (Cx.mk H o false) E z n (.error D) d S w):=by
 have HM:=zc J
 have N:=J.tok
 have U:(Cx.mk H o false).ts.length≤4000:=J.few
 have ah:=(zan J.tok).1
 clear J
 have hz: ¬(D:Int)<0:=by omega
 have hs: ∀k s,(decide ((D:Int)<0)&&isT (Cx.mk H o false) q.pos k s)=false:=fun k s=>by rw[decide_eq_false hz];rfl
 unfold pv
 go_enter Tryz.func168,Tryz.ntmps168
 go_wp2_with fail
 refine (zh (Cx.mk H o false) E z n S q (D:Int) d 4 zn _ (zq (zq N _) _) U (by decide)).mono ?_
 rintro e w1 ⟨rfl,X⟩
 rw[hs]
 obtain⟨K,Q,m1,t1⟩:=HM.out.two X
 have A:=zc K
 have j:=zc Q
 have V:=zc m1
 have L:=zc t1
 clear K Q m1 t1 X
 obtain⟨a0,a1,a2,a3,a4,a5,a6,a7,a8,a9,ae,aa,af⟩:=A.out.box
 go_wp2_with fail
 refine (zbe (Cx.mk H o false) E z n (.error D) S q (D:Int) d false _ (show Is (.error D) q _ from rfl) V.out).mono ?_
 rintro e w2 ⟨O,q2,z2,n2,rfl,i2,m2,Y⟩
 replace A:=zc (A.out.stp Y)
 replace j:=zc (j.out.stp Y)
 have M:=zc (L.out.step Y)
 clear L
 have I:=zc m2
 have Z:=zc i2
 clear i2 m2 Y V
 clear a0 a1 a2 a3 a4 a5 a6 a7 a8 a9 ae aa af
 obtain rfl:z2=(D:Int):=Z.out
 have dz:decide ((0:Int)≤(D:Int))=true:=decide_eq_true (by omega)
 have ag:w.heap.size+1<w2.heap.size:=j.out.lt
 unfold pv
 go_upto_region 17 with fail
 refine zL (R:=fun W=>Bx E O W (w.heap.size) _∧Bx E O W (w.heap.size+1) _∧Bx E O W (w2.heap.size) _∧Mem (Cx.mk H o false) E z n O q2 W∧SB w.heap.size S w O W) ⟨(A.out.alloc _),(j.out.alloc _),(Bx.new I.out _),(I.out.alloc _),(M.out.alloc _)⟩ ?_
 clear A j M I
 rintro w3 ⟨K,Q,X2,m3,t3⟩
 have A:=zc K
 have j:=zc Q
 have ad:=zc X2
 have ac:=zc m3
 have ab:=zc t3
 clear m3 t3 K Q X2
 obtain⟨b0,b1,b2,b3,b4,b5,b6,b7,b8,b9,aj,ai,bf⟩:=j.out.box
 obtain⟨c0,c1,c2,c3,c4,c5,c6,c7,c8,c9,ak,al,cf⟩:=ad.out.box
 go_wp2
 refine bodyPost_ret (results_cell_row rfl _ _ (w.heap.size+1) 53 _ (0,0) _ rfl ((j.out.put ..)).heap Tryz.underlying53 rfl (by kernel_rfl)) rfl ?_
 exact zY rfl (show Is (.error D) q2 _ from rfl) (ac.out.put j.out ..) (ab.out.put (by omega) ..)
theorem zno (n:List Tk) (j:Nat) (I A o:Nat) (S:Sv) (q:PS) (d:Nat) (w:World) (M:Mem (Cx.mk n j false) I A o S q w) (hk:((ze (Cx.mk n j false) q.pos).kind==2)=false) (ho:isT (Cx.mk n j false) q.pos 4 zn=false) (hp:q.pos<(Cx.mk n j false).ts.length) (hn:zD (Cx.mk n j false) q.pos false=true) (hd:isT (Cx.mk n j false) (q.pos+1) 4 cPoint=false):
  Calls Tryz.prog 168 #[pv (Cx.mk n j false) I A S q (-1) d] w (Out (Cx.mk n j false) I A o (pE (Cx.mk n j false) .part d q) d S w):=by
 have HM:=zc M
 have J:=M.tok
 have K:(Cx.mk n j false).ts.length≤4000:=M.few
 have ao:=(zan M.tok).1
 clear M
 have HV:Hid (pE (Cx.mk n j false) .part d q=zbc (Cx.mk n j false) (ze (Cx.mk n j false) q.pos).text (adv q)):=by show pE (Cx.mk n j false) .part d q=_;rw[zb6,hk,ho,zj,hn];show (if isT (Cx.mk n j false) (adv q).pos 4 cPoint then _ else _)=_;rw[zx,hd];rfl
 have ar:q.pos<n.length:=hp
 obtain⟨c0,_,_,_⟩:=J.cells hp (d:=⟨0,sNone,0,(Cx.mk n j false).fin⟩)
 change _=some (Value.int .i64 (ze (Cx.mk n j false) q.pos).kind) at c0
 generalize (ze (Cx.mk n j false) q.pos).kind=kd at c0 hk
 unfold pv
 go_enter Tryz.func168,Tryz.ntmps168
 go_wp2_with fail
 refine (zh (Cx.mk n j false) I A o S q (-1) d 4 zn _ (zq (zq J _) _) K (by decide)).mono ?_
 rintro e w1 ⟨rfl,ac⟩
 rw[ho]
 obtain⟨X0,X1,m1,t1⟩:=HM.out.two ac
 have D:=zc X0
 have z:=zc X1
 have aa:=zc m1
 have N:=zc t1
 clear X0 X1 m1 t1 ac
 obtain⟨a0,a1,a2,a3,a4,a5,a6,a7,a8,a9,am,ai,af⟩:=D.out.box
 go_wp2_with fail
 refine (zbe (Cx.mk n j false) I A o (.ok q) S q (-1) d false _ (zX q) aa.out).mono ?_
 rintro e w2 ⟨S2,X,z2,n2,rfl,i2,m2,s2⟩
 replace D:=zc (D.out.stp s2)
 replace z:=zc (z.out.stp s2)
 have O:=zc (N.out.step s2)
 clear N
 have H:=zc m2
 have Q:=zc i2
 clear i2 m2 s2 aa
 clear a0 a1 a2 a3 a4 a5 a6 a7 a8 a9 am ai af
 obtain⟨hq,rfl,U⟩:=zf5 Q.out hn
 have HQ:=zc hq
 have ak:=zc U
 have Y:X.pos=q.pos+1:=by rw[hq];rfl
 have ae:isT (Cx.mk n j false) X.pos 4 cPoint=false:=by rw[Y];exact hd
 clear hq U Q
 have an:w.heap.size+1<w2.heap.size:=z.out.lt
 unfold pv
 clear Y
 go_wp2_with fail
 refine (zh (Cx.mk n j false) I A o S2 X (-1) d 4 cPoint _ (H.out.alloc _).tok K (by decide)).mono ?_
 rintro e w3 ⟨rfl,E⟩
 rw[ae]
 replace D:=zc ((D.out.alloc _).below E)
 replace z:=zc ((z.out.alloc _).below E)
 replace L:=zc ((Bx.new H.out _).below E)
 have V:Hid (SB w.heap.size S w S2 w3):=(O.out.alloc _).below E
 have ab:Hid (Mem (Cx.mk n j false) I A o S2 X w3):=(H.out.alloc _).later E
 clear E O H
 obtain⟨c0,c1,c2,c3,c4,c5,c6,c7,c8,c9,ag,aj,cf⟩:=L.out.box
 go_wp2_with fail
 refine (zgD (Cx.mk n j false) I A o S2 X d n2 _ ab.out (by rw[HQ.out];simp[adv])).mono ?_
 rintro e w4 ⟨S4,q4,z4,rfl,i4,m4,Z⟩
 replace D:=zc (D.out.stp Z)
 replace z:=zc (z.out.stp Z)
 replace L:=zc (L.out.stp Z)
 have ad:=zc (V.out.step Z)
 clear V
 have al:=zc m4
 have ah:=zc i4
 clear i4 m4 Z ab
 clear c0 c1 c2 c3 c4 c5 c6 c7 c8 c9 ag aj cf
 obtain⟨b0,b1,b2,b3,b4,b5,b6,b7,b8,b9,aq,ap,bf⟩:=z.out.box
 unfold pv
 go_wp2
 refine bodyPost_ret (results_cell_row rfl _ _ (w.heap.size+1) 53 _ (0,0) _ rfl ((z.out.put ..)).heap Tryz.underlying53 rfl (by kernel_rfl)) rfl ?_
 rw[HV.out,←HQ.out,←ak.out]
 exact zY rfl ah.out (al.out.put z.out ..) (ad.out.put (by omega) ..)
theorem znp (A:List Tk) (j:Nat) (K E o:Nat) (S:Sv) (q:PS) (d:Nat) (w:World) (hm:Mem (Cx.mk A j false) K E o S q w) (hk:((ze (Cx.mk A j false) q.pos).kind==2)=false) (ho:isT (Cx.mk A j false) q.pos 4 zn=false) (hp:q.pos<(Cx.mk A j false).ts.length) (hn:zD (Cx.mk A j false) q.pos false=true) (hd:isT (Cx.mk A j false) (q.pos+1) 4 cPoint=true):
  Calls Tryz.prog 168 #[pv (Cx.mk A j false) K E S q (-1) d] w (Out (Cx.mk A j false) K E o (pE (Cx.mk A j false) .part d q) d S w):=by
 have HM:=zc hm
 have ac:=hm.tok
 have L:(Cx.mk A j false).ts.length≤4000:=hm.few
 have aJ:=(zan hm.tok).1
 clear hm
 have HV:Hid (pE (Cx.mk A j false) .part d q=bd (bd (.ok (adv (adv q))) (zj (Cx.mk A j false) true)) fun y=>zbx (Cx.mk A j false) (ze (Cx.mk A j false) q.pos).text y.2 y.1):=by show pE (Cx.mk A j false) .part d q=_;rw[zb6,hk,ho,zj,hn];show (if isT (Cx.mk A j false) (adv q).pos 4 cPoint then _ else _)=_;rw[zx,hd];rfl
 have aK:q.pos<A.length:=hp
 obtain⟨c0,_,_,_⟩:=ac.cells hp (d:=⟨0,sNone,0,(Cx.mk A j false).fin⟩)
 change _=some (Value.int .i64 (ze (Cx.mk A j false) q.pos).kind) at c0
 generalize (ze (Cx.mk A j false) q.pos).kind=kd at c0 hk
 unfold pv
 go_enter Tryz.func168,Tryz.ntmps168
 go_wp2_with fail
 refine (zh (Cx.mk A j false) K E o S q (-1) d 4 zn _ (zq (zq ac _) _) L (by decide)).mono ?_
 rintro e w1 ⟨rfl,av⟩
 rw[ho]
 obtain⟨X0,X1,m1,t1⟩:=HM.out.two av
 have z:=zc X0
 have n:=zc X1
 have aq:=zc m1
 have ae:=zc t1
 clear X0 X1 m1 t1 av
 obtain⟨a0,a1,a2,a3,a4,a5,a6,a7,a8,a9,aE,aA,af⟩:=z.out.box
 go_wp2_with fail
 refine (zbe (Cx.mk A j false) K E o (.ok q) S q (-1) d false _ (zX q) aq.out).mono ?_
 rintro e w2 ⟨S2,q2,z2,n2,rfl,i2,m2,s2⟩
 replace z:=zc (z.out.stp s2)
 replace n:=zc (n.out.stp s2)
 have ah:=zc (ae.out.step s2)
 clear ae
 have Z:=zc m2
 have aj:=zc i2
 clear i2 m2 s2 aq
 clear a0 a1 a2 a3 a4 a5 a6 a7 a8 a9 aE aA af
 obtain⟨hq,rfl,ak⟩:=zf5 aj.out hn
 have HQ:=zc hq
 have ao:=zc ak
 have an:q2.pos=q.pos+1:=by rw[hq];rfl
 have ag:isT (Cx.mk A j false) q2.pos 4 cPoint=true:=by rw[an];exact hd
 clear hq ak aj
 have aG:w.heap.size+1<w2.heap.size:=n.out.lt
 unfold pv
 clear an
 go_wp2_with fail
 refine (zh (Cx.mk A j false) K E o S2 q2 (-1) d 4 cPoint _ (Z.out.alloc _).tok L (by decide)).mono ?_
 rintro e w3 ⟨rfl,N⟩
 rw[ag]
 replace z:=zc ((z.out.alloc _).below N)
 replace n:=zc ((n.out.alloc _).below N)
 replace D:=zc ((Bx.new Z.out _).below N)
 have al:Hid (SB w.heap.size S w S2 w3):=(ah.out.alloc _).below N
 have ar:Hid (Mem (Cx.mk A j false) K E o S2 q2 w3):=(Z.out.alloc _).later N
 clear N ah Z
 obtain⟨c0,c1,c2,c3,c4,c5,c6,c7,c8,c9,az,aB,cf⟩:=D.out.box
 have au:q2.pos<(Cx.mk A j false).ts.length:=za1 ag (by decide)
 have aH:q2.pos<A.length:=au
 go_wp2_with fail
 refine (zbe (Cx.mk A j false) K E o (.ok (adv q2)) S2 (adv q2) (-1) d true _ (zX _) ((ar.out.adv au).set D.out 1 _)).mono ?_
 rintro e w4 ⟨S4,q4,z4,n4,rfl,i4,m4,s4⟩
 replace z:=zc ((z.out.set_other (by omega) 1 _).stp s4)
 replace n:=zc ((n.out.set_other (by omega) 1 _).stp s4)
 replace D:=zc ((D.out.at1 _).stp s4)
 have Y:Hid (SB w.heap.size S w S4 w4):=(al.out.set (by omega) 1 _).step s4
 clear al
 have J:=zc m4
 have Q:=zc i4
 clear i4 m4 s4 ar
 clear c0 c1 c2 c3 c4 c5 c6 c7 c8 c9 az aB cf
 have aI:w.heap.size+1<w4.heap.size:=n.out.lt
 have aw:w2.heap.size<w4.heap.size:=D.out.lt
 cases hc:(decide (z4<0)&&isT (Cx.mk A j false) q4.pos 4 zn) with
 |true=>
  unfold pv
  go_wp2_with fail
  refine (zh (Cx.mk A j false) K E o S4 q4 z4 d 4 zn _ (J.out.alloc _).tok L (by decide)).mono ?_
  rintro e w5 ⟨rfl,H⟩
  rw[hc]
  replace z:=zc ((z.out.alloc _).below H)
  replace n:=zc ((n.out.alloc _).below H)
  replace D:=zc ((D.out.alloc _).below H)
  replace I:=zc ((Bx.new J.out _).below H)
  have O:Hid (SB w.heap.size S w S4 w5):=(Y.out.alloc _).below H
  have V:Hid (Mem (Cx.mk A j false) K E o S4 q4 w5):=(J.out.alloc _).later H
  clear H Y J
  obtain⟨d0,d1,d2,d3,d4,d5,d6,d7,d8,d9,X,U,df⟩:=I.out.box
  go_wp2_with fail
  refine (zad (Cx.mk A j false) K E o _ S4 q4 z4 d zn _ Q.out.fst V.out).mono ?_
  rintro e w6 ⟨S6,q6,z6,rfl,i6,m6,M⟩
  replace z:=zc (z.out.stp M)
  replace n:=zc (n.out.stp M)
  replace D:=zc (D.out.stp M)
  replace I:=zc (I.out.stp M)
  have ab:=zc (O.out.step M)
  clear O
  have aa:=zc m6
  have ad:=zc i6
  clear i6 m6 M V
  clear d0 d1 d2 d3 d4 d5 d6 d7 d8 d9 X U df
  go_wp2_with fail
  refine (zad (Cx.mk A j false) K E o _ S6 q6 z6 d za0 _ ad.out aa.out).mono ?_
  rintro e w7 ⟨S7,q7,z7,rfl,i7,m7,s7⟩
  replace z:=zc (z.out.stp s7)
  replace n:=zc (n.out.stp s7)
  replace D:=zc (D.out.stp s7)
  replace I:=zc (I.out.stp s7)
  have ap:=zc (ab.out.step s7)
  clear ab
  have ai:=zc m7
  have am:=zc i7
  clear i7 m7 s7 aa
  obtain⟨d0,d1,d2,d3,d4,d5,d6,d7,d8,d9,X,U,df⟩:=I.out.box
  unfold pv
  go_wp2_with fail
  refine (zcK (Cx.mk A j false) K E o _ S7 q7 z7 d ⟨5,0,n2,n4,0,0⟩ _ am.out (ai.out.put I.out ..) (zbh am.out)).mono ?_
  rintro e w8 ⟨S8,q8,z8,rfl,i8,m8,s8⟩
  replace z:=zc ((z.out.other (by omega) ..).stp s8)
  replace n:=zc ((n.out.other (by omega) ..).stp s8)
  replace D:=zc ((D.out.other (by omega) ..).stp s8)
  replace I:=zc ((I.out.put ..).stp s8)
  have aD:Hid (SB w.heap.size S w S8 w8):=(ap.out.put (by omega) ..).step s8
  clear ap
  have aF:=zc m8
  have aC:=zc i8
  clear i8 m8 s8 ai
  clear d0 d1 d2 d3 d4 d5 d6 d7 d8 d9 X U df
  obtain⟨b0,b1,b2,b3,b4,b5,b6,b7,b8,b9,ay,ax,bf⟩:=n.out.box
  unfold pv
  go_wp2
  refine bodyPost_ret (results_cell_row rfl _ _ (w.heap.size+1) 53 _ (0,0) _ rfl ((n.out.put ..)).heap Tryz.underlying53 rfl (by kernel_rfl)) rfl ?_
  rw[HV.out,←HQ.out,←ao.out,←zi8 Q.out hc]
  exact zY rfl aC.out (aF.out.put n.out ..) (aD.out.put (by omega) ..)
 |false=>
  unfold pv
  go_wp2_with fail
  refine (zh (Cx.mk A j false) K E o S4 q4 z4 d 4 zn _ (J.out.alloc _).tok L (by decide)).mono ?_
  rintro e w5 ⟨rfl,H⟩
  rw[hc]
  replace z:=zc ((z.out.alloc _).below H)
  replace n:=zc ((n.out.alloc _).below H)
  replace D:=zc ((D.out.alloc _).below H)
  replace I:=zc ((Bx.new J.out _).below H)
  have O:Hid (SB w.heap.size S w S4 w5):=(Y.out.alloc _).below H
  have V:Hid (Mem (Cx.mk A j false) K E o S4 q4 w5):=(J.out.alloc _).later H
  clear H Y J
  obtain⟨d0,d1,d2,d3,d4,d5,d6,d7,d8,d9,X,U,df⟩:=I.out.box
  go_wp2_with fail
  refine (zcK (Cx.mk A j false) K E o _ S4 q4 z4 d ⟨4,0,n2,n4,0,0⟩ _ Q.out.fst V.out (ziA Q.out)).mono ?_
  rintro e w6 ⟨S6,q6,z6,rfl,i6,m6,M⟩
  replace z:=zc (z.out.stp M)
  replace n:=zc (n.out.stp M)
  replace D:=zc (D.out.stp M)
  replace I:=zc (I.out.stp M)
  have ab:=zc (O.out.step M)
  clear O
  have aa:=zc m6
  have ad:=zc i6
  clear i6 m6 M V
  clear d0 d1 d2 d3 d4 d5 d6 d7 d8 d9 X U df
  obtain⟨b0,b1,b2,b3,b4,b5,b6,b7,b8,b9,ay,ax,bf⟩:=n.out.box
  unfold pv
  go_wp2
  refine bodyPost_ret (results_cell_row rfl _ _ (w.heap.size+1) 53 _ (0,0) _ rfl ((n.out.put ..)).heap Tryz.underlying53 rfl (by kernel_rfl)) rfl ?_
  rw[HV.out,←HQ.out,←ao.out,←zi9 Q.out hc]
  exact zY rfl ad.out (aa.out.put n.out ..) (ab.out.put (by omega) ..)
def zgE (C:Cx) (gt cap base m:Nat):Prop:=∀(x:PR) (S:Sv) (q:PS) (z:Int) (d:Nat) (w:World),Is x q z→Mem C gt cap base S q w→(z<0→C.ts.length-q.pos<m)→d≤20→
 Calls Tryz.prog 168 #[pv C gt cap S q z d] w (Out C gt cap base (bd x (pE C .part d)) d S w)
def ziD (C:Cx) (gt cap base m:Nat):Prop:=∀(x:PR) (S:Sv) (q:PS) (z:Int) (d:Nat) (w:World),Is x q z→Mem C gt cap base S q w→(z<0→C.ts.length-q.pos<m)→d≤20→
 Calls Tryz.prog 136 #[pv C gt cap S q z d] w (Out C gt cap base (bd x (pE C .prod d)) d S w)
theorem SumOK.mono {C:Cx} {o n j m k:Nat} (h:SumOK C o n j m) (D:k≤m):SumOK C o n j k:=fun x S q z d w I E A H=>h x S q z d w I E (fun g=>Nat.lt_of_lt_of_le (A g) D) H
theorem znq {C:Cx} {D n j m:Nat} (Y:SumOK C D n j m):zgE C D n j (m+1):=by
 intro x S q z d w V E X M
 by_cases U:z<0
 ·obtain⟨rfl,rfl⟩:=zaC V U
  rw[zz]
  have Q:SumOK C D n j (C.ts.length-q.pos):=Y.mono (by have:=X U;omega)
  cases H:((ze C q.pos).kind==2) with
  |true=>exact zne C D n j S q d w E H
  |false=>
   cases J:isT C q.pos 4 zn with
   |true=>
    by_cases O:20≤d
    ·exact znf C D n j S q d w E H J O M
    ·exact zng C D n j S q d w E H J (by omega) Q
   |false=>
    obtain⟨A,o,K⟩:=C
    cases K with
    |true=>
     by_cases I:q.pos<A.length
     ·cases N:isT (Cx.mk A o true) q.pos 1 za7 with
      |true=>exact znj A o D n j S q d w E H J I N
      |false=>
       cases L:zD (Cx.mk A o true) q.pos false with
       |false=>exact zni A o D n j S q d w E H J I N L
       |true=>
        cases M:isT (Cx.mk A o true) (q.pos+1) 4 cPoint with
        |false=>exact znk A o D n j S q d w E H J I N L M
        |true=>exact znl A o D n j S q d w E H J I N L M
     ·exact znh A o D n j S q d w E I
    |false=>
     by_cases I:q.pos<A.length
     ·cases L:zD (Cx.mk A o false) q.pos false with
      |false=>exact znn A o D n j S q d w E H J I L
      |true=>
       cases M:isT (Cx.mk A o false) (q.pos+1) 4 cPoint with
       |false=>exact zno A o D n j S q d w E H J I L M
       |true=>exact znp A o D n j S q d w E H J I L M
     ·exact znm A o D n j S q d w E I
 ·obtain⟨e,rfl,rfl⟩:=zdc V U
  rw[zdU]
  obtain⟨A,o,K⟩:=C
  cases K with
  |true=>exact ziB A o D n j S q d w E e
  |false=>exact ziC A o D n j S q d w E e
theorem zgF {C:Cx} {x:PR} {q:PS} {z:Int} (h:Is x q z) (F:PS→Ex):bd x (zN C (F q))=bd x fun q'=>zN C (F q') q':=by
 cases x with
 |ok a=>obtain⟨rfl,_⟩:=h;rfl
 |error e=>rfl
theorem ziE {C:Cx} {y:PS→Ex} {x:PR} {q:PS} {n:Nat} (j: ∀a,x= .ok a→n≤a.pos) (h:(bd x fun q'=>zN C (y q') q')= .ok q):n≤q.pos:=by
 obtain⟨a,z,o⟩:=zf h
 obtain⟨rfl,_⟩:=zb5 o
 exact j a z
theorem znr {C:Cx} {d m:Nat} {x:PR} {q j:PS} {z n:Int} (D:Is x q z) (H:Is (bd x (pE C .part d)) j n) (E:z<0→C.ts.length-q.pos<m) (o:n<0):C.ts.length-j.pos<m:=by
 obtain⟨e,_⟩:=zaC H o
 obtain⟨a,A,I⟩:=zf e
 subst A
 obtain⟨rfl,rfl⟩:=D
 have:=zaY I
 have:=E (by decide)
 omega
theorem zns {C:Cx} {d m:Nat} {x:PR} {q j:PS} {z n:Int} (D:Is x q z) (H:Is (bd x (pE C .prod d)) j n) (E:z<0→C.ts.length-q.pos<m) (o:n<0):C.ts.length-j.pos<m:=by
 obtain⟨e,_⟩:=zaC H o
 obtain⟨a,A,I⟩:=zf e
 subst A
 obtain⟨rfl,rfl⟩:=D
 have:=zaY I
 have:=E (by decide)
 omega
theorem znt {C:Cx} {d:Nat} {j q:PS} {z:Int} (h:Is (bd (.ok (adv j)) (pE C .part d)) q z) (n:z<0):1≤q.pos:=by
 obtain⟨e,_⟩:=zaC h n
 have:=zaY (show pE C .part d (adv j)= .ok q from e)
 rw[zx] at this
 omega
theorem ziF {C:Cx} {d:Nat} {j q:PS} {z:Int} (h:Is (bd (.ok (adv j)) (pE C .prod d)) q z) (n:z<0):1≤q.pos:=by
 obtain⟨e,_⟩:=zaC h n
 have:=zaY (show pE C .prod d (adv j)= .ok q from e)
 rw[zx] at this
 omega
theorem znu {C:Cx} {d:Nat} {F:PS→Ex} {j q:PS} {z:Int} (h:Is (bd (bd (.ok (adv j)) (pE C .part d)) fun q'=>zN C (F q') q') q z) (o:z<0):j.pos+1≤q.pos:=by
 obtain⟨e,_⟩:=zaC h o
 exact ziE (fun a n=>by have:=zaY (show pE C .part d (adv j)= .ok a from n);rw[zx] at this;exact this) e
theorem ziG {C:Cx} {d:Nat} {F:PS→Ex} {j q:PS} {z:Int} (h:Is (bd (bd (.ok (adv j)) (pE C .prod d)) fun q'=>zN C (F q') q') q z) (o:z<0):j.pos+1≤q.pos:=by
 obtain⟨e,_⟩:=zaC h o
 exact ziE (fun a n=>by have:=zaY (show pE C .prod d (adv j)= .ok a from n);rw[zx] at this;exact this) e
theorem znv {C:Cx} {d:Nat} {q:PS} (j:isT C q.pos 4 zw=true) (_:q.pos<C.ts.length):
  bd (.ok q) (pE C .prodT d)=bd (bd (bd (.ok (adv q)) (pE C .part d)) fun q'=>zN C ⟨8,0,sNone,sNone,(q.ex.length:Int)-1,(q'.ex.length:Int)-1⟩ q') (pE C .prodT d):=by
 show pE C .prodT d q=_
 rw[zfo,if_pos j]
 rfl
theorem ziH {C:Cx} {d:Nat} {q:PS} {k:Int} (n:(isT C q.pos 4 zbU||isT C q.pos 4 zbb)=true) (j:zcY C q.pos=k) (_:q.pos<C.ts.length):
  bd (.ok q) (pE C .sumT d)=bd (bd (bd (.ok (adv q)) (pE C .prod d)) fun q'=>zN C ⟨k,0,sNone,sNone,(q.ex.length:Int)-1,(q'.ex.length:Int)-1⟩ q') (pE C .sumT d):=by
 show pE C .sumT d q=_
 rw[ze7,if_pos n,j]
 rfl
theorem znw {C:Cx} {d:Nat} {x:PR} {q:PS} {z:Int} (n:Is x q z) (j:(decide (z<0)&&isT C q.pos 4 zw)=false):Is (bd x (pE C .prodT d)) q z:=by
 cases x with
 |ok a=>
  obtain⟨rfl,rfl⟩:=n
  rw[Bool.and_eq_false_iff] at j
  rw[zz,zfo,j.resolve_left (by decide)]
  exact⟨rfl,rfl⟩
 |error e=>exact n
theorem znx {C:Cx} {d:Nat} {x:PR} {q:PS} {z:Int} (o:Is x q z) (n:(decide (z<0)&&isT C q.pos 4 zbU)=false) (j:(decide (z<0)&&isT C q.pos 4 zbb)=false):Is (bd x (pE C .sumT d)) q z:=by
 cases x with
 |ok a=>
  obtain⟨rfl,rfl⟩:=o
  rw[Bool.and_eq_false_iff] at n j
  rw[zz,ze7,n.resolve_left (by decide),j.resolve_left (by decide)]
  exact⟨rfl,rfl⟩
 |error e=>exact o
theorem zny {C:Cx} {i:Nat} (h:isT C i 4 zbU=true):isT C i 4 zbb=false:=by
 simp only[isT,Bool.and_eq_true,beq_iff_eq] at h
 simp only[isT,h.2]
 rw[Bool.and_eq_false_iff]
 exact .inr (by simp)
theorem ziI {C:Cx} {L H D m:Nat} (hP:zgE C L H D m):ziD C L H D m:=by
 intro x S q z d w hx hm hl ad
 have HP:=zc hP
 have HM:=zc hm
 have HX:=zc hx
 have HL:=zc hl
 have ae:=hm.few
 clear hP hm hx hl
 unfold pv
 go_enter Tryz.func136,Tryz.ntmps136
 go_wp2_with fail
 refine (HP.out x S q z d _ HX.out ((HM.out.alloc _).alloc _) HL.out ad).mono ?_
 rintro e w1 ⟨S1,q1,z1,rfl,i1,m1,s1⟩
 obtain⟨X0,X1,t1⟩:=HM.out.two2 s1
 have j:=zc X0
 have n:=zc X1
 have ax:=zc m1
 have aq:=zc t1
 have ao:=zc i1
 clear X0 X1 i1 m1 t1 s1
 obtain⟨Z,a1,N,M,U,V,X,Y,O,Q,A,o,af⟩:=j.out.box
 unfold pv
 go_wp2
 go_loopg [] (C.ts.length+1) (fun k wr=>∃(x':PR) (J:Sv) (I:PS) (z':Int),Is x' I z'∧bd x' (pE C .prodT d)=bd x (pE C .prod d)∧(z'<0→C.ts.length-I.pos<k)∧(z'<0→C.ts.length-I.pos<m)∧Mem C L H D J I wr∧SB w.heap.size S w J wr∧Bx L J wr w.heap.size #[.slice (some ⟨L,0,none⟩) C.ts.length H,.int .i64 I.pos,.int .i64 C.fin,.bool C.scr,.slice J.rq.a I.rq.length J.rq.cap,.slice J.im.a I.im.length J.im.cap,.slice J.ep.a I.ep.length J.ep.cap,.slice J.st.a I.st.length J.st.cap,.slice J.ex.a I.ex.length J.ex.cap,.slice J.la.a I.la.length J.la.cap,.int .i64 z',.int .i64 d]∧Bx L J wr (w.heap.size+1) #[.slice none 0 0,.int .i64 0,.int .i64 0,.bool false,.slice none 0 0,.slice none 0 0,.slice none 0 0,.slice none 0 0,.slice none 0 0,.slice none 0 0,.int .i64 0,.int .i64 0])
 case atStart=>exact⟨_,S1,q1,z1,ao.out,by rw[zM];exact zab fun a _=>(zhD C d a).symm,fun _=>by omega,fun hz=>znr HX.out ao.out HL.out hz,(ax.out.put j.out ..),(aq.out.put (by omega) ..),(j.out.put ..),(n.out.other (by omega) ..)⟩
 case round=>
  obtain⟨x2,S2,q2,z2,i2,e2,l2,b2,m2,t2,X0,X1⟩:=hrel
  have j:=zc X0
  have n:=zc X1
  have K:=zc m2
  have aa:=zc t2
  have am:=zc i2
  have al:=zc e2
  have av:=zc l2
  have ap:=zc b2
  have aC:=m2.inv.ex
  clear X0 X1 i2 m2 t2 e2 l2 b2
  cases hc:(decide (z2<0)&&isT C q2.pos 4 zw) with
  |true=>
   obtain⟨Z,a1,N,M,U,V,X,Y,O,Q,A,o,af⟩:=j.out.box
   go_wp2_with fail
   refine (zh C L H D S2 q2 z2 d 4 zw _ K.out.tok ae (by decide)).mono ?_
   rintro e w3 ⟨rfl,E⟩
   rw[hc]
   replace j:=zc (j.out.below E)
   replace n:=zc (n.out.below E)
   have ab:=zc (aa.out.below E)
   have ac:=zc (K.out.later E)
   clear E aa K
   clear Z a1 N M U V X Y O Q A o af
   rw[Bool.and_eq_true,decide_eq_true_eq] at hc
   obtain⟨hz,hs⟩:=hc
   have hp:q2.pos<C.ts.length:=za1 hs (by decide)
   obtain⟨rfl,rfl⟩:=zaC am.out hz
   have aD:=av.out hz
   have aB:=ap.out hz
   skip
   obtain⟨Z,a1,N,M,U,V,X,Y,O,Q,A,o,af⟩:=j.out.box
   go_wp2_with fail
   refine (HP.out (.ok (adv q2)) S2 (adv q2) (-1) d _ (zX _) ((ac.out.adv hp).set j.out 1 _) (fun _=>by rw[zx];omega) ad).mono ?_
   rintro e w4 ⟨S4,q4,z4,rfl,i4,m4,s4⟩
   replace j:=zc ((j.out.at1 _).stp s4)
   replace n:=zc ((n.out.set_other (by omega) 1 _).stp s4)
   have ak:Hid (SB w.heap.size S w S4 w4):=(ab.out.set (by omega) 1 _).step s4
   clear ab
   have an:=zc m4
   have ah:=zc i4
   clear i4 m4 s4 ac
   clear Z a1 N M U V X Y O Q A o af
   obtain⟨Z,a1,N,M,U,V,X,Y,O,Q,A,o,af⟩:=j.out.box
   unfold pv
   go_upto_region 6 with fail
   refine zL (R:=fun W=>Bx L S4 W (w.heap.size) _∧Bx L S4 W (w.heap.size+1) _∧Mem C L H D S4 q4 W∧SB w.heap.size S w S4 W) ⟨(j.out.put ..),(n.out.other (by omega) ..),(an.out.put j.out ..),(ak.out.put (by omega) ..)⟩ ?_
   clear Z a1 N M U V X Y O Q A o af
   clear j n ak an
   rintro w5 ⟨X0,X1,m5,t5⟩
   have j:=zc X0
   have n:=zc X1
   have ai:=zc m5
   have aj:=zc t5
   clear m5 t5 X0 X1
   obtain⟨Z,a1,N,M,U,V,X,Y,O,Q,A,o,af⟩:=j.out.box
   have ay:=ai.out.inv.ex
   go_wp2_with fail
   refine (zcK C L H D _ S4 q4 z4 d ⟨8,0,sNone,sNone,(q2.ex.length:Int)-1,(q4.ex.length:Int)-1⟩ _ ah.out ai.out (fun h=>znt ah.out h)).mono ?_
   rintro e w6 ⟨S6,q6,z6,rfl,i6,m6,s6⟩
   replace j:=zc (j.out.stp s6)
   replace n:=zc (n.out.stp s6)
   have aw:=zc (aj.out.step s6)
   clear aj
   have ar:=zc m6
   have au:=zc i6
   clear i6 m6 s6 ai
   clear Z a1 N M U V X Y O Q A o af
   have HI:Hid (Is (bd (bd (.ok (adv q2)) (pE C .part d)) fun I=>zN C ⟨8,0,sNone,sNone,(q2.ex.length:Int)-1,(I.ex.length:Int)-1⟩ I) q6 z6):=by rw[←zgF ah.out (fun I=>⟨8,0,sNone,sNone,(q2.ex.length:Int)-1,(I.ex.length:Int)-1⟩)];exact au.out
   have ag:Hid (z6<0→q2.pos+1≤q6.pos):=fun h=>znu HI.out h
   obtain⟨Z,a1,N,M,U,V,X,Y,O,Q,A,o,af⟩:=j.out.box
   unfold pv
   go_wp2
   go_roundg (gk-1)
   case rel=>exact⟨_,S6,q6,z6,HI.out,by rw[←al.out];exact (znv (d:=d) hs hp).symm,fun h=>by have:=ag.out h;omega,fun h=>by have:=ag.out h;omega,(ar.out.put j.out ..),(aw.out.put (by omega) ..),(j.out.put ..),(n.out.other (by omega) ..)⟩
   case measure=>omega
  |false=>
   obtain⟨Z,a1,N,M,U,V,X,Y,O,Q,A,o,af⟩:=j.out.box
   go_wp2_with fail
   refine (zh C L H D S2 q2 z2 d 4 zw _ K.out.tok ae (by decide)).mono ?_
   rintro e w3 ⟨rfl,E⟩
   rw[hc]
   replace j:=zc (j.out.below E)
   replace n:=zc (n.out.below E)
   have ab:=zc (aa.out.below E)
   have ac:=zc (K.out.later E)
   clear E aa K
   clear Z a1 N M U V X Y O Q A o af
   obtain⟨Z,a1,N,M,U,V,X,Y,O,Q,A,o,af⟩:=j.out.box
   obtain⟨b0,b1,b2,b3,b4,b5,b6,b7,b8,b9,aA,az,bf⟩:=n.out.box
   go_wp2
   refine bodyPost_ret (results_cell_row rfl _ _ (w.heap.size+1) 53 _ (0,0) _ rfl ((n.out.put ..)).heap Tryz.underlying53 rfl (by kernel_rfl)) rfl ?_
   exact zY rfl (show Is (bd x (pE C .prod d)) q2 z2 from by rw[←al.out];exact znw am.out hc) (ac.out.put n.out ..) (ab.out.put (by omega) ..)
theorem ziJ {C:Cx} {gt H D m:Nat} (hP:ziD C gt H D m):SumOK C gt H D m:=by
 intro x S q z d w hx hm hl am
 have HP:=zc hP
 have HM:=zc hm
 have HX:=zc hx
 have HL:=zc hl
 have ab:=hm.few
 clear hP hm hx hl
 unfold pv
 go_enter Tryz.func75,Tryz.ntmps75
 go_wp2_with fail
 refine (HP.out x S q z d _ HX.out ((HM.out.alloc _).alloc _) HL.out am).mono ?_
 rintro e w1 ⟨S1,q1,z1,rfl,i1,m1,s1⟩
 obtain⟨X0,X1,t1⟩:=HM.out.two2 s1
 have j:=zc X0
 have n:=zc X1
 have aI:=zc m1
 have aD:=zc t1
 have aC:=zc i1
 clear X0 X1 i1 m1 t1 s1
 obtain⟨V,Y,K,J,N,O,Q,U,L,M,A,o,X⟩:=j.out.box
 unfold pv
 go_wp2
 go_loopg [] (C.ts.length+1) (fun k wr=>∃(x':PR) (S':Sv) (q':PS) (z':Int),Is x' q' z'∧bd x' (pE C .sumT d)=bd x (pE C .sum d)∧(z'<0→C.ts.length-q'.pos<k)∧(z'<0→C.ts.length-q'.pos<m)∧Mem C gt H D S' q' wr∧SB w.heap.size S w S' wr∧Bx gt S' wr w.heap.size #[.slice (some ⟨gt,0,none⟩) C.ts.length H,.int .i64 q'.pos,.int .i64 C.fin,.bool C.scr,.slice S'.rq.a q'.rq.length S'.rq.cap,.slice S'.im.a q'.im.length S'.im.cap,.slice S'.ep.a q'.ep.length S'.ep.cap,.slice S'.st.a q'.st.length S'.st.cap,.slice S'.ex.a q'.ex.length S'.ex.cap,.slice S'.la.a q'.la.length S'.la.cap,.int .i64 z',.int .i64 d]∧Bx gt S' wr (w.heap.size+1) #[.slice none 0 0,.int .i64 0,.int .i64 0,.bool false,.slice none 0 0,.slice none 0 0,.slice none 0 0,.slice none 0 0,.slice none 0 0,.slice none 0 0,.int .i64 0,.int .i64 0])
 case atStart=>exact⟨_,S1,q1,z1,aC.out,by rw[zM];exact zab fun a _=>(zhC C d a).symm,fun _=>by omega,fun hz=>zns HX.out aC.out HL.out hz,(aI.out.put j.out ..),(aD.out.put (by omega) ..),(j.out.put ..),(n.out.other (by omega) ..)⟩
 case round=>
  obtain⟨x2,S2,I,z2,i2,e2,l2,b2,m2,t2,X0,X1⟩:=hrel
  have j:=zc X0
  have n:=zc X1
  have ai:=zc m2
  have aq:=zc t2
  have aw:=zc i2
  have av:=zc e2
  have az:=zc l2
  have ay:=zc b2
  have aN:=m2.inv.ex
  clear X0 X1 i2 m2 t2 e2 l2 b2
  cases hc:(decide (z2<0)&&isT C I.pos 4 zbU) with
  |true=>
   obtain⟨V,Y,K,J,N,O,Q,U,L,M,A,o,X⟩:=j.out.box
   go_wp2_with fail
   refine (zh C gt H D S2 I z2 d 4 zbU _ ai.out.tok ab (by decide)).mono ?_
   rintro e w3 ⟨rfl,Z⟩
   rw[hc]
   replace j:=zc (j.out.below Z)
   replace n:=zc (n.out.below Z)
   have ah:=zc (aq.out.below Z)
   have aa:=zc (ai.out.later Z)
   clear Z aq ai
   clear V Y K J N O Q U L M A o X
   rw[Bool.and_eq_true,decide_eq_true_eq] at hc
   obtain⟨hz,hs⟩:=hc
   have aA:isT C I.pos 4 zbb=false:=zny hs
   have ac:(decide (z2<0)&&isT C I.pos 4 zbb)=false:=by rw[aA,Bool.and_false]
   obtain⟨V,Y,K,J,N,O,Q,U,L,M,A,o,X⟩:=j.out.box
   go_wp2_with fail
   refine (zh C gt H D S2 I z2 d 4 zbb _ aa.out.tok ab (by decide)).mono ?_
   rintro e w4 ⟨rfl,E⟩
   rw[ac]
   replace j:=zc (j.out.below E)
   replace n:=zc (n.out.below E)
   have ag:=zc (ah.out.below E)
   have ae:=zc (aa.out.later E)
   clear E ah aa
   clear V Y K J N O Q U L M A o X
   clear ac
   have hp:I.pos<C.ts.length:=za1 hs (by decide)
   obtain⟨rfl,rfl⟩:=zaC aw.out hz
   have aF:=az.out hz
   have aE:=ay.out hz
   skip
   obtain⟨V,Y,K,J,N,O,Q,U,L,M,A,o,X⟩:=j.out.box
   go_wp2_with fail
   refine (HP.out (.ok (adv I)) S2 (adv I) (-1) d _ (zX _) ((ae.out.adv hp).set j.out 1 _) (fun _=>by rw[zx];omega) am).mono ?_
   rintro e w5 ⟨S5,q5,z5,rfl,i5,m5,s5⟩
   replace j:=zc ((j.out.at1 _).stp s5)
   replace n:=zc ((n.out.set_other (by omega) 1 _).stp s5)
   have ak:Hid (SB w.heap.size S w S5 w5):=(ag.out.set (by omega) 1 _).step s5
   clear ag
   have ao:=zc m5
   have au:=zc i5
   clear i5 m5 s5 ae
   clear V Y K J N O Q U L M A o X
   obtain⟨V,Y,K,J,N,O,Q,U,L,M,A,o,X⟩:=j.out.box
   unfold pv
   go_upto_region 9 with fail
   refine zL (R:=fun W=>Bx gt S5 W (w.heap.size) _∧Bx gt S5 W (w.heap.size+1) _∧Mem C gt H D S5 q5 W∧SB w.heap.size S w S5 W) ⟨(j.out.put ..),(n.out.other (by omega) ..),(ao.out.put j.out ..),(ak.out.put (by omega) ..)⟩ ?_
   clear V Y K J N O Q U L M A o X
   clear j n ak ao
   rintro w6 ⟨X0,X1,m6,t6⟩
   have j:=zc X0
   have n:=zc X1
   have aj:=zc m6
   have an:=zc t6
   clear m6 t6 X0 X1
   obtain⟨V,Y,K,J,N,O,Q,U,L,M,A,o,X⟩:=j.out.box
   have aB:=aj.out.inv.ex
   go_wp2_with fail
   refine (zcK C gt H D _ S5 q5 z5 d ⟨6,0,sNone,sNone,(I.ex.length:Int)-1,(q5.ex.length:Int)-1⟩ _ au.out aj.out (fun h=>ziF au.out h)).mono ?_
   rintro e w7 ⟨S7,q7,z7,rfl,i7,m7,s7⟩
   replace j:=zc (j.out.stp s7)
   replace n:=zc (n.out.stp s7)
   have ar:=zc (an.out.step s7)
   clear an
   have al:=zc m7
   have aG:=zc i7
   clear i7 m7 s7 aj
   clear V Y K J N O Q U L M A o X
   have HI:Hid (Is (bd (bd (.ok (adv I)) (pE C .prod d)) fun q'=>zN C ⟨6,0,sNone,sNone,(I.ex.length:Int)-1,(q'.ex.length:Int)-1⟩ q') q7 z7):=by rw[←zgF au.out (fun q'=>⟨6,0,sNone,sNone,(I.ex.length:Int)-1,(q'.ex.length:Int)-1⟩)];exact aG.out
   have ad:Hid (z7<0→I.pos+1≤q7.pos):=fun h=>ziG HI.out h
   obtain⟨V,Y,K,J,N,O,Q,U,L,M,A,o,X⟩:=j.out.box
   unfold pv
   go_wp2
   go_roundg (gk-1)
   case rel=>exact⟨_,S7,q7,z7,HI.out,by rw[←av.out];exact (ziH (d:=d) (by rw[hs];rfl) (show zcY C I.pos=6 by rw[zcY,aA];rfl) hp).symm,fun h=>by have:=ad.out h;omega,fun h=>by have:=ad.out h;omega,(al.out.put j.out ..),(ar.out.put (by omega) ..),(j.out.put ..),(n.out.other (by omega) ..)⟩
   case measure=>omega
  |false=>
   obtain⟨V,Y,K,J,N,O,Q,U,L,M,A,o,X⟩:=j.out.box
   go_wp2_with fail
   refine (zh C gt H D S2 I z2 d 4 zbU _ ai.out.tok ab (by decide)).mono ?_
   rintro e w3 ⟨rfl,Z⟩
   rw[hc]
   replace j:=zc (j.out.below Z)
   replace n:=zc (n.out.below Z)
   have ah:=zc (aq.out.below Z)
   have aa:=zc (ai.out.later Z)
   clear Z aq ai
   clear V Y K J N O Q U L M A o X
   cases ac:(decide (z2<0)&&isT C I.pos 4 zbb) with
   |true=>
    obtain⟨V,Y,K,J,N,O,Q,U,L,M,A,o,X⟩:=j.out.box
    go_wp2_with fail
    refine (zh C gt H D S2 I z2 d 4 zbb _ aa.out.tok ab (by decide)).mono ?_
    rintro e w4 ⟨rfl,E⟩
    rw[ac]
    replace j:=zc (j.out.below E)
    replace n:=zc (n.out.below E)
    have ag:=zc (ah.out.below E)
    have ae:=zc (aa.out.later E)
    clear E ah aa
    clear V Y K J N O Q U L M A o X
    obtain⟨V,Y,K,J,N,O,Q,U,L,M,A,o,X⟩:=j.out.box
    go_wp2_with fail
    refine (zh C gt H D S2 I z2 d 4 zbb _ ae.out.tok ab (by decide)).mono ?_
    rintro e w5 ⟨rfl,ap⟩
    rw[ac]
    replace j:=zc (j.out.below ap)
    replace n:=zc (n.out.below ap)
    have ak:=zc (ag.out.below ap)
    have ao:=zc (ae.out.later ap)
    clear ap ag ae
    clear V Y K J N O Q U L M A o X
    rw[Bool.and_eq_true,decide_eq_true_eq] at ac
    obtain⟨hz,hs⟩:=ac
    have hp:I.pos<C.ts.length:=za1 hs (by decide)
    obtain⟨rfl,rfl⟩:=zaC aw.out hz
    have aF:=az.out hz
    have aE:=ay.out hz
    skip
    obtain⟨V,Y,K,J,N,O,Q,U,L,M,A,o,X⟩:=j.out.box
    go_wp2_with fail
    refine (HP.out (.ok (adv I)) S2 (adv I) (-1) d _ (zX _) ((ao.out.adv hp).set j.out 1 _) (fun _=>by rw[zx];omega) am).mono ?_
    rintro e w6 ⟨S6,q6,z6,rfl,i6,m6,s6⟩
    replace j:=zc ((j.out.at1 _).stp s6)
    replace n:=zc ((n.out.set_other (by omega) 1 _).stp s6)
    have an:Hid (SB w.heap.size S w S6 w6):=(ak.out.set (by omega) 1 _).step s6
    clear ak
    have aj:=zc m6
    have ax:=zc i6
    clear i6 m6 s6 ao
    clear V Y K J N O Q U L M A o X
    obtain⟨V,Y,K,J,N,O,Q,U,L,M,A,o,X⟩:=j.out.box
    unfold pv
    go_upto_region 9 with fail
    refine zL (R:=fun W=>Bx gt S6 W (w.heap.size) _∧Bx gt S6 W (w.heap.size+1) _∧Mem C gt H D S6 q6 W∧SB w.heap.size S w S6 W) ⟨(j.out.put ..),(n.out.other (by omega) ..),(aj.out.put j.out ..),(an.out.put (by omega) ..)⟩ ?_
    clear V Y K J N O Q U L M A o X
    clear j n an aj
    rintro w7 ⟨X0,X1,m7,t7⟩
    have j:=zc X0
    have n:=zc X1
    have al:=zc m7
    have ar:=zc t7
    clear m7 t7 X0 X1
    obtain⟨V,Y,K,J,N,O,Q,U,L,M,A,o,X⟩:=j.out.box
    have aB:=al.out.inv.ex
    go_wp2_with fail
    refine (zcK C gt H D _ S6 q6 z6 d ⟨7,0,sNone,sNone,(I.ex.length:Int)-1,(q6.ex.length:Int)-1⟩ _ ax.out al.out (fun h=>ziF ax.out h)).mono ?_
    rintro e w8 ⟨S8,q8,z8,rfl,i8,m8,s8⟩
    replace j:=zc (j.out.stp s8)
    replace n:=zc (n.out.stp s8)
    have aJ:=zc (ar.out.step s8)
    clear ar
    have aK:=zc m8
    have aH:=zc i8
    clear i8 m8 s8 al
    clear V Y K J N O Q U L M A o X
    have HI:Hid (Is (bd (bd (.ok (adv I)) (pE C .prod d)) fun q'=>zN C ⟨7,0,sNone,sNone,(I.ex.length:Int)-1,(q'.ex.length:Int)-1⟩ q') q8 z8):=by rw[←zgF ax.out (fun q'=>⟨7,0,sNone,sNone,(I.ex.length:Int)-1,(q'.ex.length:Int)-1⟩)];exact aH.out
    have ad:Hid (z8<0→I.pos+1≤q8.pos):=fun h=>ziG HI.out h
    obtain⟨V,Y,K,J,N,O,Q,U,L,M,A,o,X⟩:=j.out.box
    unfold pv
    go_wp2
    go_roundg (gk-1)
    case rel=>exact⟨_,S8,q8,z8,HI.out,by rw[←av.out];exact (ziH (d:=d) (by rw[hs,Bool.or_true]) (show zcY C I.pos=7 by rw[zcY,hs];rfl) hp).symm,fun h=>by have:=ad.out h;omega,fun h=>by have:=ad.out h;omega,(aK.out.put j.out ..),(aJ.out.put (by omega) ..),(j.out.put ..),(n.out.other (by omega) ..)⟩
    case measure=>omega
   |false=>
    obtain⟨V,Y,K,J,N,O,Q,U,L,M,A,o,X⟩:=j.out.box
    go_wp2_with fail
    refine (zh C gt H D S2 I z2 d 4 zbb _ aa.out.tok ab (by decide)).mono ?_
    rintro e w4 ⟨rfl,E⟩
    rw[ac]
    replace j:=zc (j.out.below E)
    replace n:=zc (n.out.below E)
    have ag:=zc (ah.out.below E)
    have ae:=zc (aa.out.later E)
    clear E ah aa
    clear V Y K J N O Q U L M A o X
    obtain⟨V,Y,K,J,N,O,Q,U,L,M,A,o,X⟩:=j.out.box
    obtain⟨b0,b1,b2,b3,b4,b5,b6,b7,b8,b9,aM,aL,bf⟩:=n.out.box
    go_wp2
    refine bodyPost_ret (results_cell_row rfl _ _ (w.heap.size+1) 53 _ (0,0) _ rfl ((n.out.put ..)).heap Tryz.underlying53 rfl (by kernel_rfl)) rfl ?_
    exact zY rfl (show Is (bd x (pE C .sum d)) I z2 from by rw[←av.out];exact znx aw.out hc ac) (ae.out.put n.out ..) (ag.out.put (by omega) ..)
theorem znz (C:Cx) (A n j:Nat):zgE C A n j 0:=by
 intro x S q z d w J E K L
 by_cases I:z<0
 ·have:=K I
  omega
 ·obtain⟨e,rfl,rfl⟩:=zdc J I
  rw[zdU]
  obtain⟨H,o,D⟩:=C
  cases D with
  |true=>exact ziB H o A n j S q d w E e
  |false=>exact ziC H o A n j S q d w E e
theorem zn0 (C:Cx) (o n j:Nat) (m:Nat):SumOK C o n j m:=by
 induction m with
 |zero=>exact ziJ (ziI (znz C o n j))
 |succ m q=>exact ziJ (ziI (znq q))
theorem zcN (C:Cx) (o n j:Nat) (x:PR) (S:Sv) (q:PS) (z:Int) (w:World) (D:Is x q z) (A:Mem C o n j S q w):
  Calls Tryz.prog 75 #[pv C o n S q z 0] w (Out C o n j (bd x (pE C .sum 0)) 0 S w):=
 zn0 C o n j (C.ts.length+1) x S q z 0 w D A (fun _=>by omega) (by omega)
theorem Is2.withN {y:PRN} {q q':PS} {z z':Int} {n:ByteArray} {F:PR→ByteArray→PR} (h:Is2 y q z n) (A: ∀e n,F (.error e) n= .error e) (j:Is (F (zaK y) n) q' z'):Is2 (withN y F) q' z' n:=by
 cases y with
 |ok a=>
  obtain⟨_,_,rfl⟩:=h
  have e:zaK (.ok a)= .ok a.1:=rfl
  rw[e] at j
  show Is2 (bd (F (.ok a.1) a.2) fun q=>.ok (q,a.2)) q' z' a.2
  cases o:F (.ok a.1) a.2 with
  |ok b=>rw[o] at j;exact⟨j.1,j.2,rfl⟩
  |error e=>rw[o] at j;exact j
 |error e=>
  have D:zaK (.error e)= .error e:=rfl
  rw[D,A] at j
  exact j
theorem ziK {C:Cx} {q n j:Nat} {y:PRN} {d:Nat} {S o:Sv} {w A:World} {q':PS} {z':Int} {z:ByteArray} {v:Value} (I:v=pv C q n o q' z' d) (D:Is2 y q' z' z) (H:Mem C q n j o q' A) (E:SB w.heap.size S w o A):zdo C q n j y d S w (.returned (.tuple #[v,.string z])) A:=
 ⟨o,q',z',z,by rw[I],D,H,E.done⟩
theorem zgG (C:Cx) (E D o:Nat) (S:Sv) (q:PS) (w:World) (hm:Mem C E D o S q w):
  Calls Tryz.prog 72 #[pv C E D S q (-1) 0] w (zdo C E D o (zcj C q) 0 S w):=by
 have HM:=zc hm
 clear hm
 unfold pv
 go_enter Tryz.func72,Tryz.ntmps72
 go_wp2_with fail
 refine (zaH C E D o (.ok q) S q (-1) 0 zC _ (zX q) ((HM.out.alloc _).alloc _)).mono ?_
 rintro e w1 ⟨S1,q1,z1,rfl,i1,m1,s1⟩
 obtain⟨U,Y,t1⟩:=HM.out.two2 s1
 have z:=zc U
 have j:=zc Y
 have ae:=zc m1
 have V:=zc t1
 have am:=zc i1
 clear U Y i1 m1 t1 s1
 go_wp2_with fail
 refine (zbe C E D o _ S1 q1 z1 0 false _ am.out ae.out).mono ?_
 rintro e w2 ⟨S2,q2,z2,n2,rfl,i2,m2,s2⟩
 replace z:=zc (z.out.stp s2)
 replace j:=zc (j.out.stp s2)
 have X:=zc (V.out.step s2)
 clear V
 have I:=zc m2
 have Z:=zc i2
 clear i2 m2 s2 ae
 have an:w.heap.size+1<w2.heap.size:=j.out.lt
 unfold pv
 go_wp2_with fail
 refine (zad C E D o _ S2 q2 z2 0 cEq _ Z.out.fst (I.out.alloc _)).mono ?_
 rintro e w3 ⟨S3,q3,z3,rfl,i3,m3,s3⟩
 replace z:=zc ((z.out.alloc _).stp s3)
 replace j:=zc ((j.out.alloc _).stp s3)
 replace A:=zc ((Bx.new I.out _).stp s3)
 have ab:Hid (SB w.heap.size S w S3 w3):=(X.out.alloc _).step s3
 clear X
 have af:=zc m3
 have ah:=zc i3
 clear i3 m3 s3 I
 go_wp2_with fail
 refine (zcN C E D o _ S3 q3 z3 _ ah.out af.out).mono ?_
 rintro e w4 ⟨S4,q4,z4,rfl,i4,m4,s4⟩
 replace z:=zc (z.out.stp s4)
 replace j:=zc (j.out.stp s4)
 replace A:=zc (A.out.stp s4)
 have O:=zc (ab.out.step s4)
 clear ab
 have ad:=zc m4
 have aj:=zc i4
 clear i4 m4 s4 af
 go_wp2_with fail
 refine (zad C E D o _ S4 q4 z4 0 cSemi _ aj.out ad.out).mono ?_
 rintro e w5 ⟨K,q5,z5,rfl,i5,m5,L⟩
 replace z:=zc (z.out.stp L)
 replace j:=zc (j.out.stp L)
 replace A:=zc (A.out.stp L)
 have M:=zc (O.out.step L)
 clear O
 have ag:=zc m5
 have N:=zc i5
 clear i5 m5 L ad
 obtain⟨c0,c1,c2,c3,c4,c5,c6,c7,c8,c9,H,J,cf⟩:=A.out.box
 unfold pv
 go_upto_region 3 with fail
 refine zL (R:=fun W=>Bx E K W (w.heap.size) _∧Bx E K W (w.heap.size+1) _∧Bx E K W (w2.heap.size) _∧Mem C E D o K q5 W∧SB w.heap.size S w K W) ⟨(z.out.other (by omega) ..),(j.out.other (by omega) ..),(A.out.put ..),(ag.out.put A.out ..),(M.out.put (by omega) ..)⟩ ?_
 clear c0 c1 c2 c3 c4 c5 c6 c7 c8 c9 H J cf
 clear z j A M ag
 rintro w6 ⟨U,Y,X2,m6,t6⟩
 have z:=zc U
 have j:=zc Y
 have A:=zc X2
 have aa:=zc m6
 have ac:=zc t6
 clear m6 t6 U Y X2
 obtain⟨c0,c1,c2,c3,c4,c5,c6,c7,c8,c9,H,J,cf⟩:=A.out.box
 go_wp2_with fail
 refine (zcL C E D o _ K q5 z5 0 1 n2 _ N.out aa.out (zbh N.out)).mono ?_
 rintro e w7 ⟨S7,q7,z7,rfl,i7,m7,Q⟩
 replace z:=zc (z.out.stp Q)
 replace j:=zc (j.out.stp Q)
 replace A:=zc (A.out.stp Q)
 have al:=zc (ac.out.step Q)
 clear ac
 have ai:=zc m7
 have ak:=zc i7
 clear i7 m7 Q aa
 clear c0 c1 c2 c3 c4 c5 c6 c7 c8 c9 H J cf
 obtain⟨b0,b1,b2,b3,b4,b5,b6,b7,b8,b9,ap,ao,bf⟩:=j.out.box
 unfold pv
 go_wp2
 refine bodyPost_ret (zaA rfl _ _ (w.heap.size+1) 53 _ (0,0) _ rfl ((j.out.put ..)).heap Tryz.underlying53 rfl (by kernel_rfl)) rfl ?_
 exact ziK rfl (Z.out.withN (F:=fun x n=>_) (fun _ _=>rfl) ak.out) (ai.out.put j.out ..) (al.out.put (by omega) ..)
theorem zgH (C:Cx) (E D A:Nat) (S:Sv) (q:PS) (w:World) (hm:Mem C E D A S q w):
  Calls Tryz.prog 73 #[pv C E D S q (-1) 0] w (zdo C E D A (fnP C q) 0 S w):=by
 have HM:=zc hm
 clear hm
 unfold pv
 go_enter Tryz.func73,Tryz.ntmps73
 go_wp2_with fail
 refine (zaH C E D A (.ok q) S q (-1) 0 zT _ (zX q) ((HM.out.alloc _).alloc _)).mono ?_
 rintro e w1 ⟨S1,q1,z1,rfl,i1,m1,s1⟩
 obtain⟨N,X1,t1⟩:=HM.out.two2 s1
 have z:=zc N
 have o:=zc X1
 have aH:=zc m1
 have ak:=zc t1
 have aW:=zc i1
 clear N X1 i1 m1 t1 s1
 go_wp2_with fail
 refine (zbe C E D A _ S1 q1 z1 0 false _ aW.out aH.out).mono ?_
 rintro e w2 ⟨S2,q2,z2,n2,rfl,i2,m2,s2⟩
 replace z:=zc (z.out.stp s2)
 replace o:=zc (o.out.stp s2)
 have an:=zc (ak.out.step s2)
 clear ak
 have ah:=zc m2
 have ar:=zc i2
 clear i2 m2 s2 aH
 have aZ:w.heap.size+1<w2.heap.size:=o.out.lt
 unfold pv
 go_wp2_with fail
 refine (zad C E D A _ S2 q2 z2 0 zn _ ar.out.fst (ah.out.alloc _)).mono ?_
 rintro e w3 ⟨S3,q3,z3,rfl,i3,m3,s3⟩
 replace z:=zc ((z.out.alloc _).stp s3)
 replace o:=zc ((o.out.alloc _).stp s3)
 replace j:=zc ((Bx.new ah.out _).stp s3)
 have ax:Hid (SB w.heap.size S w S3 w3):=(an.out.alloc _).step s3
 clear an
 have aI:=zc m3
 have aR:=zc i3
 clear i3 m3 s3 ah
 go_wp2_with fail
 refine (zad C E D A _ S3 q3 z3 0 za0 _ aR.out aI.out).mono ?_
 rintro e w4 ⟨S4,q4,z4,rfl,i4,m4,s4⟩
 replace z:=zc (z.out.stp s4)
 replace o:=zc (o.out.stp s4)
 replace j:=zc (j.out.stp s4)
 have aj:=zc (ax.out.step s4)
 clear ax
 have aC:=zc m4
 have aS:=zc i4
 clear i4 m4 s4 aI
 go_wp2_with fail
 refine (zad C E D A _ S4 q4 z4 0 zJ _ aS.out aC.out).mono ?_
 rintro e w5 ⟨S5,q5,z5,rfl,i5,m5,s5⟩
 replace z:=zc (z.out.stp s5)
 replace o:=zc (o.out.stp s5)
 replace j:=zc (j.out.stp s5)
 have ai:=zc (aj.out.step s5)
 clear aj
 have aK:=zc m5
 have aP:=zc i5
 clear i5 m5 s5 aC
 obtain⟨L,c1,Q,Z,V,c5,K,c7,M,U,H,I,cf⟩:=j.out.box
 unfold pv
 go_upto_region 3 with fail
 refine zL (R:=fun W=>Bx E S5 W (w.heap.size) _∧Bx E S5 W (w.heap.size+1) _∧Bx E S5 W (w2.heap.size) _∧Mem C E D A S5 q5 W∧SB w.heap.size S w S5 W) ⟨(z.out.other (by omega) ..),(o.out.other (by omega) ..),(j.out.put ..),(aK.out.put j.out ..),(ai.out.put (by omega) ..)⟩ ?_
 clear L c1 Q Z V c5 K c7 M U H I cf
 clear z o j ai aK
 rintro w6 ⟨N,X1,X2,m6,t6⟩
 have z:=zc N
 have o:=zc X1
 have j:=zc X2
 have av:=zc m6
 have aA:=zc t6
 clear m6 t6 N X1 X2
 obtain⟨L,c1,Q,Z,V,c5,K,c7,M,U,H,I,cf⟩:=j.out.box
 go_wp2_with fail
 refine (zaH C E D A _ S5 q5 z5 0 zdT _ aP.out av.out).mono ?_
 rintro e w7 ⟨S7,q7,z7,rfl,i7,m7,s7⟩
 replace z:=zc (z.out.stp s7)
 replace o:=zc (o.out.stp s7)
 replace j:=zc (j.out.stp s7)
 have aF:=zc (aA.out.step s7)
 clear aA
 have ap:=zc m7
 have aU:=zc i7
 clear i7 m7 s7 av
 clear L c1 Q Z V c5 K c7 M U H I cf
 go_wp2_with fail
 refine (zcN C E D A _ S7 q7 z7 _ aU.out ap.out).mono ?_
 rintro e w8 ⟨S8,q8,z8,rfl,i8,m8,s8⟩
 replace z:=zc (z.out.stp s8)
 replace o:=zc (o.out.stp s8)
 replace j:=zc (j.out.stp s8)
 have aL:=zc (aF.out.step s8)
 clear aF
 have aO:=zc m8
 have aV:=zc i8
 clear i8 m8 s8 ap
 obtain⟨L,c1,Q,Z,V,c5,K,c7,M,U,H,I,cf⟩:=j.out.box
 unfold pv
 go_upto_region 4 with fail
 refine zL (R:=fun W=>Bx E S8 W (w.heap.size) _∧Bx E S8 W (w.heap.size+1) _∧Bx E S8 W (w2.heap.size) _∧Mem C E D A S8 q8 W∧SB w.heap.size S w S8 W) ⟨(z.out.other (by omega) ..),(o.out.other (by omega) ..),(j.out.put ..),(aO.out.put j.out ..),(aL.out.put (by omega) ..)⟩ ?_
 clear L c1 Q Z V c5 K c7 M U H I cf
 clear z o j aL aO
 rintro w9 ⟨N,X1,X2,m9,t9⟩
 have z:=zc N
 have o:=zc X1
 have j:=zc X2
 have aM:=zc m9
 have aJ:=zc t9
 clear m9 t9 N X1 X2
 obtain⟨L,c1,Q,Z,V,c5,K,c7,M,U,H,I,cf⟩:=j.out.box
 go_wp2_with fail
 refine (zad C E D A _ S8 q8 z8 0 cSemi _ aV.out aM.out).mono ?_
 rintro e a4 ⟨aY,aT,aQ,rfl,aw,aN,O⟩
 replace z:=zc (z.out.stp O)
 replace o:=zc (o.out.stp O)
 replace j:=zc (j.out.stp O)
 have ac:=zc (aJ.out.step O)
 clear aJ
 have ae:=zc aN
 have au:=zc aw
 clear aw aN O aM
 clear L c1 Q Z V c5 K c7 M U H I cf
 go_wp2_with fail
 refine (zad C E D A _ aY aT aQ 0 zbm _ au.out ae.out).mono ?_
 rintro e a7 ⟨J,aq,aX,rfl,aB,ao,Y⟩
 replace z:=zc (z.out.stp Y)
 replace o:=zc (o.out.stp Y)
 replace j:=zc (j.out.stp Y)
 have af:=zc (ac.out.step Y)
 clear ac
 have ab:=zc ao
 have aa:=zc aB
 clear aB ao Y ae
 obtain⟨L,c1,Q,Z,V,c5,K,c7,M,U,H,I,cf⟩:=j.out.box
 unfold pv
 go_upto_region 5 with fail
 refine zL (R:=fun W=>Bx E J W (w.heap.size) _∧Bx E J W (w.heap.size+1) _∧Bx E J W (w2.heap.size) _∧Mem C E D A J aq W∧SB w.heap.size S w J W) ⟨(z.out.other (by omega) ..),(o.out.other (by omega) ..),(j.out.put ..),(ab.out.put j.out ..),(af.out.put (by omega) ..)⟩ ?_
 clear L c1 Q Z V c5 K c7 M U H I cf
 clear z o j af ab
 rintro a8 ⟨N,X1,X2,ay,al⟩
 have z:=zc N
 have o:=zc X1
 have j:=zc X2
 have ad:=zc ay
 have ag:=zc al
 clear ay al N X1 X2
 obtain⟨L,c1,Q,Z,V,c5,K,c7,M,U,H,I,cf⟩:=j.out.box
 go_wp2_with fail
 refine (zcL C E D A _ J aq aX 0 2 n2 _ aa.out ad.out (zbh aa.out)).mono ?_
 rintro e a2 ⟨a5,a6,a1,rfl,aE,aG,X⟩
 replace z:=zc (z.out.stp X)
 replace o:=zc (o.out.stp X)
 replace j:=zc (j.out.stp X)
 have aD:=zc (ag.out.step X)
 clear ag
 have az:=zc aG
 have am:=zc aE
 clear aE aG X ad
 clear L c1 Q Z V c5 K c7 M U H I cf
 obtain⟨b0,b1,b2,b3,b4,b5,b6,b7,b8,b9,a3,a0,bf⟩:=o.out.box
 unfold pv
 go_wp2
 refine bodyPost_ret (zaA rfl _ _ (w.heap.size+1) 53 _ (0,0) _ rfl ((o.out.put ..)).heap Tryz.underlying53 rfl (by kernel_rfl)) rfl ?_
 exact ziK rfl (ar.out.withN (F:=fun x n=>_) (fun _ _=>rfl) am.out) (az.out.put o.out ..) (aD.out.put (by omega) ..)
end Go.Proofs.YticdggnnpjachaaGreat
