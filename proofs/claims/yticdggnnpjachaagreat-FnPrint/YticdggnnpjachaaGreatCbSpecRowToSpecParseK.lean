/-
  A row of pairs of names beside a program under way. No program is spoken of but for the numbers of its types.
  What spec's l4Tail answers: the walk.
  What spec's l4List answers: the walk.
  What spec's l4Part answers,if l4Sum answers so behind it: the walks.
  What spec's l4Part answers where no number and no bracket stands,in a script: the walks.
  What spec's l4Part answers where no number and no bracket stands: the walks.
  What spec's l4Part,l4Product and l4Sum answer: the walks of the two loops,and the three together.
  What spec's l4Let and l4Fn answer: the walks.
-/
import Derived.Deep.DeepCutAuto
import Derived.Test.YticdggnnpjachaaGreatCbSpecBox
namespace Go.Proofs.YticdggnnpjachaaGreat
set_option maxRecDepth 100000
set_option maxHeartbeats 6400000
open Go.RowKit Go.PlainAid
structure Row (S:Sv) (w:World) (base B:Nat) (r:Rw) (l:List Ep):Prop where
 own:OwnR w base 102 4 r l.length (l.flatMap epL)
 free: ∀k,r.blk=some k→¬S.has k
 new: ∀k,r.blk=some k→B≤k
 addr: ∃g,r.a=some ⟨g,0,none⟩
theorem Row.ne {o b:Nat} {S:Sv} {w:World} {j B:Nat} {r:Rw} {l:List Ep} {z:Array Value} (h:Row S w j B r l) (q:Bx o S w b z): ∀k,r.blk=some k→k≠b:=by
 rintro k n rfl
 obtain⟨_,_,c,g⟩:=h.own.typed n
 rw[q.heap] at g
 simp only[Option.some.injEq,Obj.cells.injEq] at g
 exact absurd g.2.1 (by decide)
theorem Row.stp {S q:Sv} {w o:World} {j B:Nat} {r:Rw} {l:List Ep} (h:Row S w j B r l) (s:Stp S w q o):Row q o j B r l:=
 ⟨h.own.keep fun k n=>s.block k (h.own.typed n).2.1 (h.free k n),fun k n g=>(s.sub k g).elim (h.free k n) fun z=>by have:=(h.own.typed n).2.1;omega,h.new,h.addr⟩
theorem Row.below {S:Sv} {w n:World} {j B:Nat} {r:Rw} {l:List Ep} (h:Row S w j B r l) (s:Below w.heap.size w n):Row S n j B r l:=h.stp (Stp.below s)
theorem Row.alloc {S:Sv} {w:World} {j B:Nat} {r:Rw} {l:List Ep} (h:Row S w j B r l) (o:Obj):Row S (w.alloc o) j B r l:=h.below ((Below.refl _ _).alloc (Nat.le_refl _) _)
theorem Row.drew {S:Sv} {w:World} {j B:Nat} {r:Rw} {l:List Ep} (h:Row S w j B r l):Row S w.drew j B r l:=⟨h.own,h.free,h.new,h.addr⟩
theorem Row.set {o b:Nat} {S:Sv} {w:World} {j B:Nat} {r:Rw} {l:List Ep} {z:Array Value} (h:Row S w j B r l) (q:Bx o S w b z) (i:Nat) (u:Value):Row S (w.setCell ⟨b,i,none⟩ u) j B r l:=
 ⟨h.own.keep fun k n=>zi (h.ne q k n),h.free,h.new,h.addr⟩
theorem Row.put {N b:Nat} {S:Sv} {w:World} {j B:Nat} {r:Rw} {l:List Ep} {Q:Array Value} (h:Row S w j B r l) (K:Bx N S w b Q) (E I D J H z A M L O n o:Value):Row S (set12 w b E I D J H z A M L O n o) j B r l:=
 ⟨h.own.keep fun k q=>zeQ (h.ne K k q) _ _ _ _ _ _ _ _ _ _ _ _,h.free,h.new,h.addr⟩
theorem Row.nil {C:Cx} {z o j B:Nat} {S:Sv} {q:PS} {w:World} (h:Mem C z o j S q w) (A:B≤w.heap.size):Row S (w.alloc (.cells #[] 102 (0,0))) j B ⟨some ⟨w.heap.size,0,none⟩,0⟩ []:=by
 refine⟨World.ownsRow_lit w #[] 0 h.base (by unfold maxLen;omega) rfl,fun k n g=>?_,fun k n=>?_,⟨_,rfl⟩⟩
 ·simp only[Rw.blk,Value.ownBlock,Option.some.injEq] at n
  have:=(h.own.has g).2
  omega
 ·simp only[Rw.blk,Value.ownBlock,Option.some.injEq] at n
  omega
theorem Row.grow {C:Cx} {J E j B:Nat} {S:Sv} {q:PS} {W A:World} {r H:Rw} {l:List Ep} {x:Ep} (h:Row S W j B r l) (z:Mem C J E j S q W) (O:B≤W.heap.size) (L:W.grownBy A r.blk) (M:OwnR A j 102 4 H (l.length+1) (l.flatMap epL++epL x)) (D:H.blk=r.blk∨H.blk=some W.heap.size):
  Row S A j B H (l++[x])∧Mem C J E j S q A:=by
 refine⟨⟨?_,fun k o g=>?_,fun k o=>?_,M.addr.resolve_left (by omega)⟩,?_⟩
 ·have e:(l++[x]).length=l.length+1:=by simp
  rw[e]
  simpa using M
 ·rcases D with e|e
  ·exact h.free k (by rw[←e];exact o) g
  ·have N:W.heap.size=k:=Option.some.inj (e.symm.trans o)
   have:=(z.own.has g).2
   omega
 ·rcases D with e|e
  ·exact h.new k (by rw[←e];exact o)
  ·have N:W.heap.size=k:=Option.some.inj (e.symm.trans o)
   omega
 ·have n: ∀k,k<W.heap.size→r.blk≠some k→A.heap[k]? =W.heap[k]?:=fun k o K=>L.block k o fun e=>K e.symm
  refine⟨z.own.keep fun k o=>n k (z.own.has o).2 fun e=>h.free k e o,z.inv,zbz z.tok (n J (zan z.tok).1 fun e=>?_),z.few,Nat.le_trans z.base L.size⟩
  obtain⟨_,_,c,g⟩:=h.own.typed e
  obtain⟨Q,I⟩:=zfr z.tok
  rw[g] at I
  simp only[Option.some.injEq,Obj.cells.injEq] at I
  exact absurd I.2.1 (by decide)
theorem Row.bx {q b:Nat} {S:Sv} {W o:World} {n B:Nat} {r:Rw} {l:List Ep} {z:Array Value} (h:Row S W n B r l) (j:Bx q S W b z) (A:W.grownBy o r.blk):Bx q S o b z:=
 ⟨(A.block b j.lt fun e=>h.ne j b e.symm rfl).trans j.heap,j.free,j.ne⟩
theorem Row.sb {S S0:Sv} {w W q:World} {o:Nat} {B:Nat} {r:Rw} {l:List Ep} (h:Row S W o B r l) (j:SB B S0 w S W) (n:W.grownBy q r.blk):SB B S0 w S q:=
 ⟨n.os.trans j.os,n.tape.trans j.tape,n.output.trans j.output,Nat.le_trans j.size n.size,j.low,fun k z A=>(n.block k (by have:=j.size;have:=j.low;omega) fun e=>by have:=h.new k e.symm;omega).trans (j.block k z A),j.sub⟩
theorem Mem.list3 {C:Cx} {A D j:Nat} {S n:Sv} {q:PS} {w o:World} {z cb:Array Value} (h:Mem C A D j S q w) (s:Stp S (((w.alloc (.cells z 53 (0,0))).alloc (.cells cb 53 (0,0))).alloc (.cells #[] 102 (0,0))) n o):
  Bx A n o w.heap.size z∧Bx A n o (w.heap.size+1) cb∧Row n o j w.heap.size ⟨some ⟨w.heap.size+1+1,0,none⟩,0⟩ []∧SB w.heap.size S w n o:=by
 refine⟨(((Bx.new h _).alloc _).alloc _).stp s,?_,?_,(SB.start (zcI w _ _ _)).step s⟩
 ·have:=((Bx.new (h.alloc (.cells z 53 (0,0))) cb).alloc (.cells #[] 102 (0,0))).stp s
  rw[zk] at this
  exact this
 ·have:=(Row.nil (B:=w.heap.size) ((h.alloc (.cells z 53 (0,0))).alloc (.cells cb 53 (0,0))) (zaT w _ _).size).stp s
  rw[zc1] at this
  exact this
def Is3 (y:PRL) (q:PS) (z:Int) (l:List Ep):Prop:=
 match y with
 | .ok a=>q=a.1∧z= -1∧l=a.2
 | .error e=>z=(e:Int)
def zmX (C:Cx) (gt cap base:Nat) (y:PRL) (d:Nat) (S:Sv) (w:World) (e:Ending) (w':World):Prop:=
 ∃S' q' z' r l,e= .returned (.tuple #[pv C gt cap S' q' z' d,.slice r.a l.length r.cap,.bool (za8 l)])∧Is3 y q' z' l∧Mem C gt cap base S' q' w'∧Stp S w S' w'∧Row S' w' base w.heap.size r l∧l.length≤4001
theorem zi4 (l:List Ep) (x:Ep):za8 (l++[x])=(za8 l||(x.loc.toList==[100,101,102,97,117,108,116])):=by simp[za8]
theorem zmY {n:Func} {p u v:Tmp} {o:TypeId} (h:n.results= #[.cell p o,.tmp u,.tmp v]) (tmps:Array Value) (P:Program) (w:World):
  (results n tmps).run P w=((asAddr (tmps.getD p undef)).run P w).andThen fun a q=>((loadVar o a).run P q).andThen fun x j=>.ok (.tuple #[x,tmps.getD u undef,tmps.getD v undef]) j:=by
 simp only[results,h]
 simp[Sem.run_bind,Result.andThen]
theorem zi5 {P:Program} {q:Func} {p u v:Tmp} {j:TypeId} (h:q.results= #[.cell p j,.tmp u,.tmp v]) (tmps:Array Value) (w:World) (g:Nat) (t:TypeId) (n:Array Value) (o:Nat×Nat) (d:TypeDesc)
  (E:tmps.getD p undef= .pointer (some ⟨g,0,none⟩)) (z:w.heap[g]? =some (.cells n t o))
  (H:P.underlying j=some d) (D:(match d with| .struct _| .array _ _=>true|_=>false)=true) (A:(P.info? j).map (·.size)=some n.size):
  (results q tmps).run P w= .ok (.tuple #[.agg n,tmps.getD u undef,tmps.getD v undef]) w:=by
 rw[zmY h,E]
 simp[asAddr,Result.andThen,run_loadVar_row w g t j n o d z H D A]
theorem zbh {C:Cx} {x:PR} {k:Int} {s:ByteArray} {q:PS} {z:Int} (h:Is (bd x (zd C k s)) q z):z<0→1≤q.pos:=by
 intro n
 obtain⟨e,_⟩:=zaC h n
 obtain⟨a,_,j⟩:=zf e
 obtain⟨rfl,_⟩:=zb4 j
 simp[adv]
theorem zgD (C:Cx) (L z o:Nat) (S:Sv) (q:PS) (d:Nat) (nm:ByteArray) (w:World) (hm:Mem C L z o S q w) (hp:1≤q.pos):
  Calls Tryz.prog 191 #[pv C L z S q (-1) d,.string nm] w (Out C L z o (zbc C nm q) d S w):=by
 have HM:=zc hm
 have A:=hm.tok
 have O:=hm.few
 clear hm
 cases hi:isT C q.pos 4 zn with
 |true=>
  have HV:Hid (zbc C nm q=bd (bd (bd (.ok q) (zd C 4 zn)) (zd C 4 za0)) (zN C ⟨3,0,nm,sNone,0,0⟩)):=if_pos hi
  unfold pv
  go_enter Tryz.func191,Tryz.ntmps191
  go_wp2_with fail
  refine (zh C L z o S q (-1) d 4 zn _ (zq (zq A _) _) O (by decide)).mono ?_
  rintro e w1 ⟨rfl,D⟩
  rw[hi]
  obtain⟨X0,X1,m1,Z⟩:=HM.out.two D
  have n:=zc X0
  have j:=zc X1
  have I:=zc m1
  have E:=zc Z
  clear X0 X1 m1 Z D
  clear A
  obtain⟨Y,a1,a2,a3,a4,a5,a6,a7,a8,V,H,J,af⟩:=n.out.box
  go_wp2_with fail
  refine (zad C L z o (.ok q) S q (-1) d zn _ (zX q) I.out).mono ?_
  rintro e w2 ⟨S2,q2,z2,rfl,U,m2,M⟩
  replace n:=zc (n.out.stp M)
  replace j:=zc (j.out.stp M)
  have K:=zc (E.out.step M)
  clear E
  have N:=zc m2
  have Q:=zc U
  clear U m2 M I
  clear Y a1 a2 a3 a4 a5 a6 a7 a8 V H J af
  go_wp2_with fail
  refine (zad C L z o _ S2 q2 z2 d za0 _ Q.out N.out).mono ?_
  rintro e w3 ⟨S3,q3,z3,rfl,i3,m3,s3⟩
  replace n:=zc (n.out.stp s3)
  replace j:=zc (j.out.stp s3)
  have ab:=zc (K.out.step s3)
  clear K
  have X:=zc m3
  have aa:=zc i3
  clear i3 m3 s3 N
  obtain⟨Y,a1,a2,a3,a4,a5,a6,a7,a8,V,H,J,af⟩:=n.out.box
  unfold pv
  go_wp2_with fail
  refine (zcJ C L z o _ S3 q3 z3 d ⟨3,0,nm,sNone,0,0⟩ _ aa.out (X.out.put n.out ..) (zbh aa.out)).mono ?_
  rintro e w4 ⟨S4,q4,z4,rfl,i4,m4,s4⟩
  replace n:=zc ((n.out.put ..).stp s4)
  replace j:=zc ((j.out.other (by omega) ..).stp s4)
  have ad:Hid (SB w.heap.size S w S4 w4):=(ab.out.put (by omega) ..).step s4
  clear ab
  have ag:=zc m4
  have ah:=zc i4
  clear i4 m4 s4 X
  clear Y a1 a2 a3 a4 a5 a6 a7 a8 V H J af
  obtain⟨b0,b1,b2,b3,b4,b5,b6,b7,b8,b9,ae,ac,bf⟩:=j.out.box
  unfold pv
  go_wp2
  refine bodyPost_ret (results_cell_row rfl _ _ (w.heap.size+1) 53 _ (0,0) _ rfl ((j.out.put ..)).heap Tryz.underlying53 rfl (by kernel_rfl)) rfl ?_
  rw[HV.out]
  exact zY rfl ah.out (ag.out.put j.out ..) (ad.out.put (by omega) ..)
 |false=>
  have HV:Hid (zbc C nm q=bd (.ok q) (zN C ⟨2,0,nm,sNone,0,0⟩)):=by show zbc C nm q=_;rw[zbc,hi];rfl
  unfold pv
  go_enter Tryz.func191,Tryz.ntmps191
  go_wp2_with fail
  refine (zh C L z o S q (-1) d 4 zn _ (zq (zq A _) _) O (by decide)).mono ?_
  rintro e w1 ⟨rfl,D⟩
  rw[hi]
  obtain⟨X0,X1,m1,Z⟩:=HM.out.two D
  have n:=zc X0
  have j:=zc X1
  have I:=zc m1
  have E:=zc Z
  clear X0 X1 m1 Z D
  clear A
  obtain⟨Y,a1,a2,a3,a4,a5,a6,a7,a8,V,H,J,af⟩:=n.out.box
  go_wp2_with fail
  refine (zcJ C L z o (.ok q) S q (-1) d ⟨2,0,nm,sNone,0,0⟩ _ (zX q) I.out (fun _=>hp)).mono ?_
  rintro e w2 ⟨S2,q2,z2,rfl,U,m2,M⟩
  replace n:=zc (n.out.stp M)
  replace j:=zc (j.out.stp M)
  have K:=zc (E.out.step M)
  clear E
  have N:=zc m2
  have Q:=zc U
  clear U m2 M I
  clear Y a1 a2 a3 a4 a5 a6 a7 a8 V H J af
  obtain⟨b0,b1,b2,b3,b4,b5,b6,b7,b8,b9,ae,ac,bf⟩:=j.out.box
  unfold pv
  go_wp2
  refine bodyPost_ret (results_cell_row rfl _ _ (w.heap.size+1) 53 _ (0,0) _ rfl ((j.out.put ..)).heap Tryz.underlying53 rfl (by kernel_rfl)) rfl ?_
  rw[HV.out]
  exact zY rfl Q.out (N.out.put j.out ..) (K.out.put (by omega) ..)
theorem zmZ {C:Cx} {n:Bool} {l:List Ep} {Y:PRN} {J H:ByteArray} {L K z:PS} {M q D:Int} (N:Is2 Y L M J) (o:Is2 (bd Y (asP C n)) K q H) (I:(decide (q<0)&&isT C K.pos 4 zbw)=false) (j:Is (bd (zaK (bd Y (asP C n))) (zd C 4 zbm)) z D):
  Is3 (bd Y fun a=>bd (asP C n a) fun b=>if isT C b.1.pos 4 zbw then zax C n (adv b.1) (l++[⟨0,b.2,a.2,sNone⟩]) else bd (zd C 4 zbm b.1) fun q'=>.ok (q',l++[⟨0,b.2,a.2,sNone⟩])) z D (l++[⟨0,H,J,sNone⟩]):=by
 cases Y with
 |error e=>exact j
 |ok a=>
  obtain⟨_,_,rfl⟩:=N
  rw[zz] at o j ⊢
  cases A:asP C n a with
  |error e=>rw[A] at j;exact j
  |ok b=>
   rw[A] at o j
   obtain⟨rfl,rfl,rfl⟩:=o
   rw[Bool.and_eq_false_iff] at I
   rw[zz,I.resolve_left (by decide)]
   have e:bd (zaK (.ok b)) (zd C 4 zbm)=zd C 4 zbm b.1:=rfl
   rw[e] at j
   show Is3 (bd (zd C 4 zbm b.1) _) _ _ _
   cases E:zd C 4 zbm b.1 with
   |error e=>rw[E] at j;exact j
   |ok c=>rw[E] at j;exact⟨j.1,j.2,rfl⟩
theorem zna {C:Cx} {n:Bool} {l:List Ep} {o K A:PS} {J I:ByteArray} {L z:Int} (E:Is2 (bd (.ok o) (zj C true)) K L J) (j:Is2 (bd (bd (.ok o) (zj C true)) (asP C n)) A z I) (N:z<0) (M:isT C A.pos 4 zbw=true):
  (bd (.ok o) fun q=>zax C n q l)=(bd (.ok (adv A)) fun q=>zax C n q (l++[⟨0,I,J,sNone⟩]))∧o.pos+1≤A.pos:=by
 rw[zz] at E j ⊢
 rw[zz,zfs]
 cases H:zj C true o with
 |error e=>rw[H] at j;have:z=(e:Int):=j;omega
 |ok a=>
  rw[H] at E j
  obtain⟨_,_,rfl⟩:=E
  rw[zz] at j ⊢
  obtain⟨rfl,_⟩:=zbd H
  cases D:asP C n (adv o,(ze C o.pos).text) with
  |error e=>rw[D] at j;have:z=(e:Int):=j;omega
  |ok b=>
   rw[D] at j
   obtain⟨rfl,rfl,rfl⟩:=j
   have:=ze8 D
   rw[zz,M]
   exact⟨rfl,this⟩
theorem znb {C:Cx} {j:Bool} {x:PR} {q n:PS} {z o:Int} {l:List Ep} (D:Is x q z) (E: ¬z<0) (A:Is (bd x (zd C 4 zbm)) n o):Is3 (bd x fun q=>zax C j q l) n o l:=by
 obtain⟨e,rfl,_⟩:=zdc D E
 exact A
theorem znc {C:Cx} {j:Bool} {Y:PRN} {n A:PS} {o q:Int} {I D:ByteArray} (E:Is2 Y n o I) (z:(decide (o<0)&&isT C n.pos 1 sAs)=true) (H:Is2 (bd (.ok (adv n)) (zj C j)) A q D):Is2 (bd Y (asP C j)) A q D:=by
 rw[Bool.and_eq_true,decide_eq_true_eq] at z
 cases Y with
 |error e=>have:o=(e:Int):=E;omega
 |ok a=>
  obtain⟨rfl,_,_⟩:=E
  rw[zz,asP,if_pos z.2]
  exact H
theorem znd {C:Cx} {q:Bool} {Y:PRN} {j:PS} {n:Int} {o:ByteArray} (z:Is2 Y j n o) (A:(decide (n<0)&&isT C j.pos 1 sAs)=false) (D:((o.toList==[100,101,102,97,117,108,116])&& !exp)=true):Is2 (bd Y (asP C q)) j (zbp C j.pos n) o:=by
 cases Y with
 |error e=>
  have h:n=(e:Int):=z
  show zbp C j.pos n=(e:Int)
  rw[zbp,if_neg (by omega)]
  exact h
 |ok a=>
  obtain⟨rfl,rfl,rfl⟩:=z
  rw[Bool.and_eq_false_iff] at A
  rw[zz,asP,A.resolve_left (by decide),D]
  rfl
theorem zi6 {C:Cx} {q:Bool} {Y:PRN} {j:PS} {n:Int} {o:ByteArray} (z:Is2 Y j n o) (A:(decide (n<0)&&isT C j.pos 1 sAs)=false) (D:((o.toList==[100,101,102,97,117,108,116])&& !exp)=false):Is2 (bd Y (asP C q)) j n o:=by
 cases Y with
 |error e=>exact z
 |ok a=>
  obtain⟨rfl,rfl,rfl⟩:=z
  rw[Bool.and_eq_false_iff] at A
  rw[zz,asP,A.resolve_left (by decide),D]
  exact⟨rfl,rfl,rfl⟩
theorem zi7 (C:Cx) (K J z:Nat) (S:Sv) (q:PS) (d:Nat) (ag:Bool) (w:World) (hm:Mem C K J z S q w):
  Calls Tryz.prog 130 #[pv C K J S q (-1) d,.bool ag] w (zmX C K J z (zcw C ag q) d S w):=by
 obtain⟨i0,hi,aU,aW,aI⟩:=info_parts Tryz.infoExp
 have HM:=zc hm
 have aj:=hm.few
 clear hm
 unfold pv
 go_enter Tryz.func130,Tryz.ntmps130
 go_wp2_with fail
 refine (zad C K J z (.ok q) S q (-1) d zJ _ (zX q) (((HM.out.alloc _).alloc _).alloc _)).mono ?_
 rintro e w1 ⟨S1,q1,z1,rfl,i1,m1,s1⟩
 obtain⟨X0,X1,R0,t1⟩:=HM.out.list3 s1
 have j:=zc X0
 have n:=zc X1
 have A:=zc R0
 have aN:=zc t1
 have aR:=zc m1
 have aK:=zc i1
 clear i1 m1 s1 X0 X1 R0 t1
 obtain⟨V,a1,a2,a3,a4,Y,X,Z,a8,U,D,E,af⟩:=j.out.box
 unfold pv
 go_wp2
 go_loopg [7,8] (C.ts.length+1) (fun k o an wr=>∃(x':PR) (S':Sv) (q':PS) (z':Int) (r:Rw) (l:List Ep),Is x' q' z'∧bd x' (fun q=>zax C ag q l)=zcw C ag q∧(z'<0→C.ts.length-q'.pos<k)∧(l.length≤q'.pos∨l=[])∧o= .slice r.a l.length r.cap∧an= .bool (za8 l)∧Mem C K J z S' q' wr∧SB w.heap.size S w S' wr∧Bx K S' wr w.heap.size #[.slice (some ⟨K,0,none⟩) C.ts.length J,.int .i64 q'.pos,.int .i64 C.fin,.bool C.scr,.slice S'.rq.a q'.rq.length S'.rq.cap,.slice S'.im.a q'.im.length S'.im.cap,.slice S'.ep.a q'.ep.length S'.ep.cap,.slice S'.st.a q'.st.length S'.st.cap,.slice S'.ex.a q'.ex.length S'.ex.cap,.slice S'.la.a q'.la.length S'.la.cap,.int .i64 z',.int .i64 d]∧Bx K S' wr (w.heap.size+1) #[.slice none 0 0,.int .i64 0,.int .i64 0,.bool false,.slice none 0 0,.slice none 0 0,.slice none 0 0,.slice none 0 0,.slice none 0 0,.slice none 0 0,.int .i64 0,.int .i64 0]∧Row S' wr z w.heap.size r l)
 case atStart=>exact⟨_,S1,q1,z1,_,[],aK.out,rfl,fun _=>by omega,.inr rfl,rfl,rfl,(aR.out.put j.out ..),(aN.out.put (by omega) ..),(j.out.put ..),(n.out.other (by omega) ..),(A.out.put j.out ..)⟩
 case round=>
  obtain⟨x2,S2,q2,z2,r,l,i2,e2,l2,n2,rfl,rfl,m2,t2,X0,X1,R0⟩:=hrel
  have j:=zc X0
  have n:=zc X1
  have aq:=zc m2
  have am:=zc t2
  have au:=zc i2
  have aw:=zc e2
  have aX:=zc l2
  have A:=zc R0
  have bb:l.length≤4000:=n2.elim (fun g=>by have:=m2.inv.pos;omega) (fun g=>by rw[g];simp)
  have aQ:=zc n2
  clear X0 X1 i2 m2 t2 e2 l2 R0 n2
  by_cases hz:z2<0
  ·skip
   obtain⟨rfl,rfl⟩:=zaC au.out hz
   have bg:=aX.out hz
   obtain⟨V,a1,a2,a3,a4,Y,X,Z,a8,U,D,E,af⟩:=j.out.box
   go_wp2_with fail
   refine (zbe C K J z (.ok q2) S2 q2 (-1) d true _ (zX q2) aq.out).mono ?_
   rintro e w3 ⟨Q,q3,z3,n3,rfl,i3,m3,s3⟩
   replace j:=zc (j.out.stp s3)
   replace n:=zc (n.out.stp s3)
   have ao:=zc (am.out.step s3)
   have I:Hid (Row Q w3 z w.heap.size r l):=A.out.stp s3
   clear A
   have A:=zc I
   clear I
   clear am
   have al:=zc m3
   have ab:=zc i3
   clear i3 m3 s3 aq
   clear V a1 a2 a3 a4 Y X Z a8 U D E af
   have aZ:w.heap.size+1<w3.heap.size:=n.out.lt
   unfold pv
   go_upto_region 6 with fail
   refine zL (R:=fun W=>Bx K Q W (w.heap.size) _∧Bx K Q W (w.heap.size+1) _∧Bx K Q W (w3.heap.size) _∧Row Q W z w.heap.size r l∧Mem C K J z Q q3 W∧SB w.heap.size S w Q W) ⟨(j.out.alloc _),(n.out.alloc _),(Bx.new al.out _),(A.out.alloc _),(al.out.alloc _),(ao.out.alloc _)⟩ ?_
   clear j n ao al
   clear A
   rintro w4 ⟨X0,X1,X2,R0,m4,t4⟩
   have A:=zc R0
   clear R0
   have j:=zc X0
   have n:=zc X1
   have L:=zc X2
   have aB:=zc m4
   have az:=zc t4
   clear m4 t4 X0 X1 X2
   obtain⟨V,a1,a2,a3,a4,Y,X,Z,a8,U,D,E,af⟩:=j.out.box
   obtain⟨c0,c1,c2,c3,c4,c5,c6,c7,c8,c9,aP,aS,cf⟩:=L.out.box
   go_upto_region 7 with fail
   refine zL (R:=fun W=>Bx K Q W (w.heap.size) _∧Bx K Q W (w.heap.size+1) _∧Bx K Q W (w3.heap.size) _∧Row Q W z w.heap.size r l∧Mem C K J z Q q3 W∧SB w.heap.size S w Q W) ⟨(j.out.put ..),(n.out.other (by omega) ..),(L.out.other (by omega) ..),(A.out.put j.out ..),(aB.out.put j.out ..),(az.out.put (by omega) ..)⟩ ?_
   clear V a1 a2 a3 a4 Y X Z a8 U D E af c0 c1 c2 c3 c4 c5 c6 c7 c8 c9 aP aS cf
   clear j n L az aB
   clear A
   rintro w5 ⟨X0,X1,X2,R0,m5,t5⟩
   have A:=zc R0
   clear R0
   have j:=zc X0
   have n:=zc X1
   have L:=zc X2
   have ai:=zc m5
   have ak:=zc t5
   clear m5 t5 X0 X1 X2
   skip
   obtain⟨V,a1,a2,a3,a4,Y,X,Z,a8,U,D,E,af⟩:=j.out.box
   skip
   go_wp2_with fail
   refine (zh C K J z Q q3 z3 d 1 sAs _ ai.out.tok aj (by decide)).mono ?_
   rintro e w6 ⟨rfl,ah⟩
   replace j:=zc (j.out.below ah)
   replace n:=zc (n.out.below ah)
   replace L:=zc (L.out.below ah)
   have O:=zc (ak.out.below ah)
   have M:=zc (ai.out.later ah)
   have I:Hid (Row Q w6 z w.heap.size r l):=A.out.below ah
   clear A
   have A:=zc I
   clear I
   clear ah ak ai
   clear V a1 a2 a3 a4 Y X Z a8 U D E af
   go_upto_if 28 with fail
   go_cut [11] (fun aT wx=>∃(N:Sv) (q5:PS) (z5:Int) (n5:ByteArray),aT= .string n5∧Is2 (bd (bd (.ok q2) (zj C true)) (asP C ag)) q5 z5 n5∧Mem C K J z N q5 wx∧SB w.heap.size S w N wx∧Bx K N wx w.heap.size #[.slice (some ⟨K,0,none⟩) C.ts.length J,.int .i64 q5.pos,.int .i64 C.fin,.bool C.scr,.slice N.rq.a q5.rq.length N.rq.cap,.slice N.im.a q5.im.length N.im.cap,.slice N.ep.a q5.ep.length N.ep.cap,.slice N.st.a q5.st.length N.st.cap,.slice N.ex.a q5.ex.length N.ex.cap,.slice N.la.a q5.la.length N.la.cap,.int .i64 z5,.int .i64 d]∧Bx K N wx (w.heap.size+1) #[.slice none 0 0,.int .i64 0,.int .i64 0,.bool false,.slice none 0 0,.slice none 0 0,.slice none 0 0,.slice none 0 0,.slice none 0 0,.slice none 0 0,.int .i64 0,.int .i64 0]∧Row N wx z w.heap.size r l)
   case first=>
    cases hb:(decide (z3<0)&&isT C q3.pos 1 sAs) with
    |true=>
     have aY:q3.pos<C.ts.length:=by rw[Bool.and_eq_true] at hb;exact za1 hb.2 (by decide)
     obtain⟨V,a1,a2,a3,a4,Y,X,Z,a8,U,D,E,af⟩:=j.out.box
     have aL:z3= -1:=by rw[Bool.and_eq_true,decide_eq_true_eq] at hb;exact (zaC ab.out.fst hb.1).2
     subst aL
     go_wp2_with fail
     refine (zbe C K J z (.ok (adv q3)) Q (adv q3) (-1) d ag _ (zX _) ((M.out.adv aY).set j.out 1 _)).mono ?_
     rintro e w7 ⟨S7,q7,z7,n7,rfl,i7,m7,s7⟩
     have ae:Hid (Bx K S7 w7 _ _):=(j.out.at1 _).stp s7
     have ad:Hid (Bx K S7 w7 _ _):=(n.out.set_other (by omega) 1 _).stp s7
     have ar:Hid (Bx K S7 w7 _ _):=(L.out.set_other (by omega) 1 _).stp s7
     have ac:Hid (SB w.heap.size S w S7 w7):=(O.out.set (by omega) 1 _).step s7
     replace A:=zc ((A.out.set j.out 1 _).stp s7)
     clear j n L O
     have j:=zc ae
     have n:=zc ad
     have L:=zc ar
     clear ae ad ar
     have aa:=zc m7
     have aV:=zc i7
     clear i7 m7 s7 M
     clear V a1 a2 a3 a4 Y X Z a8 U D E af
     have ba:w.heap.size+1<w7.heap.size:=n.out.lt
     have aD:w3.heap.size<w7.heap.size:=L.out.lt
     unfold pv
     go_upto_region 11 with fail
     refine zL (R:=fun W=>Bx K S7 W (w.heap.size) _∧Bx K S7 W (w.heap.size+1) _∧Bx K S7 W (w3.heap.size) _∧Bx K S7 W (w7.heap.size) _∧Row S7 W z w.heap.size r l∧Mem C K J z S7 q7 W∧SB w.heap.size S w S7 W) ⟨(j.out.alloc _),(n.out.alloc _),(L.out.alloc _),(Bx.new aa.out _),(A.out.alloc _),(aa.out.alloc _),(ac.out.alloc _)⟩ ?_
     clear j n L ac aa
     clear A
     rintro w8 ⟨X0,X1,X2,X3,R0,m8,t8⟩
     have A:=zc R0
     clear R0
     have j:=zc X0
     have n:=zc X1
     have L:=zc X2
     have aH:=zc X3
     have av:=zc m8
     have ax:=zc t8
     clear m8 t8 X0 X1 X2 X3
     obtain⟨V,a1,a2,a3,a4,Y,X,Z,a8,U,D,E,af⟩:=j.out.box
     obtain⟨d0,d1,d2,d3,d4,d5,d6,d7,d8,d9,be,bc,df⟩:=aH.out.box
     go_wp2
     go_meet
     case rel=>exact⟨S7,q7,z7,n7,rfl,znc ab.out hb aV.out,(av.out.put j.out ..),(ax.out.put (by omega) ..),(j.out.put ..),(n.out.other (by omega) ..),(A.out.put j.out ..)⟩
    |false=>
     cases e3:(n3.toList==[100,101,102,97,117,108,116]) with
     |true=>
      cases ag with
      |false=>
       obtain⟨V,a1,a2,a3,a4,Y,X,Z,a8,U,D,E,af⟩:=j.out.box
       go_wp2_with fail
       refine (zda C K J z Q q3 z3 d _ M.out.tok aj).mono ?_
       rintro e w7 ⟨rfl,H⟩
       replace j:=zc (j.out.below H)
       replace n:=zc (n.out.below H)
       replace L:=zc (L.out.below H)
       have ac:=zc (O.out.below H)
       have aa:=zc (M.out.later H)
       have I:Hid (Row Q w7 z w.heap.size r l):=A.out.below H
       clear A
       have A:=zc I
       clear I
       clear H O M
       clear V a1 a2 a3 a4 Y X Z a8 U D E af
       obtain⟨V,a1,a2,a3,a4,Y,X,Z,a8,U,D,E,af⟩:=j.out.box
       unfold pv
       go_wp2
       go_meet
       case rel=>exact⟨Q,q3,(zbp C q3.pos z3),n3,rfl,znd ab.out hb (by rw[e3];rfl),(aa.out.put j.out ..),(ac.out.put (by omega) ..),(j.out.put ..),(n.out.other (by omega) ..),(A.out.put j.out ..)⟩
      |true=>
       obtain⟨V,a1,a2,a3,a4,Y,X,Z,a8,U,D,E,af⟩:=j.out.box
       go_wp2
       go_meet
       case rel=>exact⟨Q,q3,z3,n3,rfl,zi6 ab.out hb (by rw[e3];rfl),M.out,O.out,j.out,n.out,A.out⟩
     |false=>
      obtain⟨V,a1,a2,a3,a4,Y,X,Z,a8,U,D,E,af⟩:=j.out.box
      go_wp2
      go_meet
      case rel=>exact⟨Q,q3,z3,n3,rfl,zi6 ab.out hb (by rw[e3];rfl),M.out,O.out,j.out,n.out,A.out⟩
   case rest=>
    obtain⟨N,q5,z5,n5,rfl,i5,m5,t5,X0,X1,R0⟩:=hcut
    clear j n L A M O
    have j:=zc X0
    have n:=zc X1
    have ai:=zc m5
    have ak:=zc t5
    have ap:=zc i5
    have A:=zc R0
    clear X0 X1 i5 m5 t5 R0
    go_upto_region 15 with fail
    go_cut [8] (fun s8 wx=>s8= .bool (za8 l||(n3.toList==[100,101,102,97,117,108,116]))∧wx=wc)
    case first=>
     cases ha:za8 l with
     |true=>
      go_wp2
      go_meet
      case rel=>exact⟨by rw[ha];rfl,rfl⟩
     |false=>
      cases e3:(n3.toList==[100,101,102,97,117,108,116]) with
      |true=>
       go_wp2
       go_meet
       case rel=>exact⟨by rw[ha,e3];rfl,rfl⟩
      |false=>
       go_wp2
       go_meet
       case rel=>exact⟨by rw[ha,e3];rfl,rfl⟩
    case rest=>
     obtain⟨rfl,rfl⟩:=hcut
     have as:=fun o=>A.out.own.alloc o
     have aG:=ai.out.base
     go_wp2_with (at_builtin;refine zcu _ rfl _ _ 24 rfl z 102 i0 _ 4 56 Tryz.underlying24 hi aU aW aI rfl (by decide) (by decide) r l.length _ (by rfl) (as _) wc.heap.size (epL ⟨0,n5,n3,sNone⟩) (by rfl) (by exact heap_alloc_new wc _) rfl (by intro u hu;simp[epL] at hu;rcases hu with rfl|rfl|rfl|rfl<;>rfl) (by omega) (by rw[zk];omega) ?_)
     intro r' w6 hr hg aC
     obtain⟨R6,m6⟩:=(A.out.alloc _).grow (x:=⟨0,n5,n3,sNone⟩) (ai.out.alloc _) (by rw[zk];have:=ak.out.size;omega) hg hr (by rw[zk];exact aC)
     have ae:Hid (Bx K N w6 _ _):=(A.out.alloc _).bx (j.out.alloc _) hg
     have ad:Hid (Bx K N w6 _ _):=(A.out.alloc _).bx (n.out.alloc _) hg
     have O:Hid (SB w.heap.size S w N w6):=(A.out.alloc _).sb (ak.out.alloc _) hg
     have M:=zc m6
     clear j n A hr hg aC as aG ai ak m6
     have j:=zc ae
     have n:=zc ad
     have A:=zc R6
     clear ae ad R6
     cases hc:(decide (z5<0)&&isT C q5.pos 4 zbw) with
     |true=>
      obtain⟨V,a1,a2,a3,a4,Y,X,Z,a8,U,D,E,af⟩:=j.out.box
      go_wp2_with fail
      refine (zh C K J z N q5 z5 d 4 zbw _ M.out.tok aj (by decide)).mono ?_
      rintro e w7 ⟨rfl,H⟩
      rw[hc]
      replace j:=zc (j.out.below H)
      replace n:=zc (n.out.below H)
      have ac:=zc (O.out.below H)
      have aa:=zc (M.out.later H)
      have I:Hid (Row N w7 z w.heap.size r' (l++[⟨0,n5,n3,sNone⟩])):=A.out.below H
      clear A
      have A:=zc I
      clear I
      clear H O M
      clear V a1 a2 a3 a4 Y X Z a8 U D E af
      rw[Bool.and_eq_true,decide_eq_true_eq] at hc
      obtain⟨aA,ay⟩:=hc
      have aE:q5.pos<C.ts.length:=za1 ay (by decide)
      obtain⟨E5,P5⟩:=zna (l:=l) ab.out ap.out aA ay
      have HE:=zc E5
      obtain rfl:z5= -1:=(zaC ap.out.fst aA).2
      have aM:Hid ((l++[(⟨0,n5,n3,sNone⟩:Ep)]).length≤q5.pos+1∨l++[(⟨0,n5,n3,sNone⟩:Ep)]=[]):=.inl (by simp only[List.length_append,List.length_singleton];exact aQ.out.elim (fun g=>by omega) (fun g=>by rw[g];simp))
      clear E5
      obtain⟨V,a1,a2,a3,a4,Y,X,Z,a8,U,D,E,af⟩:=j.out.box
      go_wp2
      go_roundg (gk-1)
      case rel=>exact⟨.ok (adv q5),N,adv q5,-1,r',l++[⟨0,n5,n3,sNone⟩],zX _,by rw[←aw.out];exact HE.out.symm,fun _=>by rw[zx];omega,aM.out,by simp,by rw[zi4],((aa.out.adv aE).set j.out 1 _),(ac.out.set (by omega) 1 _),(j.out.at1 _),(n.out.set_other (by omega) 1 _),(A.out.set j.out 1 _)⟩
      case measure=>omega
     |false=>
      obtain⟨V,a1,a2,a3,a4,Y,X,Z,a8,U,D,E,af⟩:=j.out.box
      go_wp2_with fail
      refine (zh C K J z N q5 z5 d 4 zbw _ M.out.tok aj (by decide)).mono ?_
      rintro e w7 ⟨rfl,H⟩
      rw[hc]
      replace j:=zc (j.out.below H)
      replace n:=zc (n.out.below H)
      have ac:=zc (O.out.below H)
      have aa:=zc (M.out.later H)
      have I:Hid (Row N w7 z w.heap.size r' (l++[⟨0,n5,n3,sNone⟩])):=A.out.below H
      clear A
      have A:=zc I
      clear I
      clear H O M
      clear V a1 a2 a3 a4 Y X Z a8 U D E af
      obtain⟨V,a1,a2,a3,a4,Y,X,Z,a8,U,D,E,af⟩:=j.out.box
      go_wp2_with fail
      refine (zad C K J z _ N q5 z5 d zbm _ ap.out.fst aa.out).mono ?_
      rintro e w8 ⟨S8,q8,z8,rfl,i8,m8,s8⟩
      replace j:=zc (j.out.stp s8)
      replace n:=zc (n.out.stp s8)
      have ax:=zc (ac.out.step s8)
      have I:Hid (Row S8 w8 z w.heap.size r' (l++[⟨0,n5,n3,sNone⟩])):=A.out.stp s8
      clear A
      have A:=zc I
      clear I
      clear ac
      have av:=zc m8
      have aJ:=zc i8
      clear i8 m8 s8 aa
      clear V a1 a2 a3 a4 Y X Z a8 U D E af
      obtain⟨b0,b1,b2,b3,b4,b5,b6,b7,b8,b9,aO,aF,bf⟩:=n.out.box
      unfold pv
      go_wp2
      refine bodyPost_ret (zi5 rfl _ _ (w.heap.size+1) 53 _ (0,0) _ rfl ((n.out.put ..)).heap Tryz.underlying53 rfl (by kernel_rfl)) rfl ?_
      exact⟨S8,q8,z8,r',l++[⟨0,n5,n3,sNone⟩],by simp[pv,zi4],by rw[←aw.out,zz,zfs];exact zmZ ab.out ap.out hc aJ.out,(av.out.put n.out ..),((ax.out.put (by omega) ..)).done,(A.out.put n.out ..),by simp;omega⟩
  ·skip
   obtain⟨V,a1,a2,a3,a4,Y,X,Z,a8,U,D,E,af⟩:=j.out.box
   go_wp2_with fail
   refine (zad C K J z _ S2 q2 z2 d zbm _ au.out aq.out).mono ?_
   rintro e w3 ⟨Q,q3,z3,rfl,i3,m3,s3⟩
   replace j:=zc (j.out.stp s3)
   replace n:=zc (n.out.stp s3)
   have ao:=zc (am.out.step s3)
   have I:Hid (Row Q w3 z w.heap.size r l):=A.out.stp s3
   clear A
   have A:=zc I
   clear I
   clear am
   have al:=zc m3
   have ab:=zc i3
   clear i3 m3 s3 aq
   clear V a1 a2 a3 a4 Y X Z a8 U D E af
   obtain⟨b0,b1,b2,b3,b4,b5,b6,b7,b8,b9,aO,aF,bf⟩:=n.out.box
   unfold pv
   go_wp2
   refine bodyPost_ret (zi5 rfl _ _ (w.heap.size+1) 53 _ (0,0) _ rfl ((n.out.put ..)).heap Tryz.underlying53 rfl (by kernel_rfl)) rfl ?_
   exact⟨Q,q3,z3,r,l,rfl,by rw[←aw.out];exact znb au.out (by omega) ab.out,(al.out.put n.out ..),((ao.out.put (by omega) ..)).done,(A.out.put n.out ..),by omega⟩
def SumOK (C:Cx) (gt cap base m:Nat):Prop:=∀(x:PR) (S:Sv) (q:PS) (z:Int) (d:Nat) (w:World),Is x q z→Mem C gt cap base S q w→(z<0→C.ts.length-q.pos<m)→d≤20→
 Calls Tryz.prog 75 #[pv C gt cap S q z d] w (Out C gt cap base (bd x (pE C .sum d)) d S w)
theorem zf5 {C:Cx} {o:Bool} {q n:PS} {j:Int} {z:ByteArray} (h:Is2 (bd (.ok q) (zj C o)) n j z) (A:zD C q.pos o=true):n=adv q∧j= -1∧z=(ze C q.pos).text:=by
 rw[zz,zj,if_pos A] at h
 exact h
theorem zf6 {C:Cx} {o:Bool} {q n:PS} {j:Int} {A:ByteArray} (h:Is2 (bd (.ok q) (zj C o)) n j A) (z:zD C q.pos o=false):j=(zr C q.pos:Int):=by
 rw[zz,zj,z] at h
 exact h
theorem zi8 {C:Cx} {n:ByteArray} {y:Except Nat (PS×ByteArray)} {q:PS} {z:Int} {f:ByteArray} (h:Is2 y q z f) (j:(decide (z<0)&&isT C q.pos 4 zn)=true):bd (bd (bd (zaK y) (zd C 4 zn)) (zd C 4 za0)) (zN C ⟨5,0,n,f,0,0⟩)=bd y fun a=>zbx C n a.2 a.1:=by
 rw[Bool.and_eq_true,decide_eq_true_eq] at j
 cases y with
 |ok a=>
  obtain⟨rfl,_,rfl⟩:=h
  show _=zbx C n a.2 a.1
  rw[zbx,if_pos j.2]
  rfl
 |error e=>rfl
theorem zi9 {C:Cx} {n:ByteArray} {y:Except Nat (PS×ByteArray)} {q:PS} {z:Int} {f:ByteArray} (h:Is2 y q z f) (j:(decide (z<0)&&isT C q.pos 4 zn)=false):bd (zaK y) (zN C ⟨4,0,n,f,0,0⟩)=bd y fun a=>zbx C n a.2 a.1:=by
 cases y with
 |ok a=>
  obtain⟨rfl,rfl,rfl⟩:=h
  rw[Bool.and_eq_false_iff] at j
  show _=zbx C n a.2 a.1
  rw[zbx,j.resolve_left (by decide)]
  rfl
 |error e=>rfl
theorem ziA {C:Cx} {o:Bool} {x:PR} {q:PS} {z:Int} {n:ByteArray} (h:Is2 (bd x (zj C o)) q z n):z<0→1≤q.pos:=by
 intro D
 cases j:bd x (zj C o) with
 |error e=>rw[j] at h;have:z=(e:Int):=h;omega
 |ok a=>
  rw[j] at h
  obtain⟨rfl,_,_⟩:=h
  obtain⟨b,_,A⟩:=zf j
  obtain⟨rfl,_⟩:=zbd A
  simp[adv]
theorem zne (C:Cx) (I o j:Nat) (S:Sv) (q:PS) (d:Nat) (w:World) (H:Mem C I o j S q w) (J:((ze C q.pos).kind==2)=true):
  Calls Tryz.prog 168 #[pv C I o S q (-1) d] w (Out C I o j (pE C .part d q) d S w):=by
 have HM:=zc H
 have z:=H.tok
 have Y:C.ts.length≤4000:=H.few
 have Z:=(zan H.tok).1
 clear H
 have hp:q.pos<C.ts.length:=zfn J (by decide)
 have V:Hid (pE C .part d q=bd (.ok (adv q)) (zN C ⟨1,(ze C q.pos).num,sNone,sNone,0,0⟩)):=by show pE C .part d q=_;rw[zb6,if_pos J];rfl
 obtain⟨U,_,O,_⟩:=z.cells hp (d:=⟨0,sNone,0,C.fin⟩)
 change _=some (Value.int .i64 (ze C q.pos).kind) at U
 change _=some (Value.int .i64 (ze C q.pos).num) at O
 have E:Hid (Mem C I o j S (adv q) w):=HM.out.adv hp
 generalize (ze C q.pos).kind=kd at U J
 have HN:Hid (∀n,n=(ze C q.pos).num→pE C .part d q=bd (.ok (adv q)) (zN C ⟨1,n,sNone,sNone,0,0⟩)):=fun n e=>by rw[e];exact V.out
 generalize D:(ze C q.pos).num=nm at O
 have K:Hid (nm=(ze C q.pos).num):=D.symm
 clear D V z
 unfold pv
 go_enter Tryz.func168,Tryz.ntmps168
 go_wp2_with fail
 refine (zcJ C I o j (.ok (adv q)) S (adv q) (-1) d ⟨1,nm,sNone,sNone,0,0⟩ _ (zX _) ((E.out.alloc _).alloc _) (fun _=>by simp[adv])).mono ?_
 rintro e w1 ⟨S1,q1,z1,rfl,Q,m1,X⟩
 obtain⟨X0,X1,t1⟩:=E.out.two2 X
 have A:=zc X1
 have M:=zc m1
 have N:=zc t1
 have L:=zc Q
 clear X0 X1 Q m1 t1 X
 obtain⟨b0,b1,b2,b3,b4,b5,b6,b7,b8,b9,aa,ab,bf⟩:=A.out.box
 unfold pv
 go_wp2
 refine bodyPost_ret (results_cell_row rfl _ _ (w.heap.size+1) 53 _ (0,0) _ rfl ((A.out.put ..)).heap Tryz.underlying53 rfl (by kernel_rfl)) rfl ?_
 rw[HN.out nm K.out]
 exact zY rfl L.out (M.out.put A.out ..) (N.out.put (by omega) ..)
theorem znf (C:Cx) (L z j:Nat) (S:Sv) (q:PS) (d:Nat) (w:World) (K:Mem C L z j S q w) (Y:((ze C q.pos).kind==2)=false) (O:isT C q.pos 4 zn=true) (hd:20≤d) (ac:d≤20):
  Calls Tryz.prog 168 #[pv C L z S q (-1) d] w (Out C L z j (pE C .part d q) d S w):=by
 have HM:=zc K
 have D:=K.tok
 have A:C.ts.length≤4000:=K.few
 have Z:=(zan K.tok).1
 clear K
 have hp:q.pos<C.ts.length:=za1 O (by decide)
 have HV:Hid (pE C .part d q= .error (zr C q.pos)):=by show pE C .part d q=_;rw[zb6,Y,O];simp[hd]
 have qd:decide ((20:Int)≤(d:Int))=true:=decide_eq_true (by omega)
 obtain⟨X,_,_,_⟩:=D.cells hp (d:=⟨0,sNone,0,C.fin⟩)
 change _=some (Value.int .i64 (ze C q.pos).kind) at X
 generalize (ze C q.pos).kind=kd at X Y
 unfold pv
 go_enter Tryz.func168,Tryz.ntmps168
 go_wp2_with fail
 refine (zh C L z j S q (-1) d 4 zn _ (zq (zq D _) _) A (by decide)).mono ?_
 rintro e w1 ⟨rfl,I⟩
 rw[O]
 obtain⟨V,X1,m1,t1⟩:=HM.out.two I
 have H:=zc V
 have n:=zc X1
 have E:=zc m1
 have J:=zc t1
 clear V X1 m1 t1 I
 obtain⟨a0,a1,a2,a3,a4,a5,a6,a7,a8,a9,U,Q,af⟩:=H.out.box
 go_wp2_with fail
 refine (zda C L z j S q (-1) d _ E.out.tok A).mono ?_
 rintro e w2 ⟨rfl,o⟩
 replace H:=zc (H.out.below o)
 replace n:=zc (n.out.below o)
 have M:=zc (J.out.below o)
 have N:=zc (E.out.later o)
 clear o J E
 clear a0 a1 a2 a3 a4 a5 a6 a7 a8 a9 U Q af
 obtain⟨b0,b1,b2,b3,b4,b5,b6,b7,b8,b9,aa,ab,bf⟩:=n.out.box
 unfold pv
 go_wp2
 refine bodyPost_ret (results_cell_row rfl _ _ (w.heap.size+1) 53 _ (0,0) _ rfl ((n.out.put ..)).heap Tryz.underlying53 rfl (by kernel_rfl)) rfl ?_
 rw[HV.out]
 exact zY rfl (show Is (.error (zr C q.pos)) q _ from rfl) (N.out.put n.out ..) (M.out.put (by omega) ..)
theorem zng (C:Cx) (A z o:Nat) (S:Sv) (q:PS) (d:Nat) (w:World) (V:Mem C A z o S q w) (hk:((ze C q.pos).kind==2)=false) (ho:isT C q.pos 4 zn=true) (hd:d<20) (hS:SumOK C A z o (C.ts.length-q.pos)):
  Calls Tryz.prog 168 #[pv C A z S q (-1) d] w (Out C A z o (pE C .part d q) d S w):=by
 have HM:=zc V
 have I:=V.tok
 have Q:C.ts.length≤4000:=V.few
 have ae:=(zan V.tok).1
 clear V
 have hp:q.pos<C.ts.length:=za1 ho (by decide)
 have HV:Hid (pE C .part d q=bd (bd (.ok (adv q)) (pE C .sum (d+1))) (zd C 4 za0)):=by show pE C .part d q=_;rw[zb6,hk,ho,if_neg (by decide),if_pos rfl,if_neg (by omega)];rfl
 have HS:=zc hS
 clear hS
 have qd:decide ((20:Int)≤(d:Int))=false:=decide_eq_false (by omega)
 obtain⟨c0,_,_,_⟩:=I.cells hp (d:=⟨0,sNone,0,C.fin⟩)
 change _=some (Value.int .i64 (ze C q.pos).kind) at c0
 generalize (ze C q.pos).kind=kd at c0 hk
 unfold pv
 go_enter Tryz.func168,Tryz.ntmps168
 go_wp2_with fail
 refine (zh C A z o S q (-1) d 4 zn _ (zq (zq I _) _) Q (by decide)).mono ?_
 rintro e w1 ⟨rfl,M⟩
 rw[ho]
 obtain⟨X,L,m1,t1⟩:=HM.out.two M
 have j:=zc X
 have n:=zc L
 have O:=zc m1
 have N:=zc t1
 clear X L m1 t1 M
 obtain⟨a0,a1,a2,a3,a4,a5,a6,a7,a8,Z,E,H,af⟩:=j.out.box
 go_wp2_with fail
 refine (HS.out (.ok (adv q)) S (adv q) (-1) (d+1) _ (zX _) (((O.out.adv hp).set j.out 1 _).set (j.out.at1 _) 11 _) (fun _=>by show C.ts.length-(q.pos+1)<_;omega) (by omega)).mono ?_
 rintro e w2 ⟨S2,q2,z2,rfl,i2,m2,s2⟩
 replace j:=zc (((j.out.at1 _).at11 _).stp s2)
 replace n:=zc (((n.out.set_other (by omega) 1 _).set_other (by omega) 11 _).stp s2)
 have J:Hid (SB w.heap.size S w S2 w2):=((N.out.set (by omega) 1 _).set (by omega) 11 _).step s2
 clear N
 have Y:=zc m2
 have ac:=zc i2
 clear i2 m2 s2 O
 clear a0 a1 a2 a3 a4 a5 a6 a7 a8 Z E H af
 go_wp2_with fail
 refine (zad C A z o _ S2 q2 z2 (d+1) za0 _ ac.out Y.out).mono ?_
 rintro e w3 ⟨S3,q3,z3,rfl,i3,m3,s3⟩
 replace j:=zc (j.out.stp s3)
 replace n:=zc (n.out.stp s3)
 have U:=zc (J.out.step s3)
 clear J
 have K:=zc m3
 have aa:=zc i3
 clear i3 m3 s3 Y
 obtain⟨a0,a1,a2,a3,a4,a5,a6,a7,a8,Z,E,H,af⟩:=j.out.box
 obtain⟨D,hD⟩: ∃D:Nat,D=d+1:=⟨_,rfl⟩
 rw[←hD]
 have aj:(D:Int)-1=d:=by omega
 have ah:D≤20:=by omega
 clear hD hd qd
 unfold pv
 go_upto_region 11 with fail
 refine zL (R:=fun W=>Bx A S3 W (w.heap.size) _∧Bx A S3 W (w.heap.size+1) _∧Mem C A z o S3 q3 W∧SB w.heap.size S w S3 W) ⟨(j.out.put ..),(n.out.other (by omega) ..),(K.out.put j.out ..),(U.out.put (by omega) ..)⟩ ?_
 clear a0 a1 a2 a3 a4 a5 a6 a7 a8 Z E H af
 clear j n U K
 rintro w4 ⟨X,L,m4,t4⟩
 have j:=zc X
 have n:=zc L
 have ad:=zc m4
 have ab:=zc t4
 clear m4 t4 X L
 obtain⟨a0,a1,a2,a3,a4,a5,a6,a7,a8,Z,E,H,af⟩:=j.out.box
 obtain⟨b0,b1,b2,b3,b4,b5,b6,b7,b8,b9,ai,ag,bf⟩:=n.out.box
 go_wp2
 refine bodyPost_ret (results_cell_row rfl _ _ (w.heap.size+1) 53 _ (0,0) _ rfl (((n.out.set_other (by omega) 11 _).put ..)).heap Tryz.underlying53 rfl (by kernel_rfl)) rfl ?_
 rw[HV.out]
 exact zY rfl aa.out ((ad.out.set j.out 11 _).put (n.out.set_other (by omega) 11 _) ..) ((ab.out.set (by omega) 11 _).put (by omega) ..)
theorem znh (z:List Tk) (j:Nat) (H D o:Nat) (S:Sv) (q:PS) (d:Nat) (w:World) (Z:Mem (Cx.mk z j true) H D o S q w) (hp: ¬q.pos<(Cx.mk z j true).ts.length):
  Calls Tryz.prog 168 #[pv (Cx.mk z j true) H D S q (-1) d] w (Out (Cx.mk z j true) H D o (pE (Cx.mk z j true) .part d q) d S w):=by
 have HM:=zc Z
 have V:=Z.tok
 have I:(Cx.mk z j true).ts.length≤4000:=Z.few
 have ah:=(zan Z.tok).1
 clear Z
 have hk:((ze (Cx.mk z j true) q.pos).kind==2)=false:=by rw[zdl (by omega)];rfl
 have ho:isT (Cx.mk z j true) q.pos 4 zn=false:=zeC hp (by decide)
 have hu:isT (Cx.mk z j true) q.pos 1 za7=false:=zeC hp (by decide)
 have hn:zD (Cx.mk z j true) q.pos false=false:=zgy hp
 have HV:Hid (pE (Cx.mk z j true) .part d q= .error (zr (Cx.mk z j true) q.pos)):=by show pE (Cx.mk z j true) .part d q=_;rw[zb6,hk,ho,hu,zj,hn];rfl
 have am: ¬q.pos<z.length:=hp
 unfold pv
 go_enter Tryz.func168,Tryz.ntmps168
 go_wp2_with fail
 refine (zh (Cx.mk z j true) H D o S q (-1) d 4 zn _ (zq (zq V _) _) I (by decide)).mono ?_
 rintro e w1 ⟨rfl,Q⟩
 rw[ho]
 obtain⟨X0,O,m1,t1⟩:=HM.out.two Q
 have A:=zc X0
 have n:=zc O
 have L:=zc m1
 have U:=zc t1
 clear X0 O m1 t1 Q
 obtain⟨a0,a1,a2,a3,a4,a5,a6,a7,a8,a9,K,M,af⟩:=A.out.box
 go_wp2_with fail
 refine (zh (Cx.mk z j true) H D o S q (-1) d 1 za7 _ L.out.tok I (by decide)).mono ?_
 rintro e w2 ⟨rfl,E⟩
 rw[hu]
 replace A:=zc (A.out.below E)
 replace n:=zc (n.out.below E)
 have N:=zc (U.out.below E)
 have aa:=zc (L.out.later E)
 clear E U L
 clear a0 a1 a2 a3 a4 a5 a6 a7 a8 a9 K M af
 obtain⟨a0,a1,a2,a3,a4,a5,a6,a7,a8,a9,K,M,af⟩:=A.out.box
 go_wp2_with fail
 refine (zbe (Cx.mk z j true) H D o (.ok q) S q (-1) d false _ (zX q) aa.out).mono ?_
 rintro e w3 ⟨Y,q3,z3,n3,rfl,i3,m3,s3⟩
 replace A:=zc (A.out.stp s3)
 replace n:=zc (n.out.stp s3)
 have X:=zc (N.out.step s3)
 clear N
 have J:=zc m3
 have ab:=zc i3
 clear i3 m3 s3 aa
 clear a0 a1 a2 a3 a4 a5 a6 a7 a8 a9 K M af
 obtain rfl:=zf6 ab.out hn
 have dz:decide ((0:Int)≤(zr (Cx.mk z j true) q.pos:Int))=true:=decide_eq_true (by omega)
 have ag:w.heap.size+1<w3.heap.size:=n.out.lt
 unfold pv
 go_upto_region 17 with fail
 refine zL (R:=fun W=>Bx H Y W (w.heap.size) _∧Bx H Y W (w.heap.size+1) _∧Bx H Y W (w3.heap.size) _∧Mem (Cx.mk z j true) H D o Y q3 W∧SB w.heap.size S w Y W) ⟨(A.out.alloc _),(n.out.alloc _),(Bx.new J.out _),(J.out.alloc _),(X.out.alloc _)⟩ ?_
 clear A n X J
 rintro w4 ⟨X0,O,X2,m4,t4⟩
 have A:=zc X0
 have n:=zc O
 have ad:=zc X2
 have ae:=zc m4
 have ac:=zc t4
 clear m4 t4 X0 O X2
 obtain⟨b0,b1,b2,b3,b4,b5,b6,b7,b8,b9,aj,ai,bf⟩:=n.out.box
 obtain⟨c0,c1,c2,c3,c4,c5,c6,c7,c8,c9,ak,al,cf⟩:=ad.out.box
 go_wp2
 refine bodyPost_ret (results_cell_row rfl _ _ (w.heap.size+1) 53 _ (0,0) _ rfl ((n.out.put ..)).heap Tryz.underlying53 rfl (by kernel_rfl)) rfl ?_
 rw[HV.out]
 exact zY rfl (show Is (.error (zr (Cx.mk z j true) q.pos)) q3 _ from rfl) (ae.out.put n.out ..) (ac.out.put (by omega) ..)
theorem zni (o:List Tk) (j:Nat) (H D z:Nat) (S:Sv) (q:PS) (d:Nat) (w:World) (Z:Mem (Cx.mk o j true) H D z S q w) (hk:((ze (Cx.mk o j true) q.pos).kind==2)=false) (ho:isT (Cx.mk o j true) q.pos 4 zn=false) (hp:q.pos<(Cx.mk o j true).ts.length) (hu:isT (Cx.mk o j true) q.pos 1 za7=false) (hn:zD (Cx.mk o j true) q.pos false=false):
  Calls Tryz.prog 168 #[pv (Cx.mk o j true) H D S q (-1) d] w (Out (Cx.mk o j true) H D z (pE (Cx.mk o j true) .part d q) d S w):=by
 have HM:=zc Z
 have I:=Z.tok
 have J:(Cx.mk o j true).ts.length≤4000:=Z.few
 have ah:=(zan Z.tok).1
 clear Z
 have HV:Hid (pE (Cx.mk o j true) .part d q= .error (zr (Cx.mk o j true) q.pos)):=by show pE (Cx.mk o j true) .part d q=_;rw[zb6,hk,ho,hu,zj,hn];rfl
 have am:q.pos<o.length:=hp
 obtain⟨c0,_,_,_⟩:=I.cells hp (d:=⟨0,sNone,0,(Cx.mk o j true).fin⟩)
 change _=some (Value.int .i64 (ze (Cx.mk o j true) q.pos).kind) at c0
 generalize (ze (Cx.mk o j true) q.pos).kind=kd at c0 hk
 unfold pv
 go_enter Tryz.func168,Tryz.ntmps168
 go_wp2_with fail
 refine (zh (Cx.mk o j true) H D z S q (-1) d 4 zn _ (zq (zq I _) _) J (by decide)).mono ?_
 rintro e w1 ⟨rfl,U⟩
 rw[ho]
 obtain⟨X0,Q,m1,t1⟩:=HM.out.two U
 have A:=zc X0
 have n:=zc Q
 have M:=zc m1
 have V:=zc t1
 clear X0 Q m1 t1 U
 obtain⟨a0,a1,a2,a3,a4,a5,a6,a7,a8,a9,L,N,af⟩:=A.out.box
 go_wp2_with fail
 refine (zh (Cx.mk o j true) H D z S q (-1) d 1 za7 _ M.out.tok J (by decide)).mono ?_
 rintro e w2 ⟨rfl,E⟩
 rw[hu]
 replace A:=zc (A.out.below E)
 replace n:=zc (n.out.below E)
 have O:=zc (V.out.below E)
 have aa:=zc (M.out.later E)
 clear E V M
 clear a0 a1 a2 a3 a4 a5 a6 a7 a8 a9 L N af
 obtain⟨a0,a1,a2,a3,a4,a5,a6,a7,a8,a9,L,N,af⟩:=A.out.box
 go_wp2_with fail
 refine (zbe (Cx.mk o j true) H D z (.ok q) S q (-1) d false _ (zX q) aa.out).mono ?_
 rintro e w3 ⟨Y,q3,z3,n3,rfl,i3,m3,s3⟩
 replace A:=zc (A.out.stp s3)
 replace n:=zc (n.out.stp s3)
 have X:=zc (O.out.step s3)
 clear O
 have K:=zc m3
 have ab:=zc i3
 clear i3 m3 s3 aa
 clear a0 a1 a2 a3 a4 a5 a6 a7 a8 a9 L N af
 obtain rfl:=zf6 ab.out hn
 have dz:decide ((0:Int)≤(zr (Cx.mk o j true) q.pos:Int))=true:=decide_eq_true (by omega)
 have ag:w.heap.size+1<w3.heap.size:=n.out.lt
 unfold pv
 go_upto_region 17 with fail
 refine zL (R:=fun W=>Bx H Y W (w.heap.size) _∧Bx H Y W (w.heap.size+1) _∧Bx H Y W (w3.heap.size) _∧Mem (Cx.mk o j true) H D z Y q3 W∧SB w.heap.size S w Y W) ⟨(A.out.alloc _),(n.out.alloc _),(Bx.new K.out _),(K.out.alloc _),(X.out.alloc _)⟩ ?_
 clear A n X K
 rintro w4 ⟨X0,Q,X2,m4,t4⟩
 have A:=zc X0
 have n:=zc Q
 have ad:=zc X2
 have ae:=zc m4
 have ac:=zc t4
 clear m4 t4 X0 Q X2
 obtain⟨b0,b1,b2,b3,b4,b5,b6,b7,b8,b9,aj,ai,bf⟩:=n.out.box
 obtain⟨c0,c1,c2,c3,c4,c5,c6,c7,c8,c9,ak,al,cf⟩:=ad.out.box
 go_wp2
 refine bodyPost_ret (results_cell_row rfl _ _ (w.heap.size+1) 53 _ (0,0) _ rfl ((n.out.put ..)).heap Tryz.underlying53 rfl (by kernel_rfl)) rfl ?_
 rw[HV.out]
 exact zY rfl (show Is (.error (zr (Cx.mk o j true) q.pos)) q3 _ from rfl) (ae.out.put n.out ..) (ac.out.put (by omega) ..)
theorem ziB (I:List Tk) (o:Nat) (H A n:Nat) (S:Sv) (q:PS) (d:Nat) (w:World) (hm:Mem (Cx.mk I o true) H A n S q w) (D:Nat):
  Calls Tryz.prog 168 #[pv (Cx.mk I o true) H A S q (D:Int) d] w (Out (Cx.mk I o true) H A n (.error D) d S w):=by
 have HM:=zc hm
 have X:=hm.tok
 have J:(Cx.mk I o true).ts.length≤4000:=hm.few
 have ah:=(zan hm.tok).1
 clear hm
 have hz: ¬(D:Int)<0:=by omega
 have hs: ∀k s,(decide ((D:Int)<0)&&isT (Cx.mk I o true) q.pos k s)=false:=fun k s=>by rw[decide_eq_false hz];rfl
 unfold pv
 go_enter Tryz.func168,Tryz.ntmps168
 go_wp2_with fail
 refine (zh (Cx.mk I o true) H A n S q (D:Int) d 4 zn _ (zq (zq X _) _) J (by decide)).mono ?_
 rintro e w1 ⟨rfl,U⟩
 rw[hs]
 obtain⟨X0,Q,m1,t1⟩:=HM.out.two U
 have z:=zc X0
 have j:=zc Q
 have M:=zc m1
 have V:=zc t1
 clear X0 Q m1 t1 U
 obtain⟨a0,a1,a2,a3,a4,a5,a6,a7,a8,a9,L,N,af⟩:=z.out.box
 go_wp2_with fail
 refine (zh (Cx.mk I o true) H A n S q (D:Int) d 1 za7 _ M.out.tok J (by decide)).mono ?_
 rintro e w2 ⟨rfl,E⟩
 rw[hs]
 replace z:=zc (z.out.below E)
 replace j:=zc (j.out.below E)
 have O:=zc (V.out.below E)
 have aa:=zc (M.out.later E)
 clear E V M
 clear a0 a1 a2 a3 a4 a5 a6 a7 a8 a9 L N af
 obtain⟨a0,a1,a2,a3,a4,a5,a6,a7,a8,a9,L,N,af⟩:=z.out.box
 go_wp2_with fail
 refine (zbe (Cx.mk I o true) H A n (.error D) S q (D:Int) d false _ (show Is (.error D) q _ from rfl) aa.out).mono ?_
 rintro e w3 ⟨Z,q3,z3,n3,rfl,i3,m3,s3⟩
 replace z:=zc (z.out.stp s3)
 replace j:=zc (j.out.stp s3)
 have Y:=zc (O.out.step s3)
 clear O
 have K:=zc m3
 have ab:=zc i3
 clear i3 m3 s3 aa
 clear a0 a1 a2 a3 a4 a5 a6 a7 a8 a9 L N af
 obtain rfl:z3=(D:Int):=ab.out
 have dz:decide ((0:Int)≤(D:Int))=true:=decide_eq_true (by omega)
 have ag:w.heap.size+1<w3.heap.size:=j.out.lt
 unfold pv
 go_upto_region 17 with fail
 refine zL (R:=fun W=>Bx H Z W (w.heap.size) _∧Bx H Z W (w.heap.size+1) _∧Bx H Z W (w3.heap.size) _∧Mem (Cx.mk I o true) H A n Z q3 W∧SB w.heap.size S w Z W) ⟨(z.out.alloc _),(j.out.alloc _),(Bx.new K.out _),(K.out.alloc _),(Y.out.alloc _)⟩ ?_
 clear z j Y K
 rintro w4 ⟨X0,Q,X2,m4,t4⟩
 have z:=zc X0
 have j:=zc Q
 have ad:=zc X2
 have ae:=zc m4
 have ac:=zc t4
 clear m4 t4 X0 Q X2
 obtain⟨b0,b1,b2,b3,b4,b5,b6,b7,b8,b9,aj,ai,bf⟩:=j.out.box
 obtain⟨c0,c1,c2,c3,c4,c5,c6,c7,c8,c9,ak,al,cf⟩:=ad.out.box
 go_wp2
 refine bodyPost_ret (results_cell_row rfl _ _ (w.heap.size+1) 53 _ (0,0) _ rfl ((j.out.put ..)).heap Tryz.underlying53 rfl (by kernel_rfl)) rfl ?_
 exact zY rfl (show Is (.error D) q3 _ from rfl) (ae.out.put j.out ..) (ac.out.put (by omega) ..)
theorem znj (n:List Tk) (j:Nat) (M D o:Nat) (S:Sv) (q:PS) (d:Nat) (w:World) (V:Mem (Cx.mk n j true) M D o S q w) (hk:((ze (Cx.mk n j true) q.pos).kind==2)=false) (ho:isT (Cx.mk n j true) q.pos 4 zn=false) (hp:q.pos<(Cx.mk n j true).ts.length) (hu:isT (Cx.mk n j true) q.pos 1 za7=true):
  Calls Tryz.prog 168 #[pv (Cx.mk n j true) M D S q (-1) d] w (Out (Cx.mk n j true) M D o (pE (Cx.mk n j true) .part d q) d S w):=by
 have HM:=zc V
 have I:=V.tok
 have H:(Cx.mk n j true).ts.length≤4000:=V.few
 have ad:=(zan V.tok).1
 clear V
 have HV:Hid (pE (Cx.mk n j true) .part d q=zbc (Cx.mk n j true) za7 (adv q)):=by show pE (Cx.mk n j true) .part d q=_;rw[zb6,hk,ho,hu];rfl
 have ah:q.pos<n.length:=hp
 obtain⟨c0,_,_,_⟩:=I.cells hp (d:=⟨0,sNone,0,(Cx.mk n j true).fin⟩)
 change _=some (Value.int .i64 (ze (Cx.mk n j true) q.pos).kind) at c0
 generalize (ze (Cx.mk n j true) q.pos).kind=kd at c0 hk
 unfold pv
 go_enter Tryz.func168,Tryz.ntmps168
 go_wp2_with fail
 refine (zh (Cx.mk n j true) M D o S q (-1) d 4 zn _ (zq (zq I _) _) H (by decide)).mono ?_
 rintro e w1 ⟨rfl,N⟩
 rw[ho]
 obtain⟨X0,X1,m1,t1⟩:=HM.out.two N
 have A:=zc X0
 have z:=zc X1
 have J:=zc m1
 have Q:=zc t1
 clear X0 X1 m1 t1 N
 obtain⟨a0,a1,a2,a3,a4,a5,Y,a7,Z,a9,L,K,af⟩:=A.out.box
 go_wp2_with fail
 refine (zh (Cx.mk n j true) M D o S q (-1) d 1 za7 _ J.out.tok H (by decide)).mono ?_
 rintro e w2 ⟨rfl,E⟩
 rw[hu]
 replace A:=zc (A.out.below E)
 replace z:=zc (z.out.below E)
 have O:=zc (Q.out.below E)
 have U:=zc (J.out.later E)
 clear E Q J
 clear a0 a1 a2 a3 a4 a5 Y a7 Z a9 L K af
 obtain⟨a0,a1,a2,a3,a4,a5,Y,a7,Z,a9,L,K,af⟩:=A.out.box
 go_wp2_with fail
 refine (zgD (Cx.mk n j true) M D o S (adv q) d za7 _ ((U.out.adv hp).set A.out 1 _) (by simp[adv])).mono ?_
 rintro e w3 ⟨S3,q3,z3,rfl,i3,m3,X⟩
 replace A:=zc ((A.out.at1 _).stp X)
 replace z:=zc ((z.out.set_other (by omega) 1 _).stp X)
 have ab:Hid (SB w.heap.size S w S3 w3):=(O.out.set (by omega) 1 _).step X
 clear O
 have ac:=zc m3
 have aa:=zc i3
 clear i3 m3 X U
 clear a0 a1 a2 a3 a4 a5 Y a7 Z a9 L K af
 obtain⟨b0,b1,b2,b3,b4,b5,b6,b7,b8,b9,ae,ag,bf⟩:=z.out.box
 unfold pv
 go_wp2
 refine bodyPost_ret (results_cell_row rfl _ _ (w.heap.size+1) 53 _ (0,0) _ rfl ((z.out.put ..)).heap Tryz.underlying53 rfl (by kernel_rfl)) rfl ?_
 rw[HV.out]
 exact zY rfl aa.out (ac.out.put z.out ..) (ab.out.put (by omega) ..)
theorem znk (n:List Tk) (j:Nat) (K D o:Nat) (S:Sv) (q:PS) (d:Nat) (w:World) (hm:Mem (Cx.mk n j true) K D o S q w) (hk:((ze (Cx.mk n j true) q.pos).kind==2)=false) (ho:isT (Cx.mk n j true) q.pos 4 zn=false) (hp:q.pos<(Cx.mk n j true).ts.length) (hu:isT (Cx.mk n j true) q.pos 1 za7=false) (hn:zD (Cx.mk n j true) q.pos false=true) (hd:isT (Cx.mk n j true) (q.pos+1) 4 cPoint=false):
  Calls Tryz.prog 168 #[pv (Cx.mk n j true) K D S q (-1) d] w (Out (Cx.mk n j true) K D o (pE (Cx.mk n j true) .part d q) d S w):=by
 have HM:=zc hm
 have L:=hm.tok
 have H:(Cx.mk n j true).ts.length≤4000:=hm.few
 have ao:=(zan hm.tok).1
 clear hm
 have HV:Hid (pE (Cx.mk n j true) .part d q=zbc (Cx.mk n j true) (ze (Cx.mk n j true) q.pos).text (adv q)):=by show pE (Cx.mk n j true) .part d q=_;rw[zb6,hk,ho,hu,zj,hn];show (if isT (Cx.mk n j true) (adv q).pos 4 cPoint then _ else _)=_;rw[zx,hd];rfl
 have ar:q.pos<n.length:=hp
 obtain⟨c0,_,_,_⟩:=L.cells hp (d:=⟨0,sNone,0,(Cx.mk n j true).fin⟩)
 change _=some (Value.int .i64 (ze (Cx.mk n j true) q.pos).kind) at c0
 generalize (ze (Cx.mk n j true) q.pos).kind=kd at c0 hk
 unfold pv
 go_enter Tryz.func168,Tryz.ntmps168
 go_wp2_with fail
 refine (zh (Cx.mk n j true) K D o S q (-1) d 4 zn _ (zq (zq L _) _) H (by decide)).mono ?_
 rintro e w1 ⟨rfl,Z⟩
 rw[ho]
 obtain⟨X0,X1,m1,t1⟩:=HM.out.two Z
 have A:=zc X0
 have z:=zc X1
 have O:=zc m1
 have ab:=zc t1
 clear X0 X1 m1 t1 Z
 obtain⟨a0,a1,a2,a3,a4,a5,a6,a7,a8,a9,N,Q,af⟩:=A.out.box
 go_wp2_with fail
 refine (zh (Cx.mk n j true) K D o S q (-1) d 1 za7 _ O.out.tok H (by decide)).mono ?_
 rintro e w2 ⟨rfl,I⟩
 rw[hu]
 replace A:=zc (A.out.below I)
 replace z:=zc (z.out.below I)
 have U:=zc (ab.out.below I)
 have ae:=zc (O.out.later I)
 clear I ab O
 clear a0 a1 a2 a3 a4 a5 a6 a7 a8 a9 N Q af
 obtain⟨a0,a1,a2,a3,a4,a5,a6,a7,a8,a9,N,Q,af⟩:=A.out.box
 go_wp2_with fail
 refine (zbe (Cx.mk n j true) K D o (.ok q) S q (-1) d false _ (zX q) ae.out).mono ?_
 rintro e w3 ⟨S3,q3,z3,n3,rfl,i3,m3,s3⟩
 replace A:=zc (A.out.stp s3)
 replace z:=zc (z.out.stp s3)
 have ac:=zc (U.out.step s3)
 clear U
 have J:=zc m3
 have Y:=zc i3
 clear i3 m3 s3 ae
 clear a0 a1 a2 a3 a4 a5 a6 a7 a8 a9 N Q af
 obtain⟨hq,rfl,X⟩:=zf5 Y.out hn
 have HQ:=zc hq
 have ag:=zc X
 have V:q3.pos=q.pos+1:=by rw[hq];rfl
 have am:isT (Cx.mk n j true) q3.pos 4 cPoint=false:=by rw[V];exact hd
 clear hq X Y
 have an:w.heap.size+1<w3.heap.size:=z.out.lt
 unfold pv
 clear V
 go_wp2_with fail
 refine (zh (Cx.mk n j true) K D o S3 q3 (-1) d 4 cPoint _ (J.out.alloc _).tok H (by decide)).mono ?_
 rintro e w4 ⟨rfl,E⟩
 rw[am]
 replace A:=zc ((A.out.alloc _).below E)
 replace z:=zc ((z.out.alloc _).below E)
 replace M:=zc ((Bx.new J.out _).below E)
 have aa:Hid (SB w.heap.size S w S3 w4):=(ac.out.alloc _).below E
 have ad:Hid (Mem (Cx.mk n j true) K D o S3 q3 w4):=(J.out.alloc _).later E
 clear E ac J
 obtain⟨c0,c1,c2,c3,c4,c5,c6,c7,c8,c9,ah,ai,cf⟩:=M.out.box
 go_wp2_with fail
 refine (zgD (Cx.mk n j true) K D o S3 q3 d n3 _ ad.out (by rw[HQ.out];simp[adv])).mono ?_
 rintro e w5 ⟨S5,q5,z5,rfl,i5,m5,s5⟩
 replace A:=zc (A.out.stp s5)
 replace z:=zc (z.out.stp s5)
 replace M:=zc (M.out.stp s5)
 have ak:=zc (aa.out.step s5)
 clear aa
 have al:=zc m5
 have aj:=zc i5
 clear i5 m5 s5 ad
 clear c0 c1 c2 c3 c4 c5 c6 c7 c8 c9 ah ai cf
 obtain⟨b0,b1,b2,b3,b4,b5,b6,b7,b8,b9,aq,ap,bf⟩:=z.out.box
 unfold pv
 go_wp2
 refine bodyPost_ret (results_cell_row rfl _ _ (w.heap.size+1) 53 _ (0,0) _ rfl ((z.out.put ..)).heap Tryz.underlying53 rfl (by kernel_rfl)) rfl ?_
 rw[HV.out,←HQ.out,←ag.out]
 exact zY rfl aj.out (al.out.put z.out ..) (ak.out.put (by omega) ..)
theorem znl (A:List Tk) (j:Nat) (J D o:Nat) (S:Sv) (q:PS) (d:Nat) (w:World) (hm:Mem (Cx.mk A j true) J D o S q w) (hk:((ze (Cx.mk A j true) q.pos).kind==2)=false) (ho:isT (Cx.mk A j true) q.pos 4 zn=false) (hp:q.pos<(Cx.mk A j true).ts.length) (hu:isT (Cx.mk A j true) q.pos 1 za7=false) (hn:zD (Cx.mk A j true) q.pos false=true) (hd:isT (Cx.mk A j true) (q.pos+1) 4 cPoint=true):
  Calls Tryz.prog 168 #[pv (Cx.mk A j true) J D S q (-1) d] w (Out (Cx.mk A j true) J D o (pE (Cx.mk A j true) .part d q) d S w):=by
 have HM:=zc hm
 have ad:=hm.tok
 have K:(Cx.mk A j true).ts.length≤4000:=hm.few
 have aL:=(zan hm.tok).1
 clear hm
 have HV:Hid (pE (Cx.mk A j true) .part d q=bd (bd (.ok (adv (adv q))) (zj (Cx.mk A j true) true)) fun y=>zbx (Cx.mk A j true) (ze (Cx.mk A j true) q.pos).text y.2 y.1):=by show pE (Cx.mk A j true) .part d q=_;rw[zb6,hk,ho,hu,zj,hn];show (if isT (Cx.mk A j true) (adv q).pos 4 cPoint then _ else _)=_;rw[zx,hd];rfl
 have aM:q.pos<A.length:=hp
 obtain⟨c0,_,_,_⟩:=ad.cells hp (d:=⟨0,sNone,0,(Cx.mk A j true).fin⟩)
 change _=some (Value.int .i64 (ze (Cx.mk A j true) q.pos).kind) at c0
 generalize (ze (Cx.mk A j true) q.pos).kind=kd at c0 hk
 unfold pv
 go_enter Tryz.func168,Tryz.ntmps168
 go_wp2_with fail
 refine (zh (Cx.mk A j true) J D o S q (-1) d 4 zn _ (zq (zq ad _) _) K (by decide)).mono ?_
 rintro e w1 ⟨rfl,ap⟩
 rw[ho]
 obtain⟨X0,X1,m1,t1⟩:=HM.out.two ap
 have z:=zc X0
 have n:=zc X1
 have ag:=zc m1
 have ar:=zc t1
 clear X0 X1 m1 t1 ap
 obtain⟨a0,a1,a2,a3,a4,a5,a6,a7,a8,a9,ae,ah,af⟩:=z.out.box
 go_wp2_with fail
 refine (zh (Cx.mk A j true) J D o S q (-1) d 1 za7 _ ag.out.tok K (by decide)).mono ?_
 rintro e w2 ⟨rfl,Y⟩
 rw[hu]
 replace z:=zc (z.out.below Y)
 replace n:=zc (n.out.below Y)
 have ak:=zc (ar.out.below Y)
 have ax:=zc (ag.out.later Y)
 clear Y ar ag
 clear a0 a1 a2 a3 a4 a5 a6 a7 a8 a9 ae ah af
 obtain⟨a0,a1,a2,a3,a4,a5,a6,a7,a8,a9,ae,ah,af⟩:=z.out.box
 go_wp2_with fail
 refine (zbe (Cx.mk A j true) J D o (.ok q) S q (-1) d false _ (zX q) ax.out).mono ?_
 rintro e w3 ⟨S3,q3,z3,n3,rfl,i3,m3,s3⟩
 replace z:=zc (z.out.stp s3)
 replace n:=zc (n.out.stp s3)
 have av:=zc (ak.out.step s3)
 clear ak
 have Z:=zc m3
 have ao:=zc i3
 clear i3 m3 s3 ax
 clear a0 a1 a2 a3 a4 a5 a6 a7 a8 a9 ae ah af
 obtain⟨hq,rfl,am⟩:=zf5 ao.out hn
 have HQ:=zc hq
 have aj:=zc am
 have al:q3.pos=q.pos+1:=by rw[hq];rfl
 have az:isT (Cx.mk A j true) q3.pos 4 cPoint=true:=by rw[al];exact hd
 clear hq am ao
 have aI:w.heap.size+1<w3.heap.size:=n.out.lt
 unfold pv
 clear al
 go_wp2_with fail
 refine (zh (Cx.mk A j true) J D o S3 q3 (-1) d 4 cPoint _ (Z.out.alloc _).tok K (by decide)).mono ?_
 rintro e w4 ⟨rfl,N⟩
 rw[az]
 replace z:=zc ((z.out.alloc _).below N)
 replace n:=zc ((n.out.alloc _).below N)
 replace E:=zc ((Bx.new Z.out _).below N)
 have aq:Hid (SB w.heap.size S w S3 w4):=(av.out.alloc _).below N
 have aw:Hid (Mem (Cx.mk A j true) J D o S3 q3 w4):=(Z.out.alloc _).later N
 clear N av Z
 obtain⟨c0,c1,c2,c3,c4,c5,c6,c7,c8,c9,aE,aG,cf⟩:=E.out.box
 have au:q3.pos<(Cx.mk A j true).ts.length:=za1 az (by decide)
 have aK:q3.pos<A.length:=au
 go_wp2_with fail
 refine (zbe (Cx.mk A j true) J D o (.ok (adv q3)) S3 (adv q3) (-1) d true _ (zX _) ((aw.out.adv au).set E.out 1 _)).mono ?_
 rintro e w5 ⟨S5,q5,z5,n5,rfl,i5,m5,s5⟩
 replace z:=zc ((z.out.set_other (by omega) 1 _).stp s5)
 replace n:=zc ((n.out.set_other (by omega) 1 _).stp s5)
 replace E:=zc ((E.out.at1 _).stp s5)
 have ac:Hid (SB w.heap.size S w S5 w5):=(aq.out.set (by omega) 1 _).step s5
 clear aq
 have L:=zc m5
 have V:=zc i5
 clear i5 m5 s5 aw
 clear c0 c1 c2 c3 c4 c5 c6 c7 c8 c9 aE aG cf
 have aJ:w.heap.size+1<w5.heap.size:=n.out.lt
 have aA:w3.heap.size<w5.heap.size:=E.out.lt
 cases hc:(decide (z5<0)&&isT (Cx.mk A j true) q5.pos 4 zn) with
 |true=>
  unfold pv
  go_wp2_with fail
  refine (zh (Cx.mk A j true) J D o S5 q5 z5 d 4 zn _ (L.out.alloc _).tok K (by decide)).mono ?_
  rintro e w6 ⟨rfl,H⟩
  rw[hc]
  replace z:=zc ((z.out.alloc _).below H)
  replace n:=zc ((n.out.alloc _).below H)
  replace E:=zc ((E.out.alloc _).below H)
  replace I:=zc ((Bx.new L.out _).below H)
  have O:Hid (SB w.heap.size S w S5 w6):=(ac.out.alloc _).below H
  have X:Hid (Mem (Cx.mk A j true) J D o S5 q5 w6):=(L.out.alloc _).later H
  clear H ac L
  obtain⟨d0,d1,d2,d3,d4,d5,d6,d7,d8,d9,U,Q,df⟩:=I.out.box
  go_wp2_with fail
  refine (zad (Cx.mk A j true) J D o _ S5 q5 z5 d zn _ V.out.fst X.out).mono ?_
  rintro e w7 ⟨S7,q7,z7,rfl,i7,m7,M⟩
  replace z:=zc (z.out.stp M)
  replace n:=zc (n.out.stp M)
  replace E:=zc (E.out.stp M)
  replace I:=zc (I.out.stp M)
  have ab:=zc (O.out.step M)
  clear O
  have aa:=zc m7
  have ai:=zc i7
  clear i7 m7 M X
  clear d0 d1 d2 d3 d4 d5 d6 d7 d8 d9 U Q df
  go_wp2_with fail
  refine (zad (Cx.mk A j true) J D o _ S7 q7 z7 d za0 _ ai.out aa.out).mono ?_
  rintro e w8 ⟨S8,q8,z8,rfl,i8,m8,s8⟩
  replace z:=zc (z.out.stp s8)
  replace n:=zc (n.out.stp s8)
  replace E:=zc (E.out.stp s8)
  replace I:=zc (I.out.stp s8)
  have ay:=zc (ab.out.step s8)
  clear ab
  have as:=zc m8
  have an:=zc i8
  clear i8 m8 s8 aa
  obtain⟨d0,d1,d2,d3,d4,d5,d6,d7,d8,d9,U,Q,df⟩:=I.out.box
  unfold pv
  go_wp2_with fail
  refine (zcJ (Cx.mk A j true) J D o _ S8 q8 z8 d ⟨5,0,n3,n5,0,0⟩ _ an.out (as.out.put I.out ..) (zbh an.out)).mono ?_
  rintro e w9 ⟨S9,q9,z9,rfl,i9,m9,s9⟩
  replace z:=zc ((z.out.other (by omega) ..).stp s9)
  replace n:=zc ((n.out.other (by omega) ..).stp s9)
  replace E:=zc ((E.out.other (by omega) ..).stp s9)
  replace I:=zc ((I.out.put ..).stp s9)
  have aH:Hid (SB w.heap.size S w S9 w9):=(ay.out.put (by omega) ..).step s9
  clear ay
  have aC:=zc m9
  have aF:=zc i9
  clear i9 m9 s9 as
  clear d0 d1 d2 d3 d4 d5 d6 d7 d8 d9 U Q df
  obtain⟨b0,b1,b2,b3,b4,b5,b6,b7,b8,b9,aD,aB,bf⟩:=n.out.box
  unfold pv
  go_wp2
  refine bodyPost_ret (results_cell_row rfl _ _ (w.heap.size+1) 53 _ (0,0) _ rfl ((n.out.put ..)).heap Tryz.underlying53 rfl (by kernel_rfl)) rfl ?_
  rw[HV.out,←HQ.out,←aj.out,←zi8 V.out hc]
  exact zY rfl aF.out (aC.out.put n.out ..) (aH.out.put (by omega) ..)
 |false=>
  unfold pv
  go_wp2_with fail
  refine (zh (Cx.mk A j true) J D o S5 q5 z5 d 4 zn _ (L.out.alloc _).tok K (by decide)).mono ?_
  rintro e w6 ⟨rfl,H⟩
  rw[hc]
  replace z:=zc ((z.out.alloc _).below H)
  replace n:=zc ((n.out.alloc _).below H)
  replace E:=zc ((E.out.alloc _).below H)
  replace I:=zc ((Bx.new L.out _).below H)
  have O:Hid (SB w.heap.size S w S5 w6):=(ac.out.alloc _).below H
  have X:Hid (Mem (Cx.mk A j true) J D o S5 q5 w6):=(L.out.alloc _).later H
  clear H ac L
  obtain⟨d0,d1,d2,d3,d4,d5,d6,d7,d8,d9,U,Q,df⟩:=I.out.box
  go_wp2_with fail
  refine (zcJ (Cx.mk A j true) J D o _ S5 q5 z5 d ⟨4,0,n3,n5,0,0⟩ _ V.out.fst X.out (ziA V.out)).mono ?_
  rintro e w7 ⟨S7,q7,z7,rfl,i7,m7,M⟩
  replace z:=zc (z.out.stp M)
  replace n:=zc (n.out.stp M)
  replace E:=zc (E.out.stp M)
  replace I:=zc (I.out.stp M)
  have ab:=zc (O.out.step M)
  clear O
  have aa:=zc m7
  have ai:=zc i7
  clear i7 m7 M X
  clear d0 d1 d2 d3 d4 d5 d6 d7 d8 d9 U Q df
  obtain⟨b0,b1,b2,b3,b4,b5,b6,b7,b8,b9,aD,aB,bf⟩:=n.out.box
  unfold pv
  go_wp2
  refine bodyPost_ret (results_cell_row rfl _ _ (w.heap.size+1) 53 _ (0,0) _ rfl ((n.out.put ..)).heap Tryz.underlying53 rfl (by kernel_rfl)) rfl ?_
  rw[HV.out,←HQ.out,←aj.out,←zi9 V.out hc]
  exact zY rfl ai.out (aa.out.put n.out ..) (ab.out.put (by omega) ..)
theorem znm (o:List Tk) (j:Nat) (E A z:Nat) (S:Sv) (q:PS) (d:Nat) (w:World) (Q:Mem (Cx.mk o j false) E A z S q w) (Y: ¬q.pos<(Cx.mk o j false).ts.length):
  Calls Tryz.prog 168 #[pv (Cx.mk o j false) E A S q (-1) d] w (Out (Cx.mk o j false) E A z (pE (Cx.mk o j false) .part d q) d S w):=by
 have HM:=zc Q
 have M:=Q.tok
 have O:(Cx.mk o j false).ts.length≤4000:=Q.few
 have ah:=(zan Q.tok).1
 clear Q
 have hk:((ze (Cx.mk o j false) q.pos).kind==2)=false:=by rw[zdl (by omega)];rfl
 have ho:isT (Cx.mk o j false) q.pos 4 zn=false:=zeC Y (by decide)
 have hu:isT (Cx.mk o j false) q.pos 1 za7=false:=zeC Y (by decide)
 have hn:zD (Cx.mk o j false) q.pos false=false:=zgy Y
 have HV:Hid (pE (Cx.mk o j false) .part d q= .error (zr (Cx.mk o j false) q.pos)):=by show pE (Cx.mk o j false) .part d q=_;rw[zb6,hk,ho,zj,hn];rfl
 have am: ¬q.pos<o.length:=Y
 unfold pv
 go_enter Tryz.func168,Tryz.ntmps168
 go_wp2_with fail
 refine (zh (Cx.mk o j false) E A z S q (-1) d 4 zn _ (zq (zq M _) _) O (by decide)).mono ?_
 rintro e w1 ⟨rfl,K⟩
 rw[ho]
 obtain⟨U,J,m1,t1⟩:=HM.out.two K
 have D:=zc U
 have n:=zc J
 have N:=zc m1
 have L:=zc t1
 clear U J m1 t1 K
 obtain⟨a0,a1,a2,a3,a4,a5,a6,a7,a8,a9,ab,ae,af⟩:=D.out.box
 go_wp2_with fail
 refine (zbe (Cx.mk o j false) E A z (.ok q) S q (-1) d false _ (zX q) N.out).mono ?_
 rintro e w2 ⟨V,q2,z2,n2,rfl,i2,m2,X⟩
 replace D:=zc (D.out.stp X)
 replace n:=zc (n.out.stp X)
 have I:=zc (L.out.step X)
 clear L
 have H:=zc m2
 have ac:=zc i2
 clear i2 m2 X N
 clear a0 a1 a2 a3 a4 a5 a6 a7 a8 a9 ab ae af
 obtain rfl:=zf6 ac.out hn
 have dz:decide ((0:Int)≤(zr (Cx.mk o j false) q.pos:Int))=true:=decide_eq_true (by omega)
 have ag:w.heap.size+1<w2.heap.size:=n.out.lt
 unfold pv
 go_upto_region 17 with fail
 refine zL (R:=fun W=>Bx E V W (w.heap.size) _∧Bx E V W (w.heap.size+1) _∧Bx E V W (w2.heap.size) _∧Mem (Cx.mk o j false) E A z V q2 W∧SB w.heap.size S w V W) ⟨(D.out.alloc _),(n.out.alloc _),(Bx.new H.out _),(H.out.alloc _),(I.out.alloc _)⟩ ?_
 clear D n I H
 rintro w3 ⟨U,J,X2,m3,t3⟩
 have D:=zc U
 have n:=zc J
 have aa:=zc X2
 have Z:=zc m3
 have ad:=zc t3
 clear m3 t3 U J X2
 obtain⟨b0,b1,b2,b3,b4,b5,b6,b7,b8,b9,aj,ai,bf⟩:=n.out.box
 obtain⟨c0,c1,c2,c3,c4,c5,c6,c7,c8,c9,ak,al,cf⟩:=aa.out.box
 go_wp2
 refine bodyPost_ret (results_cell_row rfl _ _ (w.heap.size+1) 53 _ (0,0) _ rfl ((n.out.put ..)).heap Tryz.underlying53 rfl (by kernel_rfl)) rfl ?_
 rw[HV.out]
 exact zY rfl (show Is (.error (zr (Cx.mk o j false) q.pos)) q2 _ from rfl) (Z.out.put n.out ..) (ad.out.put (by omega) ..)
theorem znn (n:List Tk) (j:Nat) (E A z:Nat) (S:Sv) (q:PS) (d:Nat) (w:World) (Q:Mem (Cx.mk n j false) E A z S q w) (hk:((ze (Cx.mk n j false) q.pos).kind==2)=false) (ho:isT (Cx.mk n j false) q.pos 4 zn=false) (hp:q.pos<(Cx.mk n j false).ts.length) (hn:zD (Cx.mk n j false) q.pos false=false):
  Calls Tryz.prog 168 #[pv (Cx.mk n j false) E A S q (-1) d] w (Out (Cx.mk n j false) E A z (pE (Cx.mk n j false) .part d q) d S w):=by
 have HM:=zc Q
 have H:=Q.tok
 have O:(Cx.mk n j false).ts.length≤4000:=Q.few
 have ah:=(zan Q.tok).1
 clear Q
 have HV:Hid (pE (Cx.mk n j false) .part d q= .error (zr (Cx.mk n j false) q.pos)):=by show pE (Cx.mk n j false) .part d q=_;rw[zb6,hk,ho,zj,hn];rfl
 have am:q.pos<n.length:=hp
 obtain⟨Z,_,_,_⟩:=H.cells hp (d:=⟨0,sNone,0,(Cx.mk n j false).fin⟩)
 change _=some (Value.int .i64 (ze (Cx.mk n j false) q.pos).kind) at Z
 generalize (ze (Cx.mk n j false) q.pos).kind=kd at Z hk
 unfold pv
 go_enter Tryz.func168,Tryz.ntmps168
 go_wp2_with fail
 refine (zh (Cx.mk n j false) E A z S q (-1) d 4 zn _ (zq (zq H _) _) O (by decide)).mono ?_
 rintro e w1 ⟨rfl,L⟩
 rw[ho]
 obtain⟨U,K,m1,t1⟩:=HM.out.two L
 have D:=zc U
 have o:=zc K
 have N:=zc m1
 have M:=zc t1
 clear U K m1 t1 L
 obtain⟨a0,a1,a2,a3,a4,a5,a6,a7,a8,a9,ab,ae,af⟩:=D.out.box
 go_wp2_with fail
 refine (zbe (Cx.mk n j false) E A z (.ok q) S q (-1) d false _ (zX q) N.out).mono ?_
 rintro e w2 ⟨V,q2,z2,n2,rfl,i2,m2,X⟩
 replace D:=zc (D.out.stp X)
 replace o:=zc (o.out.stp X)
 have J:=zc (M.out.step X)
 clear M
 have I:=zc m2
 have ac:=zc i2
 clear i2 m2 X N
 clear a0 a1 a2 a3 a4 a5 a6 a7 a8 a9 ab ae af
 obtain rfl:=zf6 ac.out hn
 have dz:decide ((0:Int)≤(zr (Cx.mk n j false) q.pos:Int))=true:=decide_eq_true (by omega)
 have ag:w.heap.size+1<w2.heap.size:=o.out.lt
 unfold pv
 go_upto_region 17 with fail
 refine zL (R:=fun W=>Bx E V W (w.heap.size) _∧Bx E V W (w.heap.size+1) _∧Bx E V W (w2.heap.size) _∧Mem (Cx.mk n j false) E A z V q2 W∧SB w.heap.size S w V W) ⟨(D.out.alloc _),(o.out.alloc _),(Bx.new I.out _),(I.out.alloc _),(J.out.alloc _)⟩ ?_
 clear D o J I
 rintro w3 ⟨U,K,X2,m3,t3⟩
 have D:=zc U
 have o:=zc K
 have aa:=zc X2
 have Y:=zc m3
 have ad:=zc t3
 clear m3 t3 U K X2
 obtain⟨b0,b1,b2,b3,b4,b5,b6,b7,b8,b9,aj,ai,bf⟩:=o.out.box
 obtain⟨Z,c1,c2,c3,c4,c5,c6,c7,c8,c9,ak,al,cf⟩:=aa.out.box
 go_wp2
 refine bodyPost_ret (results_cell_row rfl _ _ (w.heap.size+1) 53 _ (0,0) _ rfl ((o.out.put ..)).heap Tryz.underlying53 rfl (by kernel_rfl)) rfl ?_
 rw[HV.out]
 exact zY rfl (show Is (.error (zr (Cx.mk n j false) q.pos)) q2 _ from rfl) (Y.out.put o.out ..) (ad.out.put (by omega) ..)
theorem ziC (H:List Tk) (n:Nat) (E z o:Nat) (S:Sv) (q:PS) (d:Nat) (w:World) (U:Mem (Cx.mk H n false) E z o S q w) (D:Nat):
  Calls Tryz.prog 168 #[pv (Cx.mk H n false) E z S q (D:Int) d] w (Out (Cx.mk H n false) E z o (.error D) d S w):=by
 have HM:=zc U
 have N:=U.tok
 have Q:(Cx.mk H n false).ts.length≤4000:=U.few
 have ah:=(zan U.tok).1
 clear U
 have hz: ¬(D:Int)<0:=by omega
 have hs: ∀k s,(decide ((D:Int)<0)&&isT (Cx.mk H n false) q.pos k s)=false:=fun k s=>by rw[decide_eq_false hz];rfl
 unfold pv
 go_enter Tryz.func168,Tryz.ntmps168
 go_wp2_with fail
 refine (zh (Cx.mk H n false) E z o S q (D:Int) d 4 zn _ (zq (zq N _) _) Q (by decide)).mono ?_
 rintro e w1 ⟨rfl,L⟩
 rw[hs]
 obtain⟨V,K,m1,t1⟩:=HM.out.two L
 have A:=zc V
 have j:=zc K
 have O:=zc m1
 have M:=zc t1
 clear V K m1 t1 L
 obtain⟨a0,a1,a2,a3,a4,a5,a6,a7,a8,a9,ab,ae,af⟩:=A.out.box
 go_wp2_with fail
 refine (zbe (Cx.mk H n false) E z o (.error D) S q (D:Int) d false _ (show Is (.error D) q _ from rfl) O.out).mono ?_
 rintro e w2 ⟨X,q2,z2,n2,rfl,i2,m2,Y⟩
 replace A:=zc (A.out.stp Y)
 replace j:=zc (j.out.stp Y)
 have J:=zc (M.out.step Y)
 clear M
 have I:=zc m2
 have ac:=zc i2
 clear i2 m2 Y O
 clear a0 a1 a2 a3 a4 a5 a6 a7 a8 a9 ab ae af
 obtain rfl:z2=(D:Int):=ac.out
 have dz:decide ((0:Int)≤(D:Int))=true:=decide_eq_true (by omega)
 have ag:w.heap.size+1<w2.heap.size:=j.out.lt
 unfold pv
 go_upto_region 17 with fail
 refine zL (R:=fun W=>Bx E X W (w.heap.size) _∧Bx E X W (w.heap.size+1) _∧Bx E X W (w2.heap.size) _∧Mem (Cx.mk H n false) E z o X q2 W∧SB w.heap.size S w X W) ⟨(A.out.alloc _),(j.out.alloc _),(Bx.new I.out _),(I.out.alloc _),(J.out.alloc _)⟩ ?_
 clear A j J I
 rintro w3 ⟨V,K,X2,m3,t3⟩
 have A:=zc V
 have j:=zc K
 have aa:=zc X2
 have Z:=zc m3
 have ad:=zc t3
 clear m3 t3 V K X2
 obtain⟨b0,b1,b2,b3,b4,b5,b6,b7,b8,b9,aj,ai,bf⟩:=j.out.box
 obtain⟨c0,c1,c2,c3,c4,c5,c6,c7,c8,c9,ak,al,cf⟩:=aa.out.box
 go_wp2
 refine bodyPost_ret (results_cell_row rfl _ _ (w.heap.size+1) 53 _ (0,0) _ rfl ((j.out.put ..)).heap Tryz.underlying53 rfl (by kernel_rfl)) rfl ?_
 exact zY rfl (show Is (.error D) q2 _ from rfl) (Z.out.put j.out ..) (ad.out.put (by omega) ..)
theorem zno (n:List Tk) (j:Nat) (I A o:Nat) (S:Sv) (q:PS) (d:Nat) (w:World) (hm:Mem (Cx.mk n j false) I A o S q w) (hk:((ze (Cx.mk n j false) q.pos).kind==2)=false) (ho:isT (Cx.mk n j false) q.pos 4 zn=false) (hp:q.pos<(Cx.mk n j false).ts.length) (hn:zD (Cx.mk n j false) q.pos false=true) (hd:isT (Cx.mk n j false) (q.pos+1) 4 cPoint=false):
  Calls Tryz.prog 168 #[pv (Cx.mk n j false) I A S q (-1) d] w (Out (Cx.mk n j false) I A o (pE (Cx.mk n j false) .part d q) d S w):=by
 have HM:=zc hm
 have J:=hm.tok
 have K:(Cx.mk n j false).ts.length≤4000:=hm.few
 have am:=(zan hm.tok).1
 clear hm
 have HV:Hid (pE (Cx.mk n j false) .part d q=zbc (Cx.mk n j false) (ze (Cx.mk n j false) q.pos).text (adv q)):=by show pE (Cx.mk n j false) .part d q=_;rw[zb6,hk,ho,zj,hn];show (if isT (Cx.mk n j false) (adv q).pos 4 cPoint then _ else _)=_;rw[zx,hd];rfl
 have ap:q.pos<n.length:=hp
 obtain⟨c0,_,_,_⟩:=J.cells hp (d:=⟨0,sNone,0,(Cx.mk n j false).fin⟩)
 change _=some (Value.int .i64 (ze (Cx.mk n j false) q.pos).kind) at c0
 generalize (ze (Cx.mk n j false) q.pos).kind=kd at c0 hk
 unfold pv
 go_enter Tryz.func168,Tryz.ntmps168
 go_wp2_with fail
 refine (zh (Cx.mk n j false) I A o S q (-1) d 4 zn _ (zq (zq J _) _) K (by decide)).mono ?_
 rintro e w1 ⟨rfl,V⟩
 rw[ho]
 obtain⟨X0,X1,m1,t1⟩:=HM.out.two V
 have D:=zc X0
 have z:=zc X1
 have Z:=zc m1
 have X:=zc t1
 clear X0 X1 m1 t1 V
 obtain⟨a0,a1,a2,a3,a4,a5,a6,a7,a8,a9,ad,ah,af⟩:=D.out.box
 go_wp2_with fail
 refine (zbe (Cx.mk n j false) I A o (.ok q) S q (-1) d false _ (zX q) Z.out).mono ?_
 rintro e w2 ⟨S2,q2,z2,n2,rfl,i2,m2,s2⟩
 replace D:=zc (D.out.stp s2)
 replace z:=zc (z.out.stp s2)
 have N:=zc (X.out.step s2)
 clear X
 have H:=zc m2
 have Y:=zc i2
 clear i2 m2 s2 Z
 clear a0 a1 a2 a3 a4 a5 a6 a7 a8 a9 ad ah af
 obtain⟨hq,rfl,U⟩:=zf5 Y.out hn
 have HQ:=zc hq
 have ab:=zc U
 have O:q2.pos=q.pos+1:=by rw[hq];rfl
 have aj:isT (Cx.mk n j false) q2.pos 4 cPoint=false:=by rw[O];exact hd
 clear hq U Y
 have al:w.heap.size+1<w2.heap.size:=z.out.lt
 unfold pv
 clear O
 go_wp2_with fail
 refine (zh (Cx.mk n j false) I A o S2 q2 (-1) d 4 cPoint _ (H.out.alloc _).tok K (by decide)).mono ?_
 rintro e w3 ⟨rfl,E⟩
 rw[aj]
 replace D:=zc ((D.out.alloc _).below E)
 replace z:=zc ((z.out.alloc _).below E)
 replace L:=zc ((Bx.new H.out _).below E)
 have aa:Hid (SB w.heap.size S w S2 w3):=(N.out.alloc _).below E
 have Q:Hid (Mem (Cx.mk n j false) I A o S2 q2 w3):=(H.out.alloc _).later E
 clear E N H
 obtain⟨c0,c1,c2,c3,c4,c5,c6,c7,c8,c9,ae,ag,cf⟩:=L.out.box
 go_wp2_with fail
 refine (zgD (Cx.mk n j false) I A o S2 q2 d n2 _ Q.out (by rw[HQ.out];simp[adv])).mono ?_
 rintro e w4 ⟨S4,q4,z4,rfl,i4,m4,M⟩
 replace D:=zc (D.out.stp M)
 replace z:=zc (z.out.stp M)
 replace L:=zc (L.out.stp M)
 have ac:=zc (aa.out.step M)
 clear aa
 have ai:=zc m4
 have ak:=zc i4
 clear i4 m4 M Q
 clear c0 c1 c2 c3 c4 c5 c6 c7 c8 c9 ae ag cf
 obtain⟨b0,b1,b2,b3,b4,b5,b6,b7,b8,b9,ao,an,bf⟩:=z.out.box
 unfold pv
 go_wp2
 refine bodyPost_ret (results_cell_row rfl _ _ (w.heap.size+1) 53 _ (0,0) _ rfl ((z.out.put ..)).heap Tryz.underlying53 rfl (by kernel_rfl)) rfl ?_
 rw[HV.out,←HQ.out,←ab.out]
 exact zY rfl ak.out (ai.out.put z.out ..) (ac.out.put (by omega) ..)
theorem znp (A:List Tk) (j:Nat) (K E o:Nat) (S:Sv) (q:PS) (d:Nat) (w:World) (hm:Mem (Cx.mk A j false) K E o S q w) (hk:((ze (Cx.mk A j false) q.pos).kind==2)=false) (ho:isT (Cx.mk A j false) q.pos 4 zn=false) (hp:q.pos<(Cx.mk A j false).ts.length) (hn:zD (Cx.mk A j false) q.pos false=true) (hd:isT (Cx.mk A j false) (q.pos+1) 4 cPoint=true):
  Calls Tryz.prog 168 #[pv (Cx.mk A j false) K E S q (-1) d] w (Out (Cx.mk A j false) K E o (pE (Cx.mk A j false) .part d q) d S w):=by
 have HM:=zc hm
 have ad:=hm.tok
 have L:(Cx.mk A j false).ts.length≤4000:=hm.few
 have aJ:=(zan hm.tok).1
 clear hm
 have HV:Hid (pE (Cx.mk A j false) .part d q=bd (bd (.ok (adv (adv q))) (zj (Cx.mk A j false) true)) fun y=>zbx (Cx.mk A j false) (ze (Cx.mk A j false) q.pos).text y.2 y.1):=by show pE (Cx.mk A j false) .part d q=_;rw[zb6,hk,ho,zj,hn];show (if isT (Cx.mk A j false) (adv q).pos 4 cPoint then _ else _)=_;rw[zx,hd];rfl
 have aK:q.pos<A.length:=hp
 obtain⟨c0,_,_,_⟩:=ad.cells hp (d:=⟨0,sNone,0,(Cx.mk A j false).fin⟩)
 change _=some (Value.int .i64 (ze (Cx.mk A j false) q.pos).kind) at c0
 generalize (ze (Cx.mk A j false) q.pos).kind=kd at c0 hk
 unfold pv
 go_enter Tryz.func168,Tryz.ntmps168
 go_wp2_with fail
 refine (zh (Cx.mk A j false) K E o S q (-1) d 4 zn _ (zq (zq ad _) _) L (by decide)).mono ?_
 rintro e w1 ⟨rfl,al⟩
 rw[ho]
 obtain⟨X0,X1,m1,t1⟩:=HM.out.two al
 have z:=zc X0
 have n:=zc X1
 have ap:=zc m1
 have am:=zc t1
 clear X0 X1 m1 t1 al
 obtain⟨a0,a1,a2,a3,a4,a5,a6,a7,a8,a9,az,aE,af⟩:=z.out.box
 go_wp2_with fail
 refine (zbe (Cx.mk A j false) K E o (.ok q) S q (-1) d false _ (zX q) ap.out).mono ?_
 rintro e w2 ⟨S2,q2,z2,n2,rfl,i2,m2,s2⟩
 replace z:=zc (z.out.stp s2)
 replace n:=zc (n.out.stp s2)
 have ah:=zc (am.out.step s2)
 clear am
 have ac:=zc m2
 have ao:=zc i2
 clear i2 m2 s2 ap
 clear a0 a1 a2 a3 a4 a5 a6 a7 a8 a9 az aE af
 obtain⟨hq,rfl,ak⟩:=zf5 ao.out hn
 have HQ:=zc hq
 have ag:=zc ak
 have ai:q2.pos=q.pos+1:=by rw[hq];rfl
 have av:isT (Cx.mk A j false) q2.pos 4 cPoint=true:=by rw[ai];exact hd
 clear hq ak ao
 have aG:w.heap.size+1<w2.heap.size:=n.out.lt
 unfold pv
 clear ai
 go_wp2_with fail
 refine (zh (Cx.mk A j false) K E o S2 q2 (-1) d 4 cPoint _ (ac.out.alloc _).tok L (by decide)).mono ?_
 rintro e w3 ⟨rfl,M⟩
 rw[av]
 replace z:=zc ((z.out.alloc _).below M)
 replace n:=zc ((n.out.alloc _).below M)
 replace D:=zc ((Bx.new ac.out _).below M)
 have ar:Hid (SB w.heap.size S w S2 w3):=(ah.out.alloc _).below M
 have aj:Hid (Mem (Cx.mk A j false) K E o S2 q2 w3):=(ac.out.alloc _).later M
 clear M ah ac
 obtain⟨c0,c1,c2,c3,c4,c5,c6,c7,c8,c9,aB,aD,cf⟩:=D.out.box
 have aq:q2.pos<(Cx.mk A j false).ts.length:=za1 av (by decide)
 have aI:q2.pos<A.length:=aq
 go_wp2_with fail
 refine (zbe (Cx.mk A j false) K E o (.ok (adv q2)) S2 (adv q2) (-1) d true _ (zX _) ((aj.out.adv aq).set D.out 1 _)).mono ?_
 rintro e w4 ⟨Z,q4,z4,n4,rfl,i4,m4,s4⟩
 replace z:=zc ((z.out.set_other (by omega) 1 _).stp s4)
 replace n:=zc ((n.out.set_other (by omega) 1 _).stp s4)
 replace D:=zc ((D.out.at1 _).stp s4)
 have Y:Hid (SB w.heap.size S w Z w4):=(ar.out.set (by omega) 1 _).step s4
 clear ar
 have J:=zc m4
 have X:=zc i4
 clear i4 m4 s4 aj
 clear c0 c1 c2 c3 c4 c5 c6 c7 c8 c9 aB aD cf
 have aH:w.heap.size+1<w4.heap.size:=n.out.lt
 have aw:w2.heap.size<w4.heap.size:=D.out.lt
 cases hc:(decide (z4<0)&&isT (Cx.mk A j false) q4.pos 4 zn) with
 |true=>
  unfold pv
  go_wp2_with fail
  refine (zh (Cx.mk A j false) K E o Z q4 z4 d 4 zn _ (J.out.alloc _).tok L (by decide)).mono ?_
  rintro e w5 ⟨rfl,H⟩
  rw[hc]
  replace z:=zc ((z.out.alloc _).below H)
  replace n:=zc ((n.out.alloc _).below H)
  replace D:=zc ((D.out.alloc _).below H)
  replace I:=zc ((Bx.new J.out _).below H)
  have U:Hid (SB w.heap.size S w Z w5):=(Y.out.alloc _).below H
  have V:Hid (Mem (Cx.mk A j false) K E o Z q4 w5):=(J.out.alloc _).later H
  clear H Y J
  obtain⟨d0,d1,d2,d3,d4,d5,d6,d7,d8,d9,Q,O,df⟩:=I.out.box
  go_wp2_with fail
  refine (zad (Cx.mk A j false) K E o _ Z q4 z4 d zn _ X.out.fst V.out).mono ?_
  rintro e w6 ⟨S6,q6,z6,rfl,i6,m6,N⟩
  replace z:=zc (z.out.stp N)
  replace n:=zc (n.out.stp N)
  replace D:=zc (D.out.stp N)
  replace I:=zc (I.out.stp N)
  have aa:=zc (U.out.step N)
  clear U
  have ab:=zc m6
  have ae:=zc i6
  clear i6 m6 N V
  clear d0 d1 d2 d3 d4 d5 d6 d7 d8 d9 Q O df
  go_wp2_with fail
  refine (zad (Cx.mk A j false) K E o _ S6 q6 z6 d za0 _ ae.out ab.out).mono ?_
  rintro e w7 ⟨S7,q7,z7,rfl,i7,m7,s7⟩
  replace z:=zc (z.out.stp s7)
  replace n:=zc (n.out.stp s7)
  replace D:=zc (D.out.stp s7)
  replace I:=zc (I.out.stp s7)
  have au:=zc (aa.out.step s7)
  clear aa
  have an:=zc m7
  have as:=zc i7
  clear i7 m7 s7 ab
  obtain⟨d0,d1,d2,d3,d4,d5,d6,d7,d8,d9,Q,O,df⟩:=I.out.box
  unfold pv
  go_wp2_with fail
  refine (zcJ (Cx.mk A j false) K E o _ S7 q7 z7 d ⟨5,0,n2,n4,0,0⟩ _ as.out (an.out.put I.out ..) (zbh as.out)).mono ?_
  rintro e w8 ⟨S8,q8,z8,rfl,i8,m8,s8⟩
  replace z:=zc ((z.out.other (by omega) ..).stp s8)
  replace n:=zc ((n.out.other (by omega) ..).stp s8)
  replace D:=zc ((D.out.other (by omega) ..).stp s8)
  replace I:=zc ((I.out.put ..).stp s8)
  have aF:Hid (SB w.heap.size S w S8 w8):=(au.out.put (by omega) ..).step s8
  clear au
  have aC:=zc m8
  have ay:=zc i8
  clear i8 m8 s8 an
  clear d0 d1 d2 d3 d4 d5 d6 d7 d8 d9 Q O df
  obtain⟨b0,b1,b2,b3,b4,b5,b6,b7,b8,b9,aA,ax,bf⟩:=n.out.box
  unfold pv
  go_wp2
  refine bodyPost_ret (results_cell_row rfl _ _ (w.heap.size+1) 53 _ (0,0) _ rfl ((n.out.put ..)).heap Tryz.underlying53 rfl (by kernel_rfl)) rfl ?_
  rw[HV.out,←HQ.out,←ag.out,←zi8 X.out hc]
  exact zY rfl ay.out (aC.out.put n.out ..) (aF.out.put (by omega) ..)
 |false=>
  unfold pv
  go_wp2_with fail
  refine (zh (Cx.mk A j false) K E o Z q4 z4 d 4 zn _ (J.out.alloc _).tok L (by decide)).mono ?_
  rintro e w5 ⟨rfl,H⟩
  rw[hc]
  replace z:=zc ((z.out.alloc _).below H)
  replace n:=zc ((n.out.alloc _).below H)
  replace D:=zc ((D.out.alloc _).below H)
  replace I:=zc ((Bx.new J.out _).below H)
  have U:Hid (SB w.heap.size S w Z w5):=(Y.out.alloc _).below H
  have V:Hid (Mem (Cx.mk A j false) K E o Z q4 w5):=(J.out.alloc _).later H
  clear H Y J
  obtain⟨d0,d1,d2,d3,d4,d5,d6,d7,d8,d9,Q,O,df⟩:=I.out.box
  go_wp2_with fail
  refine (zcJ (Cx.mk A j false) K E o _ Z q4 z4 d ⟨4,0,n2,n4,0,0⟩ _ X.out.fst V.out (ziA X.out)).mono ?_
  rintro e w6 ⟨S6,q6,z6,rfl,i6,m6,N⟩
  replace z:=zc (z.out.stp N)
  replace n:=zc (n.out.stp N)
  replace D:=zc (D.out.stp N)
  replace I:=zc (I.out.stp N)
  have aa:=zc (U.out.step N)
  clear U
  have ab:=zc m6
  have ae:=zc i6
  clear i6 m6 N V
  clear d0 d1 d2 d3 d4 d5 d6 d7 d8 d9 Q O df
  obtain⟨b0,b1,b2,b3,b4,b5,b6,b7,b8,b9,aA,ax,bf⟩:=n.out.box
  unfold pv
  go_wp2
  refine bodyPost_ret (results_cell_row rfl _ _ (w.heap.size+1) 53 _ (0,0) _ rfl ((n.out.put ..)).heap Tryz.underlying53 rfl (by kernel_rfl)) rfl ?_
  rw[HV.out,←HQ.out,←ag.out,←zi9 X.out hc]
  exact zY rfl ae.out (ab.out.put n.out ..) (aa.out.put (by omega) ..)
def zgE (C:Cx) (gt cap base m:Nat):Prop:=∀(x:PR) (S:Sv) (q:PS) (z:Int) (d:Nat) (w:World),Is x q z→Mem C gt cap base S q w→(z<0→C.ts.length-q.pos<m)→d≤20→
 Calls Tryz.prog 168 #[pv C gt cap S q z d] w (Out C gt cap base (bd x (pE C .part d)) d S w)
def ziD (C:Cx) (gt cap base m:Nat):Prop:=∀(x:PR) (S:Sv) (q:PS) (z:Int) (d:Nat) (w:World),Is x q z→Mem C gt cap base S q w→(z<0→C.ts.length-q.pos<m)→d≤20→
 Calls Tryz.prog 136 #[pv C gt cap S q z d] w (Out C gt cap base (bd x (pE C .prod d)) d S w)
theorem SumOK.mono {C:Cx} {o n j m k:Nat} (h:SumOK C o n j m) (D:k≤m):SumOK C o n j k:=fun x S q z d w E A I H=>h x S q z d w E A (fun g=>Nat.lt_of_lt_of_le (I g) D) H
theorem znq {C:Cx} {D n j m:Nat} (Y:SumOK C D n j m):zgE C D n j (m+1):=by
 intro x S q z d w V E X M
 by_cases Q:z<0
 ·obtain⟨rfl,rfl⟩:=zaC V Q
  rw[zz]
  have U:SumOK C D n j (C.ts.length-q.pos):=Y.mono (by have:=X Q;omega)
  cases H:((ze C q.pos).kind==2) with
  |true=>exact zne C D n j S q d w E H
  |false=>
   cases J:isT C q.pos 4 zn with
   |true=>
    by_cases O:20≤d
    ·exact znf C D n j S q d w E H J O M
    ·exact zng C D n j S q d w E H J (by omega) U
   |false=>
    obtain⟨A,o,L⟩:=C
    cases L with
    |true=>
     by_cases I:q.pos<A.length
     ·cases N:isT (Cx.mk A o true) q.pos 1 za7 with
      |true=>exact znj A o D n j S q d w E H J I N
      |false=>
       cases K:zD (Cx.mk A o true) q.pos false with
       |false=>exact zni A o D n j S q d w E H J I N K
       |true=>
        cases M:isT (Cx.mk A o true) (q.pos+1) 4 cPoint with
        |false=>exact znk A o D n j S q d w E H J I N K M
        |true=>exact znl A o D n j S q d w E H J I N K M
     ·exact znh A o D n j S q d w E I
    |false=>
     by_cases I:q.pos<A.length
     ·cases K:zD (Cx.mk A o false) q.pos false with
      |false=>exact znn A o D n j S q d w E H J I K
      |true=>
       cases M:isT (Cx.mk A o false) (q.pos+1) 4 cPoint with
       |false=>exact zno A o D n j S q d w E H J I K M
       |true=>exact znp A o D n j S q d w E H J I K M
     ·exact znm A o D n j S q d w E I
 ·obtain⟨e,rfl,rfl⟩:=zdc V Q
  rw[zdU]
  obtain⟨A,o,L⟩:=C
  cases L with
  |true=>exact ziB A o D n j S q d w E e
  |false=>exact ziC A o D n j S q d w E e
theorem zgF {C:Cx} {x:PR} {q:PS} {z:Int} (h:Is x q z) (F:PS→Ex):bd x (zN C (F q))=bd x fun q'=>zN C (F q') q':=by
 cases x with
 |ok a=>obtain⟨rfl,_⟩:=h;rfl
 |error e=>rfl
theorem ziE {C:Cx} {y:PS→Ex} {x:PR} {q:PS} {n:Nat} (o: ∀a,x= .ok a→n≤a.pos) (h:(bd x fun q'=>zN C (y q') q')= .ok q):n≤q.pos:=by
 obtain⟨a,z,j⟩:=zf h
 obtain⟨rfl,_⟩:=zb5 j
 exact o a z
theorem znr {C:Cx} {d m:Nat} {x:PR} {q j:PS} {z n:Int} (E:Is x q z) (D:Is (bd x (pE C .part d)) j n) (o:z<0→C.ts.length-q.pos<m) (A:n<0):C.ts.length-j.pos<m:=by
 obtain⟨e,_⟩:=zaC D A
 obtain⟨a,H,I⟩:=zf e
 subst H
 obtain⟨rfl,rfl⟩:=E
 have:=zaY I
 have:=o (by decide)
 omega
theorem zns {C:Cx} {d m:Nat} {x:PR} {q j:PS} {z n:Int} (E:Is x q z) (D:Is (bd x (pE C .prod d)) j n) (o:z<0→C.ts.length-q.pos<m) (A:n<0):C.ts.length-j.pos<m:=by
 obtain⟨e,_⟩:=zaC D A
 obtain⟨a,H,I⟩:=zf e
 subst H
 obtain⟨rfl,rfl⟩:=E
 have:=zaY I
 have:=o (by decide)
 omega
theorem znt {C:Cx} {d:Nat} {j q:PS} {z:Int} (h:Is (bd (.ok (adv j)) (pE C .part d)) q z) (n:z<0):1≤q.pos:=by
 obtain⟨e,_⟩:=zaC h n
 have:=zaY (show pE C .part d (adv j)= .ok q from e)
 rw[zx] at this
 omega
theorem ziF {C:Cx} {d:Nat} {j q:PS} {z:Int} (h:Is (bd (.ok (adv j)) (pE C .prod d)) q z) (n:z<0):1≤q.pos:=by
 obtain⟨e,_⟩:=zaC h n
 have:=zaY (show pE C .prod d (adv j)= .ok q from e)
 rw[zx] at this
 omega
theorem znu {C:Cx} {d:Nat} {F:PS→Ex} {j q:PS} {z:Int} (h:Is (bd (bd (.ok (adv j)) (pE C .part d)) fun q'=>zN C (F q') q') q z) (o:z<0):j.pos+1≤q.pos:=by
 obtain⟨e,_⟩:=zaC h o
 exact ziE (fun a n=>by have:=zaY (show pE C .part d (adv j)= .ok a from n);rw[zx] at this;exact this) e
theorem ziG {C:Cx} {d:Nat} {F:PS→Ex} {j q:PS} {z:Int} (h:Is (bd (bd (.ok (adv j)) (pE C .prod d)) fun q'=>zN C (F q') q') q z) (o:z<0):j.pos+1≤q.pos:=by
 obtain⟨e,_⟩:=zaC h o
 exact ziE (fun a n=>by have:=zaY (show pE C .prod d (adv j)= .ok a from n);rw[zx] at this;exact this) e
theorem znv {C:Cx} {d:Nat} {q:PS} (j:isT C q.pos 4 zw=true) (_:q.pos<C.ts.length):
  bd (.ok q) (pE C .prodT d)=bd (bd (bd (.ok (adv q)) (pE C .part d)) fun q'=>zN C ⟨8,0,sNone,sNone,(q.ex.length:Int)-1,(q'.ex.length:Int)-1⟩ q') (pE C .prodT d):=by
 show pE C .prodT d q=_
 rw[zfo,if_pos j]
 rfl
theorem ziH {C:Cx} {d:Nat} {q:PS} {k:Int} (n:(isT C q.pos 4 zbU||isT C q.pos 4 zbb)=true) (j:zcY C q.pos=k) (_:q.pos<C.ts.length):
  bd (.ok q) (pE C .sumT d)=bd (bd (bd (.ok (adv q)) (pE C .prod d)) fun q'=>zN C ⟨k,0,sNone,sNone,(q.ex.length:Int)-1,(q'.ex.length:Int)-1⟩ q') (pE C .sumT d):=by
 show pE C .sumT d q=_
 rw[ze7,if_pos n,j]
 rfl
theorem znw {C:Cx} {d:Nat} {x:PR} {q:PS} {z:Int} (j:Is x q z) (n:(decide (z<0)&&isT C q.pos 4 zw)=false):Is (bd x (pE C .prodT d)) q z:=by
 cases x with
 |ok a=>
  obtain⟨rfl,rfl⟩:=j
  rw[Bool.and_eq_false_iff] at n
  rw[zz,zfo,n.resolve_left (by decide)]
  exact⟨rfl,rfl⟩
 |error e=>exact j
theorem znx {C:Cx} {d:Nat} {x:PR} {q:PS} {z:Int} (n:Is x q z) (o:(decide (z<0)&&isT C q.pos 4 zbU)=false) (j:(decide (z<0)&&isT C q.pos 4 zbb)=false):Is (bd x (pE C .sumT d)) q z:=by
 cases x with
 |ok a=>
  obtain⟨rfl,rfl⟩:=n
  rw[Bool.and_eq_false_iff] at o j
  rw[zz,ze7,o.resolve_left (by decide),j.resolve_left (by decide)]
  exact⟨rfl,rfl⟩
 |error e=>exact n
theorem zny {C:Cx} {i:Nat} (h:isT C i 4 zbU=true):isT C i 4 zbb=false:=by
 simp only[isT,Bool.and_eq_true,beq_iff_eq] at h
 simp only[isT,h.2]
 rw[Bool.and_eq_false_iff]
 exact .inr (by simp)
theorem ziI {C:Cx} {N H E m:Nat} (hP:zgE C N H E m):ziD C N H E m:=by
 intro x S q z d w hx hm hl ae
 have HP:=zc hP
 have HM:=zc hm
 have HX:=zc hx
 have HL:=zc hl
 have ad:=hm.few
 clear hP hm hx hl
 unfold pv
 go_enter Tryz.func136,Tryz.ntmps136
 go_wp2_with fail
 refine (HP.out x S q z d _ HX.out ((HM.out.alloc _).alloc _) HL.out ae).mono ?_
 rintro e w1 ⟨S1,q1,z1,rfl,i1,m1,s1⟩
 obtain⟨X0,X1,t1⟩:=HM.out.two2 s1
 have j:=zc X0
 have n:=zc X1
 have aq:=zc m1
 have ap:=zc t1
 have aj:=zc i1
 clear X0 X1 i1 m1 t1 s1
 obtain⟨M,Y,a2,a3,a4,Q,O,U,V,L,o,A,X⟩:=j.out.box
 unfold pv
 go_wp2
 go_loopg [] (C.ts.length+1) (fun k wr=>∃(x':PR) (I:Sv) (J:PS) (z':Int),Is x' J z'∧bd x' (pE C .prodT d)=bd x (pE C .prod d)∧(z'<0→C.ts.length-J.pos<k)∧(z'<0→C.ts.length-J.pos<m)∧Mem C N H E I J wr∧SB w.heap.size S w I wr∧Bx N I wr w.heap.size #[.slice (some ⟨N,0,none⟩) C.ts.length H,.int .i64 J.pos,.int .i64 C.fin,.bool C.scr,.slice I.rq.a J.rq.length I.rq.cap,.slice I.im.a J.im.length I.im.cap,.slice I.ep.a J.ep.length I.ep.cap,.slice I.st.a J.st.length I.st.cap,.slice I.ex.a J.ex.length I.ex.cap,.slice I.la.a J.la.length I.la.cap,.int .i64 z',.int .i64 d]∧Bx N I wr (w.heap.size+1) #[.slice none 0 0,.int .i64 0,.int .i64 0,.bool false,.slice none 0 0,.slice none 0 0,.slice none 0 0,.slice none 0 0,.slice none 0 0,.slice none 0 0,.int .i64 0,.int .i64 0])
 case atStart=>exact⟨_,S1,q1,z1,aj.out,by rw[zM];exact zab fun a _=>(zhD C d a).symm,fun _=>by omega,fun hz=>znr HX.out aj.out HL.out hz,(aq.out.put j.out ..),(ap.out.put (by omega) ..),(j.out.put ..),(n.out.other (by omega) ..)⟩
 case round=>
  obtain⟨x2,S2,Z,z2,i2,e2,l2,b2,m2,t2,X0,X1⟩:=hrel
  have j:=zc X0
  have n:=zc X1
  have K:=zc m2
  have aa:=zc t2
  have al:=zc i2
  have am:=zc e2
  have aw:=zc l2
  have au:=zc b2
  have aB:=m2.inv.ex
  clear X0 X1 i2 m2 t2 e2 l2 b2
  cases hc:(decide (z2<0)&&isT C Z.pos 4 zw) with
  |true=>
   obtain⟨M,Y,a2,a3,a4,Q,O,U,V,L,o,A,X⟩:=j.out.box
   go_wp2_with fail
   refine (zh C N H E S2 Z z2 d 4 zw _ K.out.tok ad (by decide)).mono ?_
   rintro e w3 ⟨rfl,D⟩
   rw[hc]
   replace j:=zc (j.out.below D)
   replace n:=zc (n.out.below D)
   have ac:=zc (aa.out.below D)
   have ab:=zc (K.out.later D)
   clear D aa K
   clear M Y a2 a3 a4 Q O U V L o A X
   rw[Bool.and_eq_true,decide_eq_true_eq] at hc
   obtain⟨hz,hs⟩:=hc
   have hp:Z.pos<C.ts.length:=za1 hs (by decide)
   obtain⟨rfl,rfl⟩:=zaC al.out hz
   have ay:=aw.out hz
   have aA:=au.out hz
   skip
   obtain⟨M,Y,a2,a3,a4,Q,O,U,V,L,o,A,X⟩:=j.out.box
   go_wp2_with fail
   refine (HP.out (.ok (adv Z)) S2 (adv Z) (-1) d _ (zX _) ((ab.out.adv hp).set j.out 1 _) (fun _=>by rw[zx];omega) ae).mono ?_
   rintro e w4 ⟨S4,q4,z4,rfl,i4,m4,s4⟩
   replace j:=zc ((j.out.at1 _).stp s4)
   replace n:=zc ((n.out.set_other (by omega) 1 _).stp s4)
   have ak:Hid (SB w.heap.size S w S4 w4):=(ac.out.set (by omega) 1 _).step s4
   clear ac
   have an:=zc m4
   have ai:=zc i4
   clear i4 m4 s4 ab
   clear M Y a2 a3 a4 Q O U V L o A X
   obtain⟨M,Y,a2,a3,a4,Q,O,U,V,L,o,A,X⟩:=j.out.box
   unfold pv
   go_upto_region 6 with fail
   refine zL (R:=fun W=>Bx N S4 W (w.heap.size) _∧Bx N S4 W (w.heap.size+1) _∧Mem C N H E S4 q4 W∧SB w.heap.size S w S4 W) ⟨(j.out.put ..),(n.out.other (by omega) ..),(an.out.put j.out ..),(ak.out.put (by omega) ..)⟩ ?_
   clear M Y a2 a3 a4 Q O U V L o A X
   clear j n ak an
   rintro w5 ⟨X0,X1,m5,t5⟩
   have j:=zc X0
   have n:=zc X1
   have ah:=zc m5
   have ao:=zc t5
   clear m5 t5 X0 X1
   obtain⟨M,Y,a2,a3,a4,Q,O,U,V,L,o,A,X⟩:=j.out.box
   have ax:=ah.out.inv.ex
   go_wp2_with fail
   refine (zcJ C N H E _ S4 q4 z4 d ⟨8,0,sNone,sNone,(Z.ex.length:Int)-1,(q4.ex.length:Int)-1⟩ _ ai.out ah.out (fun h=>znt ai.out h)).mono ?_
   rintro e w6 ⟨S6,q6,z6,rfl,i6,m6,s6⟩
   replace j:=zc (j.out.stp s6)
   replace n:=zc (n.out.stp s6)
   have ar:=zc (ao.out.step s6)
   clear ao
   have as:=zc m6
   have av:=zc i6
   clear i6 m6 s6 ah
   clear M Y a2 a3 a4 Q O U V L o A X
   have HI:Hid (Is (bd (bd (.ok (adv Z)) (pE C .part d)) fun J=>zN C ⟨8,0,sNone,sNone,(Z.ex.length:Int)-1,(J.ex.length:Int)-1⟩ J) q6 z6):=by rw[←zgF ai.out (fun J=>⟨8,0,sNone,sNone,(Z.ex.length:Int)-1,(J.ex.length:Int)-1⟩)];exact av.out
   have ag:Hid (z6<0→Z.pos+1≤q6.pos):=fun h=>znu HI.out h
   obtain⟨M,Y,a2,a3,a4,Q,O,U,V,L,o,A,X⟩:=j.out.box
   unfold pv
   go_wp2
   go_roundg (gk-1)
   case rel=>exact⟨_,S6,q6,z6,HI.out,by rw[←am.out];exact (znv (d:=d) hs hp).symm,fun h=>by have:=ag.out h;omega,fun h=>by have:=ag.out h;omega,(as.out.put j.out ..),(ar.out.put (by omega) ..),(j.out.put ..),(n.out.other (by omega) ..)⟩
   case measure=>omega
  |false=>
   obtain⟨M,Y,a2,a3,a4,Q,O,U,V,L,o,A,X⟩:=j.out.box
   go_wp2_with fail
   refine (zh C N H E S2 Z z2 d 4 zw _ K.out.tok ad (by decide)).mono ?_
   rintro e w3 ⟨rfl,D⟩
   rw[hc]
   replace j:=zc (j.out.below D)
   replace n:=zc (n.out.below D)
   have ac:=zc (aa.out.below D)
   have ab:=zc (K.out.later D)
   clear D aa K
   clear M Y a2 a3 a4 Q O U V L o A X
   obtain⟨M,Y,a2,a3,a4,Q,O,U,V,L,o,A,X⟩:=j.out.box
   obtain⟨b0,b1,b2,b3,b4,b5,b6,b7,b8,b9,aC,az,bf⟩:=n.out.box
   go_wp2
   refine bodyPost_ret (results_cell_row rfl _ _ (w.heap.size+1) 53 _ (0,0) _ rfl ((n.out.put ..)).heap Tryz.underlying53 rfl (by kernel_rfl)) rfl ?_
   exact zY rfl (show Is (bd x (pE C .prod d)) Z z2 from by rw[←am.out];exact znw al.out hc) (ab.out.put n.out ..) (ac.out.put (by omega) ..)
theorem ziJ {C:Cx} {gt H D m:Nat} (hP:ziD C gt H D m):SumOK C gt H D m:=by
 intro x S q z d w hx hm hl an
 have HP:=zc hP
 have HM:=zc hm
 have HX:=zc hx
 have HL:=zc hl
 have ab:=hm.few
 clear hP hm hx hl
 unfold pv
 go_enter Tryz.func75,Tryz.ntmps75
 go_wp2_with fail
 refine (HP.out x S q z d _ HX.out ((HM.out.alloc _).alloc _) HL.out an).mono ?_
 rintro e w1 ⟨S1,q1,z1,rfl,i1,m1,s1⟩
 obtain⟨X0,X1,t1⟩:=HM.out.two2 s1
 have j:=zc X0
 have n:=zc X1
 have aH:=zc m1
 have aF:=zc t1
 have ax:=zc i1
 clear X0 X1 i1 m1 t1 s1
 obtain⟨K,U,Y,X,V,M,L,N,O,J,o,A,Q⟩:=j.out.box
 unfold pv
 go_wp2
 go_loopg [] (C.ts.length+1) (fun k wr=>∃(x':PR) (S':Sv) (q':PS) (z':Int),Is x' q' z'∧bd x' (pE C .sumT d)=bd x (pE C .sum d)∧(z'<0→C.ts.length-q'.pos<k)∧(z'<0→C.ts.length-q'.pos<m)∧Mem C gt H D S' q' wr∧SB w.heap.size S w S' wr∧Bx gt S' wr w.heap.size #[.slice (some ⟨gt,0,none⟩) C.ts.length H,.int .i64 q'.pos,.int .i64 C.fin,.bool C.scr,.slice S'.rq.a q'.rq.length S'.rq.cap,.slice S'.im.a q'.im.length S'.im.cap,.slice S'.ep.a q'.ep.length S'.ep.cap,.slice S'.st.a q'.st.length S'.st.cap,.slice S'.ex.a q'.ex.length S'.ex.cap,.slice S'.la.a q'.la.length S'.la.cap,.int .i64 z',.int .i64 d]∧Bx gt S' wr (w.heap.size+1) #[.slice none 0 0,.int .i64 0,.int .i64 0,.bool false,.slice none 0 0,.slice none 0 0,.slice none 0 0,.slice none 0 0,.slice none 0 0,.slice none 0 0,.int .i64 0,.int .i64 0])
 case atStart=>exact⟨_,S1,q1,z1,ax.out,by rw[zM];exact zab fun a _=>(zhC C d a).symm,fun _=>by omega,fun hz=>zns HX.out ax.out HL.out hz,(aH.out.put j.out ..),(aF.out.put (by omega) ..),(j.out.put ..),(n.out.other (by omega) ..)⟩
 case round=>
  obtain⟨x2,S2,I,z2,i2,e2,l2,b2,m2,t2,X0,X1⟩:=hrel
  have j:=zc X0
  have n:=zc X1
  have aj:=zc m2
  have aq:=zc t2
  have as:=zc i2
  have av:=zc e2
  have aB:=zc l2
  have az:=zc b2
  have aL:=m2.inv.ex
  clear X0 X1 i2 m2 t2 e2 l2 b2
  cases hc:(decide (z2<0)&&isT C I.pos 4 zbU) with
  |true=>
   obtain⟨K,U,Y,X,V,M,L,N,O,J,o,A,Q⟩:=j.out.box
   go_wp2_with fail
   refine (zh C gt H D S2 I z2 d 4 zbU _ aj.out.tok ab (by decide)).mono ?_
   rintro e w3 ⟨rfl,Z⟩
   rw[hc]
   replace j:=zc (j.out.below Z)
   replace n:=zc (n.out.below Z)
   have ah:=zc (aq.out.below Z)
   have aa:=zc (aj.out.later Z)
   clear Z aq aj
   clear K U Y X V M L N O J o A Q
   rw[Bool.and_eq_true,decide_eq_true_eq] at hc
   obtain⟨hz,hs⟩:=hc
   have aA:isT C I.pos 4 zbb=false:=zny hs
   have ac:(decide (z2<0)&&isT C I.pos 4 zbb)=false:=by rw[aA,Bool.and_false]
   obtain⟨K,U,Y,X,V,M,L,N,O,J,o,A,Q⟩:=j.out.box
   go_wp2_with fail
   refine (zh C gt H D S2 I z2 d 4 zbb _ aa.out.tok ab (by decide)).mono ?_
   rintro e w4 ⟨rfl,E⟩
   rw[ac]
   replace j:=zc (j.out.below E)
   replace n:=zc (n.out.below E)
   have ag:=zc (ah.out.below E)
   have ae:=zc (aa.out.later E)
   clear E ah aa
   clear K U Y X V M L N O J o A Q
   clear ac
   have hp:I.pos<C.ts.length:=za1 hs (by decide)
   obtain⟨rfl,rfl⟩:=zaC as.out hz
   have aC:=aB.out hz
   have aD:=az.out hz
   skip
   obtain⟨K,U,Y,X,V,M,L,N,O,J,o,A,Q⟩:=j.out.box
   go_wp2_with fail
   refine (HP.out (.ok (adv I)) S2 (adv I) (-1) d _ (zX _) ((ae.out.adv hp).set j.out 1 _) (fun _=>by rw[zx];omega) an).mono ?_
   rintro e w5 ⟨S5,q5,z5,rfl,i5,m5,s5⟩
   replace j:=zc ((j.out.at1 _).stp s5)
   replace n:=zc ((n.out.set_other (by omega) 1 _).stp s5)
   have ao:Hid (SB w.heap.size S w S5 w5):=(ag.out.set (by omega) 1 _).step s5
   clear ag
   have ap:=zc m5
   have au:=zc i5
   clear i5 m5 s5 ae
   clear K U Y X V M L N O J o A Q
   obtain⟨K,U,Y,X,V,M,L,N,O,J,o,A,Q⟩:=j.out.box
   unfold pv
   go_upto_region 9 with fail
   refine zL (R:=fun W=>Bx gt S5 W (w.heap.size) _∧Bx gt S5 W (w.heap.size+1) _∧Mem C gt H D S5 q5 W∧SB w.heap.size S w S5 W) ⟨(j.out.put ..),(n.out.other (by omega) ..),(ap.out.put j.out ..),(ao.out.put (by omega) ..)⟩ ?_
   clear K U Y X V M L N O J o A Q
   clear j n ao ap
   rintro w6 ⟨X0,X1,m6,t6⟩
   have j:=zc X0
   have n:=zc X1
   have ai:=zc m6
   have am:=zc t6
   clear m6 t6 X0 X1
   obtain⟨K,U,Y,X,V,M,L,N,O,J,o,A,Q⟩:=j.out.box
   have ay:=ai.out.inv.ex
   go_wp2_with fail
   refine (zcJ C gt H D _ S5 q5 z5 d ⟨6,0,sNone,sNone,(I.ex.length:Int)-1,(q5.ex.length:Int)-1⟩ _ au.out ai.out (fun h=>ziF au.out h)).mono ?_
   rintro e w7 ⟨S7,q7,z7,rfl,i7,m7,s7⟩
   replace j:=zc (j.out.stp s7)
   replace n:=zc (n.out.stp s7)
   have ar:=zc (am.out.step s7)
   clear am
   have ak:=zc m7
   have aI:=zc i7
   clear i7 m7 s7 ai
   clear K U Y X V M L N O J o A Q
   have HI:Hid (Is (bd (bd (.ok (adv I)) (pE C .prod d)) fun q'=>zN C ⟨6,0,sNone,sNone,(I.ex.length:Int)-1,(q'.ex.length:Int)-1⟩ q') q7 z7):=by rw[←zgF au.out (fun q'=>⟨6,0,sNone,sNone,(I.ex.length:Int)-1,(q'.ex.length:Int)-1⟩)];exact aI.out
   have ad:Hid (z7<0→I.pos+1≤q7.pos):=fun h=>ziG HI.out h
   obtain⟨K,U,Y,X,V,M,L,N,O,J,o,A,Q⟩:=j.out.box
   unfold pv
   go_wp2
   go_roundg (gk-1)
   case rel=>exact⟨_,S7,q7,z7,HI.out,by rw[←av.out];exact (ziH (d:=d) (by rw[hs];rfl) (show zcY C I.pos=6 by rw[zcY,aA];rfl) hp).symm,fun h=>by have:=ad.out h;omega,fun h=>by have:=ad.out h;omega,(ak.out.put j.out ..),(ar.out.put (by omega) ..),(j.out.put ..),(n.out.other (by omega) ..)⟩
   case measure=>omega
  |false=>
   obtain⟨K,U,Y,X,V,M,L,N,O,J,o,A,Q⟩:=j.out.box
   go_wp2_with fail
   refine (zh C gt H D S2 I z2 d 4 zbU _ aj.out.tok ab (by decide)).mono ?_
   rintro e w3 ⟨rfl,Z⟩
   rw[hc]
   replace j:=zc (j.out.below Z)
   replace n:=zc (n.out.below Z)
   have ah:=zc (aq.out.below Z)
   have aa:=zc (aj.out.later Z)
   clear Z aq aj
   clear K U Y X V M L N O J o A Q
   cases ac:(decide (z2<0)&&isT C I.pos 4 zbb) with
   |true=>
    obtain⟨K,U,Y,X,V,M,L,N,O,J,o,A,Q⟩:=j.out.box
    go_wp2_with fail
    refine (zh C gt H D S2 I z2 d 4 zbb _ aa.out.tok ab (by decide)).mono ?_
    rintro e w4 ⟨rfl,E⟩
    rw[ac]
    replace j:=zc (j.out.below E)
    replace n:=zc (n.out.below E)
    have ag:=zc (ah.out.below E)
    have ae:=zc (aa.out.later E)
    clear E ah aa
    clear K U Y X V M L N O J o A Q
    obtain⟨K,U,Y,X,V,M,L,N,O,J,o,A,Q⟩:=j.out.box
    go_wp2_with fail
    refine (zh C gt H D S2 I z2 d 4 zbb _ ae.out.tok ab (by decide)).mono ?_
    rintro e w5 ⟨rfl,al⟩
    rw[ac]
    replace j:=zc (j.out.below al)
    replace n:=zc (n.out.below al)
    have ao:=zc (ag.out.below al)
    have ap:=zc (ae.out.later al)
    clear al ag ae
    clear K U Y X V M L N O J o A Q
    rw[Bool.and_eq_true,decide_eq_true_eq] at ac
    obtain⟨hz,hs⟩:=ac
    have hp:I.pos<C.ts.length:=za1 hs (by decide)
    obtain⟨rfl,rfl⟩:=zaC as.out hz
    have aC:=aB.out hz
    have aD:=az.out hz
    skip
    obtain⟨K,U,Y,X,V,M,L,N,O,J,o,A,Q⟩:=j.out.box
    go_wp2_with fail
    refine (HP.out (.ok (adv I)) S2 (adv I) (-1) d _ (zX _) ((ap.out.adv hp).set j.out 1 _) (fun _=>by rw[zx];omega) an).mono ?_
    rintro e w6 ⟨S6,q6,z6,rfl,i6,m6,s6⟩
    replace j:=zc ((j.out.at1 _).stp s6)
    replace n:=zc ((n.out.set_other (by omega) 1 _).stp s6)
    have am:Hid (SB w.heap.size S w S6 w6):=(ao.out.set (by omega) 1 _).step s6
    clear ao
    have ai:=zc m6
    have aw:=zc i6
    clear i6 m6 s6 ap
    clear K U Y X V M L N O J o A Q
    obtain⟨K,U,Y,X,V,M,L,N,O,J,o,A,Q⟩:=j.out.box
    unfold pv
    go_upto_region 9 with fail
    refine zL (R:=fun W=>Bx gt S6 W (w.heap.size) _∧Bx gt S6 W (w.heap.size+1) _∧Mem C gt H D S6 q6 W∧SB w.heap.size S w S6 W) ⟨(j.out.put ..),(n.out.other (by omega) ..),(ai.out.put j.out ..),(am.out.put (by omega) ..)⟩ ?_
    clear K U Y X V M L N O J o A Q
    clear j n am ai
    rintro w7 ⟨X0,X1,m7,t7⟩
    have j:=zc X0
    have n:=zc X1
    have ak:=zc m7
    have ar:=zc t7
    clear m7 t7 X0 X1
    obtain⟨K,U,Y,X,V,M,L,N,O,J,o,A,Q⟩:=j.out.box
    have ay:=ak.out.inv.ex
    go_wp2_with fail
    refine (zcJ C gt H D _ S6 q6 z6 d ⟨7,0,sNone,sNone,(I.ex.length:Int)-1,(q6.ex.length:Int)-1⟩ _ aw.out ak.out (fun h=>ziF aw.out h)).mono ?_
    rintro e w8 ⟨S8,q8,z8,rfl,i8,m8,s8⟩
    replace j:=zc (j.out.stp s8)
    replace n:=zc (n.out.stp s8)
    have aJ:=zc (ar.out.step s8)
    clear ar
    have aG:=zc m8
    have aE:=zc i8
    clear i8 m8 s8 ak
    clear K U Y X V M L N O J o A Q
    have HI:Hid (Is (bd (bd (.ok (adv I)) (pE C .prod d)) fun q'=>zN C ⟨7,0,sNone,sNone,(I.ex.length:Int)-1,(q'.ex.length:Int)-1⟩ q') q8 z8):=by rw[←zgF aw.out (fun q'=>⟨7,0,sNone,sNone,(I.ex.length:Int)-1,(q'.ex.length:Int)-1⟩)];exact aE.out
    have ad:Hid (z8<0→I.pos+1≤q8.pos):=fun h=>ziG HI.out h
    obtain⟨K,U,Y,X,V,M,L,N,O,J,o,A,Q⟩:=j.out.box
    unfold pv
    go_wp2
    go_roundg (gk-1)
    case rel=>exact⟨_,S8,q8,z8,HI.out,by rw[←av.out];exact (ziH (d:=d) (by rw[hs,Bool.or_true]) (show zcY C I.pos=7 by rw[zcY,hs];rfl) hp).symm,fun h=>by have:=ad.out h;omega,fun h=>by have:=ad.out h;omega,(aG.out.put j.out ..),(aJ.out.put (by omega) ..),(j.out.put ..),(n.out.other (by omega) ..)⟩
    case measure=>omega
   |false=>
    obtain⟨K,U,Y,X,V,M,L,N,O,J,o,A,Q⟩:=j.out.box
    go_wp2_with fail
    refine (zh C gt H D S2 I z2 d 4 zbb _ aa.out.tok ab (by decide)).mono ?_
    rintro e w4 ⟨rfl,E⟩
    rw[ac]
    replace j:=zc (j.out.below E)
    replace n:=zc (n.out.below E)
    have ag:=zc (ah.out.below E)
    have ae:=zc (aa.out.later E)
    clear E ah aa
    clear K U Y X V M L N O J o A Q
    obtain⟨K,U,Y,X,V,M,L,N,O,J,o,A,Q⟩:=j.out.box
    obtain⟨b0,b1,b2,b3,b4,b5,b6,b7,b8,b9,aM,aK,bf⟩:=n.out.box
    go_wp2
    refine bodyPost_ret (results_cell_row rfl _ _ (w.heap.size+1) 53 _ (0,0) _ rfl ((n.out.put ..)).heap Tryz.underlying53 rfl (by kernel_rfl)) rfl ?_
    exact zY rfl (show Is (bd x (pE C .sum d)) I z2 from by rw[←av.out];exact znx as.out hc ac) (ae.out.put n.out ..) (ag.out.put (by omega) ..)
theorem znz (C:Cx) (A n j:Nat):zgE C A n j 0:=by
 intro x S q z d w K H J L
 by_cases E:z<0
 ·have:=J E
  omega
 ·obtain⟨e,rfl,rfl⟩:=zdc K E
  rw[zdU]
  obtain⟨I,o,D⟩:=C
  cases D with
  |true=>exact ziB I o A n j S q d w H e
  |false=>exact ziC I o A n j S q d w H e
theorem zn0 (C:Cx) (o n j:Nat) (m:Nat):SumOK C o n j m:=by
 induction m with
 |zero=>exact ziJ (ziI (znz C o n j))
 |succ m q=>exact ziJ (ziI (znq q))
theorem zcN (C:Cx) (o n j:Nat) (x:PR) (S:Sv) (q:PS) (z:Int) (w:World) (D:Is x q z) (A:Mem C o n j S q w):
  Calls Tryz.prog 75 #[pv C o n S q z 0] w (Out C o n j (bd x (pE C .sum 0)) 0 S w):=
 zn0 C o n j (C.ts.length+1) x S q z 0 w D A (fun _=>by omega) (by omega)
theorem Is2.withN {y:PRN} {q q':PS} {z z':Int} {n:ByteArray} {F:PR→ByteArray→PR} (h:Is2 y q z n) (D: ∀e n,F (.error e) n= .error e) (j:Is (F (zaK y) n) q' z'):Is2 (withN y F) q' z' n:=by
 cases y with
 |ok a=>
  obtain⟨_,_,rfl⟩:=h
  have e:zaK (.ok a)= .ok a.1:=rfl
  rw[e] at j
  show Is2 (bd (F (.ok a.1) a.2) fun q=>.ok (q,a.2)) q' z' a.2
  cases o:F (.ok a.1) a.2 with
  |ok b=>rw[o] at j;exact⟨j.1,j.2,rfl⟩
  |error e=>rw[o] at j;exact j
 |error e=>
  have A:zaK (.error e)= .error e:=rfl
  rw[A,D] at j
  exact j
theorem ziK {C:Cx} {z n j:Nat} {y:PRN} {d:Nat} {S o:Sv} {w q:World} {q':PS} {z':Int} {A:ByteArray} {v:Value} (I:v=pv C z n o q' z' d) (D:Is2 y q' z' A) (E:Mem C z n j o q' q) (H:SB w.heap.size S w o q):zdo C z n j y d S w (.returned (.tuple #[v,.string A])) q:=
 ⟨o,q',z',A,by rw[I],D,E,H.done⟩
theorem zgG (C:Cx) (E D o:Nat) (S:Sv) (q:PS) (w:World) (hm:Mem C E D o S q w):
  Calls Tryz.prog 72 #[pv C E D S q (-1) 0] w (zdo C E D o (zcj C q) 0 S w):=by
 have HM:=zc hm
 clear hm
 unfold pv
 go_enter Tryz.func72,Tryz.ntmps72
 go_wp2_with fail
 refine (zaH C E D o (.ok q) S q (-1) 0 zC _ (zX q) ((HM.out.alloc _).alloc _)).mono ?_
 rintro e w1 ⟨S1,q1,z1,rfl,i1,m1,s1⟩
 obtain⟨X0,Q,t1⟩:=HM.out.two2 s1
 have z:=zc X0
 have j:=zc Q
 have aa:=zc m1
 have X:=zc t1
 have aj:=zc i1
 clear X0 Q i1 m1 t1 s1
 go_wp2_with fail
 refine (zbe C E D o _ S1 q1 z1 0 false _ aj.out aa.out).mono ?_
 rintro e w2 ⟨S2,q2,z2,n2,rfl,i2,m2,s2⟩
 replace z:=zc (z.out.stp s2)
 replace j:=zc (j.out.stp s2)
 have N:=zc (X.out.step s2)
 clear X
 have J:=zc m2
 have Y:=zc i2
 clear i2 m2 s2 aa
 have ao:w.heap.size+1<w2.heap.size:=j.out.lt
 unfold pv
 go_wp2_with fail
 refine (zad C E D o _ S2 q2 z2 0 cEq _ Y.out.fst (J.out.alloc _)).mono ?_
 rintro e w3 ⟨S3,q3,z3,rfl,i3,m3,U⟩
 replace z:=zc ((z.out.alloc _).stp U)
 replace j:=zc ((j.out.alloc _).stp U)
 replace A:=zc ((Bx.new J.out _).stp U)
 have ac:Hid (SB w.heap.size S w S3 w3):=(N.out.alloc _).step U
 clear N
 have O:=zc m3
 have ai:=zc i3
 clear i3 m3 U J
 go_wp2_with fail
 refine (zcN C E D o _ S3 q3 z3 _ ai.out O.out).mono ?_
 rintro e w4 ⟨S4,q4,z4,rfl,i4,m4,L⟩
 replace z:=zc (z.out.stp L)
 replace j:=zc (j.out.stp L)
 replace A:=zc (A.out.stp L)
 have V:=zc (ac.out.step L)
 clear ac
 have af:=zc m4
 have an:=zc i4
 clear i4 m4 L O
 go_wp2_with fail
 refine (zad C E D o _ S4 q4 z4 0 cSemi _ an.out af.out).mono ?_
 rintro e w5 ⟨K,q5,z5,rfl,i5,m5,Z⟩
 replace z:=zc (z.out.stp Z)
 replace j:=zc (j.out.stp Z)
 replace A:=zc (A.out.stp Z)
 have ag:=zc (V.out.step Z)
 clear V
 have ah:=zc m5
 have ad:=zc i5
 clear i5 m5 Z af
 obtain⟨c0,c1,c2,c3,c4,c5,c6,c7,c8,c9,H,I,cf⟩:=A.out.box
 unfold pv
 go_upto_region 3 with fail
 refine zL (R:=fun W=>Bx E K W (w.heap.size) _∧Bx E K W (w.heap.size+1) _∧Bx E K W (w2.heap.size) _∧Mem C E D o K q5 W∧SB w.heap.size S w K W) ⟨(z.out.other (by omega) ..),(j.out.other (by omega) ..),(A.out.put ..),(ah.out.put A.out ..),(ag.out.put (by omega) ..)⟩ ?_
 clear c0 c1 c2 c3 c4 c5 c6 c7 c8 c9 H I cf
 clear z j A ag ah
 rintro w6 ⟨X0,Q,X2,m6,t6⟩
 have z:=zc X0
 have j:=zc Q
 have A:=zc X2
 have ae:=zc m6
 have ab:=zc t6
 clear m6 t6 X0 Q X2
 obtain⟨c0,c1,c2,c3,c4,c5,c6,c7,c8,c9,H,I,cf⟩:=A.out.box
 go_wp2_with fail
 refine (zcK C E D o _ K q5 z5 0 1 n2 _ ad.out ae.out (zbh ad.out)).mono ?_
 rintro e w7 ⟨S7,q7,z7,rfl,i7,m7,M⟩
 replace z:=zc (z.out.stp M)
 replace j:=zc (j.out.stp M)
 replace A:=zc (A.out.stp M)
 have am:=zc (ab.out.step M)
 clear ab
 have ak:=zc m7
 have al:=zc i7
 clear i7 m7 M ae
 clear c0 c1 c2 c3 c4 c5 c6 c7 c8 c9 H I cf
 obtain⟨b0,b1,b2,b3,b4,b5,b6,b7,b8,b9,aq,ap,bf⟩:=j.out.box
 unfold pv
 go_wp2
 refine bodyPost_ret (zaA rfl _ _ (w.heap.size+1) 53 _ (0,0) _ rfl ((j.out.put ..)).heap Tryz.underlying53 rfl (by kernel_rfl)) rfl ?_
 exact ziK rfl (Y.out.withN (F:=fun x n=>_) (fun _ _=>rfl) al.out) (ak.out.put j.out ..) (am.out.put (by omega) ..)
theorem zgH (C:Cx) (E D A:Nat) (S:Sv) (q:PS) (w:World) (hm:Mem C E D A S q w):
  Calls Tryz.prog 73 #[pv C E D S q (-1) 0] w (zdo C E D A (fnP C q) 0 S w):=by
 have HM:=zc hm
 clear hm
 unfold pv
 go_enter Tryz.func73,Tryz.ntmps73
 go_wp2_with fail
 refine (zaH C E D A (.ok q) S q (-1) 0 zT _ (zX q) ((HM.out.alloc _).alloc _)).mono ?_
 rintro e w1 ⟨S1,q1,z1,rfl,i1,m1,s1⟩
 obtain⟨X0,O,t1⟩:=HM.out.two2 s1
 have z:=zc X0
 have o:=zc O
 have aA:=zc m1
 have av:=zc t1
 have aT:=zc i1
 clear X0 O i1 m1 t1 s1
 go_wp2_with fail
 refine (zbe C E D A _ S1 q1 z1 0 false _ aT.out aA.out).mono ?_
 rintro e w2 ⟨S2,q2,z2,n2,rfl,i2,m2,s2⟩
 replace z:=zc (z.out.stp s2)
 replace o:=zc (o.out.stp s2)
 have ak:=zc (av.out.step s2)
 clear av
 have aj:=zc m2
 have ay:=zc i2
 clear i2 m2 s2 aA
 have a0:w.heap.size+1<w2.heap.size:=o.out.lt
 unfold pv
 go_wp2_with fail
 refine (zad C E D A _ S2 q2 z2 0 zn _ ay.out.fst (aj.out.alloc _)).mono ?_
 rintro e w3 ⟨S3,q3,z3,rfl,i3,m3,s3⟩
 replace z:=zc ((z.out.alloc _).stp s3)
 replace o:=zc ((o.out.alloc _).stp s3)
 replace j:=zc ((Bx.new aj.out _).stp s3)
 have aE:Hid (SB w.heap.size S w S3 w3):=(ak.out.alloc _).step s3
 clear ak
 have am:=zc m3
 have aS:=zc i3
 clear i3 m3 s3 aj
 go_wp2_with fail
 refine (zad C E D A _ S3 q3 z3 0 za0 _ aS.out am.out).mono ?_
 rintro e w4 ⟨S4,q4,z4,rfl,i4,m4,s4⟩
 replace z:=zc (z.out.stp s4)
 replace o:=zc (o.out.stp s4)
 replace j:=zc (j.out.stp s4)
 have aq:=zc (aE.out.step s4)
 clear aE
 have aI:=zc m4
 have aY:=zc i4
 clear i4 m4 s4 am
 go_wp2_with fail
 refine (zad C E D A _ S4 q4 z4 0 zJ _ aY.out aI.out).mono ?_
 rintro e w5 ⟨S5,q5,z5,rfl,i5,m5,s5⟩
 replace z:=zc (z.out.stp s5)
 replace o:=zc (o.out.stp s5)
 replace j:=zc (j.out.stp s5)
 have aK:=zc (aq.out.step s5)
 clear aq
 have aN:=zc m5
 have aW:=zc i5
 clear i5 m5 s5 aI
 obtain⟨U,c1,L,V,X,Z,Q,c7,N,Y,H,I,M⟩:=j.out.box
 unfold pv
 go_upto_region 3 with fail
 refine zL (R:=fun W=>Bx E S5 W (w.heap.size) _∧Bx E S5 W (w.heap.size+1) _∧Bx E S5 W (w2.heap.size) _∧Mem C E D A S5 q5 W∧SB w.heap.size S w S5 W) ⟨(z.out.other (by omega) ..),(o.out.other (by omega) ..),(j.out.put ..),(aN.out.put j.out ..),(aK.out.put (by omega) ..)⟩ ?_
 clear U c1 L V X Z Q c7 N Y H I M
 clear z o j aK aN
 rintro w6 ⟨X0,O,X2,m6,t6⟩
 have z:=zc X0
 have o:=zc O
 have j:=zc X2
 have aG:=zc m6
 have aB:=zc t6
 clear m6 t6 X0 O X2
 obtain⟨U,c1,L,V,X,Z,Q,c7,N,Y,H,I,M⟩:=j.out.box
 go_wp2_with fail
 refine (zaH C E D A _ S5 q5 z5 0 zdT _ aW.out aG.out).mono ?_
 rintro e w7 ⟨S7,q7,z7,rfl,i7,m7,s7⟩
 replace z:=zc (z.out.stp s7)
 replace o:=zc (o.out.stp s7)
 replace j:=zc (j.out.stp s7)
 have aJ:=zc (aB.out.step s7)
 clear aB
 have ax:=zc m7
 have aX:=zc i7
 clear i7 m7 s7 aG
 clear U c1 L V X Z Q c7 N Y H I M
 go_wp2_with fail
 refine (zcN C E D A _ S7 q7 z7 _ aX.out ax.out).mono ?_
 rintro e w8 ⟨S8,q8,z8,rfl,i8,m8,s8⟩
 replace z:=zc (z.out.stp s8)
 replace o:=zc (o.out.stp s8)
 replace j:=zc (j.out.stp s8)
 have aO:=zc (aJ.out.step s8)
 clear aJ
 have az:=zc m8
 have aR:=zc i8
 clear i8 m8 s8 ax
 obtain⟨U,c1,L,V,X,Z,Q,c7,N,Y,H,I,M⟩:=j.out.box
 unfold pv
 go_upto_region 4 with fail
 refine zL (R:=fun W=>Bx E S8 W (w.heap.size) _∧Bx E S8 W (w.heap.size+1) _∧Bx E S8 W (w2.heap.size) _∧Mem C E D A S8 q8 W∧SB w.heap.size S w S8 W) ⟨(z.out.other (by omega) ..),(o.out.other (by omega) ..),(j.out.put ..),(az.out.put j.out ..),(aO.out.put (by omega) ..)⟩ ?_
 clear U c1 L V X Z Q c7 N Y H I M
 clear z o j aO az
 rintro w9 ⟨X0,O,X2,m9,t9⟩
 have z:=zc X0
 have o:=zc O
 have j:=zc X2
 have au:=zc m9
 have aH:=zc t9
 clear m9 t9 X0 O X2
 obtain⟨U,c1,L,V,X,Z,Q,c7,N,Y,H,I,M⟩:=j.out.box
 go_wp2_with fail
 refine (zad C E D A _ S8 q8 z8 0 cSemi _ aR.out au.out).mono ?_
 rintro e a5 ⟨aU,aZ,aQ,rfl,ap,aD,ab⟩
 replace z:=zc (z.out.stp ab)
 replace o:=zc (o.out.stp ab)
 replace j:=zc (j.out.stp ab)
 have ag:=zc (aH.out.step ab)
 clear aH
 have ad:=zc aD
 have ar:=zc ap
 clear ap aD ab au
 clear U c1 L V X Z Q c7 N Y H I M
 go_wp2_with fail
 refine (zad C E D A _ aU aZ aQ 0 zbm _ ar.out ad.out).mono ?_
 rintro e a7 ⟨J,aP,aV,rfl,ao,aL,aa⟩
 replace z:=zc (z.out.stp aa)
 replace o:=zc (o.out.stp aa)
 replace j:=zc (j.out.stp aa)
 have ai:=zc (ag.out.step aa)
 clear ag
 have ac:=zc aL
 have af:=zc ao
 clear ao aL aa ad
 obtain⟨U,c1,L,V,X,Z,Q,c7,N,Y,H,I,M⟩:=j.out.box
 unfold pv
 go_upto_region 5 with fail
 refine zL (R:=fun W=>Bx E J W (w.heap.size) _∧Bx E J W (w.heap.size+1) _∧Bx E J W (w2.heap.size) _∧Mem C E D A J aP W∧SB w.heap.size S w J W) ⟨(z.out.other (by omega) ..),(o.out.other (by omega) ..),(j.out.put ..),(ac.out.put j.out ..),(ai.out.put (by omega) ..)⟩ ?_
 clear U c1 L V X Z Q c7 N Y H I M
 clear z o j ai ac
 rintro a8 ⟨X0,O,X2,aC,aw⟩
 have z:=zc X0
 have o:=zc O
 have j:=zc X2
 have ah:=zc aC
 have ae:=zc aw
 clear aC aw X0 O X2
 obtain⟨U,c1,L,V,X,Z,Q,c7,N,Y,H,I,M⟩:=j.out.box
 go_wp2_with fail
 refine (zcK C E D A _ J aP aV 0 2 n2 _ af.out ah.out (zbh af.out)).mono ?_
 rintro e a4 ⟨a3,a9,a2,rfl,aM,as,K⟩
 replace z:=zc (z.out.stp K)
 replace o:=zc (o.out.stp K)
 replace j:=zc (j.out.stp K)
 have aF:=zc (ae.out.step K)
 clear ae
 have al:=zc as
 have an:=zc aM
 clear aM as K ah
 clear U c1 L V X Z Q c7 N Y H I M
 obtain⟨b0,b1,b2,b3,b4,b5,b6,b7,b8,b9,a6,a1,bf⟩:=o.out.box
 unfold pv
 go_wp2
 refine bodyPost_ret (zaA rfl _ _ (w.heap.size+1) 53 _ (0,0) _ rfl ((o.out.put ..)).heap Tryz.underlying53 rfl (by kernel_rfl)) rfl ?_
 exact ziK rfl (ay.out.withN (F:=fun x n=>_) (fun _ _=>rfl) an.out) (al.out.put o.out ..) (aF.out.put (by omega) ..)
end Go.Proofs.YticdggnnpjachaaGreat
