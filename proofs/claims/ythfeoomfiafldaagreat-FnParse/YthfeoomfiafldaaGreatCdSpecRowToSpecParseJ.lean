/-
  A row of pairs of names beside a program under way. No program is spoken of but for the numbers of its types.
  What spec's l4Tail answers: the walk.
  What spec's l4List answers: the walk.
  What spec's l4Part answers,if l4Sum answers so behind it: the walks.
  What spec's l4Part answers where no number and no bracket stands,in a script: the walks.
  What spec's l4Part answers where no number and no bracket stands: the walks.
  What spec's l4Part,l4Product and l4Sum answer: the walks of the two loops,and the three together.
-/
import Derived.Deep.DeepCutAuto
import Derived.Test.YthfeoomfiafldaaGreatCdModOkImplToSpecBox
namespace Go.Proofs.YthfeoomfiafldaaGreat
set_option maxRecDepth 100000
set_option maxHeartbeats 6400000
open Go.RowKit Go.PlainAid
structure Row (S:Sv) (w:World) (base B:Nat) (r:Rw) (l:List Ep):Prop where
 own:OwnR w base 77 4 r l.length (l.flatMap epL)
 free: ∀k,r.blk=some k→¬S.has k
 new: ∀k,r.blk=some k→B≤k
 addr: ∃g,r.a=some ⟨g,0,none⟩
theorem Row.ne {z b:Nat} {S:Sv} {w:World} {j B:Nat} {r:Rw} {l:List Ep} {cs:Array Value} (h:Row S w j B r l) (D:Bx z S w b cs): ∀k,r.blk=some k→k≠b:=by
 rintro k o rfl
 obtain⟨_,_,c,g⟩:=h.own.typed o
 rw[D.heap] at g
 simp only[Option.some.injEq,Obj.cells.injEq] at g
 exact absurd g.2.1 (by decide)
theorem Row.stp {S D:Sv} {w z:World} {j B:Nat} {r:Rw} {l:List Ep} (h:Row S w j B r l) (s:Stp S w D z):Row D z j B r l:=
 ⟨h.own.keep fun k o=>s.block k (h.own.typed o).2.1 (h.free k o),fun k o g=>(s.sub k g).elim (h.free k o) fun E=>by have:=(h.own.typed o).2.1;omega,h.new,h.addr⟩
theorem Row.below {S:Sv} {w o:World} {j B:Nat} {r:Rw} {l:List Ep} (h:Row S w j B r l) (s:Below w.heap.size w o):Row S o j B r l:=h.stp (Stp.below s)
theorem Row.alloc {S:Sv} {w:World} {j B:Nat} {r:Rw} {l:List Ep} (h:Row S w j B r l) (o:Obj):Row S (w.alloc o) j B r l:=h.below ((Below.refl _ _).alloc (Nat.le_refl _) _)
theorem Row.drew {S:Sv} {w:World} {j B:Nat} {r:Rw} {l:List Ep} (h:Row S w j B r l):Row S w.drew j B r l:=⟨h.own,h.free,h.new,h.addr⟩
theorem Row.set {z b:Nat} {S:Sv} {w:World} {j B:Nat} {r:Rw} {l:List Ep} {cs:Array Value} (h:Row S w j B r l) (D:Bx z S w b cs) (i:Nat) (u:Value):Row S (w.setCell ⟨b,i,none⟩ u) j B r l:=
 ⟨h.own.keep fun k o=>zx (h.ne D k o),h.free,h.new,h.addr⟩
theorem Row.put {M b:Nat} {S:Sv} {w:World} {j B:Nat} {r:Rw} {l:List Ep} {cs:Array Value} (h:Row S w j B r l) (N:Bx M S w b cs) (D V E O J Q H L I U z o:Value):Row S (set12 w b D V E O J Q H L I U z o) j B r l:=
 ⟨h.own.keep fun k K=>zgi (h.ne N k K) _ _ _ _ _ _ _ _ _ _ _ _,h.free,h.new,h.addr⟩
theorem Row.nil {C:Cx} {D z j B:Nat} {S:Sv} {q:PS} {w:World} (h:Mem C D z j S q w) (E:B≤w.heap.size):Row S (w.alloc (.cells #[] 77 (0,0))) j B ⟨some ⟨w.heap.size,0,none⟩,0⟩ []:=by
 refine⟨World.ownsRow_lit w #[] 0 h.base (by unfold maxLen;omega) rfl,fun k o g=>?_,fun k o=>?_,⟨_,rfl⟩⟩
 ·simp only[Rw.blk,Value.ownBlock,Option.some.injEq] at o
  have:=(h.own.has g).2
  omega
 ·simp only[Rw.blk,Value.ownBlock,Option.some.injEq] at o
  omega
theorem Row.grow {C:Cx} {L I j B:Nat} {S:Sv} {q:PS} {W E:World} {r J:Rw} {l:List Ep} {x:Ep} (h:Row S W j B r l) (D:Mem C L I j S q W) (U:B≤W.heap.size) (O:W.grownBy E r.blk) (N:OwnR E j 77 4 J (l.length+1) (l.flatMap epL++epL x)) (H:J.blk=r.blk∨J.blk=some W.heap.size):
  Row S E j B J (l++[x])∧Mem C L I j S q E:=by
 refine⟨⟨?_,fun k z g=>?_,fun k z=>?_,N.addr.resolve_left (by omega)⟩,?_⟩
 ·have e:(l++[x]).length=l.length+1:=by simp
  rw[e]
  simpa using N
 ·rcases H with e|e
  ·exact h.free k (by rw[←e];exact z) g
  ·have Q:W.heap.size=k:=Option.some.inj (e.symm.trans z)
   have:=(D.own.has g).2
   omega
 ·rcases H with e|e
  ·exact h.new k (by rw[←e];exact z)
  ·have Q:W.heap.size=k:=Option.some.inj (e.symm.trans z)
   omega
 ·have o: ∀k,k<W.heap.size→r.blk≠some k→E.heap[k]? =W.heap[k]?:=fun k z M=>O.block k z fun e=>M e.symm
  refine⟨D.own.keep fun k z=>o k (D.own.has z).2 fun e=>h.free k e z,D.inv,zbJ D.tok (o L (zan D.tok).1 fun e=>?_),D.few,Nat.le_trans D.base O.size⟩
  obtain⟨_,_,c,g⟩:=h.own.typed e
  obtain⟨V,K⟩:=zgy D.tok
  rw[g] at K
  simp only[Option.some.injEq,Obj.cells.injEq] at K
  exact absurd K.2.1 (by decide)
theorem Row.bx {D b:Nat} {S:Sv} {W z:World} {j B:Nat} {r:Rw} {l:List Ep} {cs:Array Value} (h:Row S W j B r l) (o:Bx D S W b cs) (E:W.grownBy z r.blk):Bx D S z b cs:=
 ⟨(E.block b o.lt fun e=>h.ne o b e.symm rfl).trans o.heap,o.free,o.ne⟩
theorem Row.sb {S S0:Sv} {w W D:World} {z:Nat} {B:Nat} {r:Rw} {l:List Ep} (h:Row S W z B r l) (j:SB B S0 w S W) (o:W.grownBy D r.blk):SB B S0 w S D:=
 ⟨o.os.trans j.os,o.tape.trans j.tape,o.output.trans j.output,Nat.le_trans j.size o.size,j.low,fun k H E=>(o.block k (by have:=j.size;have:=j.low;omega) fun e=>by have:=h.new k e.symm;omega).trans (j.block k H E),j.sub⟩
theorem Mem.list3 {C:Cx} {E H j:Nat} {S z:Sv} {q:PS} {w o:World} {D cb:Array Value} (h:Mem C E H j S q w) (s:Stp S (((w.alloc (.cells D 55 (0,0))).alloc (.cells cb 55 (0,0))).alloc (.cells #[] 77 (0,0))) z o):
  Bx E z o w.heap.size D∧Bx E z o (w.heap.size+1) cb∧Row z o j w.heap.size ⟨some ⟨w.heap.size+1+1,0,none⟩,0⟩ []∧SB w.heap.size S w z o:=by
 refine⟨(((Bx.new h _).alloc _).alloc _).stp s,?_,?_,(SB.start (zcW w _ _ _)).step s⟩
 ·have:=((Bx.new (h.alloc (.cells D 55 (0,0))) cb).alloc (.cells #[] 77 (0,0))).stp s
  rw[zW] at this
  exact this
 ·have:=(Row.nil (B:=w.heap.size) ((h.alloc (.cells D 55 (0,0))).alloc (.cells cb 55 (0,0))) (zcD w _ _).size).stp s
  rw[zcG] at this
  exact this
def Is3 (y:PRL) (q:PS) (z:Int) (l:List Ep):Prop:=
 match y with
 | .ok a=>q=a.1∧z= -1∧l=a.2
 | .error e=>z=(e:Int)
def zuz (C:Cx) (gt cap base:Nat) (y:PRL) (d:Nat) (S:Sv) (w:World) (e:Ending) (w':World):Prop:=
 ∃S' q' z' r l,e= .returned (.tuple #[pv C gt cap S' q' z' d,.slice r.a l.length r.cap,.bool (za2 l)])∧Is3 y q' z' l∧Mem C gt cap base S' q' w'∧Stp S w S' w'∧Row S' w' base w.heap.size r l∧l.length≤4001
theorem zmz (l:List Ep) (x:Ep):za2 (l++[x])=(za2 l||(x.loc.toList==[100,101,102,97,117,108,116])):=by simp[za2]
theorem zu0 {o:Func} {p u v:Tmp} {z:TypeId} (h:o.results= #[.cell p z,.tmp u,.tmp v]) (tmps:Array Value) (P:Program) (w:World):
  (results o tmps).run P w=((asAddr (tmps.getD p undef)).run P w).andThen fun a D=>((loadVar z a).run P D).andThen fun x j=>.ok (.tuple #[x,tmps.getD u undef,tmps.getD v undef]) j:=by
 simp only[results,h]
 simp[Sem.run_bind,Result.andThen]
theorem zm0 {P:Program} {z:Func} {p u v:Tmp} {j:TypeId} (h:z.results= #[.cell p j,.tmp u,.tmp v]) (tmps:Array Value) (w:World) (g:Nat) (t:TypeId) (cs:Array Value) (o:Nat×Nat) (d:TypeDesc)
  (E:tmps.getD p undef= .pointer (some ⟨g,0,none⟩)) (I:w.heap[g]? =some (.cells cs t o))
  (D:P.underlying j=some d) (hd:(match d with| .struct _| .array _ _=>true|_=>false)=true) (H:(P.info? j).map (·.size)=some cs.size):
  (results z tmps).run P w= .ok (.tuple #[.agg cs,tmps.getD u undef,tmps.getD v undef]) w:=by
 rw[zu0 h,E]
 simp[asAddr,Result.andThen,run_loadVar_row w g t j cs o d I D hd H]
theorem zb5 {C:Cx} {x:PR} {k:Int} {s:ByteArray} {q:PS} {z:Int} (h:Is (bd x (zd C k s)) q z):z<0→1≤q.pos:=by
 intro j
 obtain⟨e,_⟩:=zaF h j
 obtain⟨a,_,o⟩:=ze e
 obtain⟨rfl,_⟩:=zbh o
 simp[adv]
theorem zjf (C:Cx) (M D z:Nat) (S:Sv) (q:PS) (d:Nat) (nm:ByteArray) (w:World) (hm:Mem C M D z S q w) (hp:1≤q.pos):
  Calls Tryz.prog 144 #[pv C M D S q (-1) d,.string nm] w (Out C M D z (zau C nm q) d S w):=by
 have HM:=zc hm
 have E:=hm.tok
 have U:=hm.few
 clear hm
 cases hi:isT C q.pos 4 cOpen with
 |true=>
  have HV:Hid (zau C nm q=bd (bd (bd (.ok q) (zd C 4 cOpen)) (zd C 4 zU)) (zJ C ⟨3,0,nm,sNone,0,0⟩)):=if_pos hi
  unfold pv
  go_enter Tryz.func144,Tryz.ntmps144
  go_wp2_with fail
  refine (zj C M D z S q (-1) d 4 cOpen _ (zv (zv E _) _) U (by decide)).mono ?_
  rintro e w1 ⟨rfl,K⟩
  rw[hi]
  obtain⟨X0,X1,m1,X⟩:=HM.out.two K
  have o:=zc X0
  have j:=zc X1
  have H:=zc m1
  have J:=zc X
  clear X0 X1 m1 X K
  clear E
  obtain⟨a0,a1,a2,a3,a4,a5,a6,a7,a8,Y,L,I,af⟩:=o.out.box
  go_wp2_with fail
  refine (zah C M D z (.ok q) S q (-1) d cOpen _ (zab q) H.out).mono ?_
  rintro e w2 ⟨S2,q2,z2,rfl,i2,Z,N⟩
  replace o:=zc (o.out.stp N)
  replace j:=zc (j.out.stp N)
  have Q:=zc (J.out.step N)
  clear J
  have O:=zc Z
  have V:=zc i2
  clear i2 Z N H
  clear a0 a1 a2 a3 a4 a5 a6 a7 a8 Y L I af
  go_wp2_with fail
  refine (zah C M D z _ S2 q2 z2 d zU _ V.out O.out).mono ?_
  rintro e w3 ⟨S3,q3,z3,rfl,i3,m3,s3⟩
  replace o:=zc (o.out.stp s3)
  replace j:=zc (j.out.stp s3)
  have aa:=zc (Q.out.step s3)
  clear Q
  have ac:=zc m3
  have ab:=zc i3
  clear i3 m3 s3 O
  obtain⟨a0,a1,a2,a3,a4,a5,a6,a7,a8,Y,L,I,af⟩:=o.out.box
  unfold pv
  go_wp2_with fail
  refine (zcX C M D z _ S3 q3 z3 d ⟨3,0,nm,sNone,0,0⟩ _ ab.out (ac.out.put o.out ..) (zb5 ab.out)).mono ?_
  rintro e w4 ⟨S4,q4,z4,rfl,i4,m4,s4⟩
  replace o:=zc ((o.out.put ..).stp s4)
  replace j:=zc ((j.out.other (by omega) ..).stp s4)
  have ah:Hid (SB w.heap.size S w S4 w4):=(aa.out.put (by omega) ..).step s4
  clear aa
  have ae:=zc m4
  have ag:=zc i4
  clear i4 m4 s4 ac
  clear a0 a1 a2 a3 a4 a5 a6 a7 a8 Y L I af
  obtain⟨b0,b1,b2,b3,b4,b5,b6,b7,b8,b9,ad,ai,bf⟩:=j.out.box
  unfold pv
  go_wp2
  refine bodyPost_ret (results_cell_row rfl _ _ (w.heap.size+1) 55 _ (0,0) _ rfl ((j.out.put ..)).heap Tryz.underlying55 rfl (by kernel_rfl)) rfl ?_
  rw[HV.out]
  exact zac rfl ag.out (ae.out.put j.out ..) (ah.out.put (by omega) ..)
 |false=>
  have HV:Hid (zau C nm q=bd (.ok q) (zJ C ⟨2,0,nm,sNone,0,0⟩)):=by show zau C nm q=_;rw[zau,hi];rfl
  unfold pv
  go_enter Tryz.func144,Tryz.ntmps144
  go_wp2_with fail
  refine (zj C M D z S q (-1) d 4 cOpen _ (zv (zv E _) _) U (by decide)).mono ?_
  rintro e w1 ⟨rfl,K⟩
  rw[hi]
  obtain⟨X0,X1,m1,X⟩:=HM.out.two K
  have o:=zc X0
  have j:=zc X1
  have H:=zc m1
  have J:=zc X
  clear X0 X1 m1 X K
  clear E
  obtain⟨a0,a1,a2,a3,a4,a5,a6,a7,a8,Y,L,I,af⟩:=o.out.box
  go_wp2_with fail
  refine (zcX C M D z (.ok q) S q (-1) d ⟨2,0,nm,sNone,0,0⟩ _ (zab q) H.out (fun _=>hp)).mono ?_
  rintro e w2 ⟨S2,q2,z2,rfl,i2,Z,N⟩
  replace o:=zc (o.out.stp N)
  replace j:=zc (j.out.stp N)
  have Q:=zc (J.out.step N)
  clear J
  have O:=zc Z
  have V:=zc i2
  clear i2 Z N H
  clear a0 a1 a2 a3 a4 a5 a6 a7 a8 Y L I af
  obtain⟨b0,b1,b2,b3,b4,b5,b6,b7,b8,b9,ad,ai,bf⟩:=j.out.box
  unfold pv
  go_wp2
  refine bodyPost_ret (results_cell_row rfl _ _ (w.heap.size+1) 55 _ (0,0) _ rfl ((j.out.put ..)).heap Tryz.underlying55 rfl (by kernel_rfl)) rfl ?_
  rw[HV.out]
  exact zac rfl V.out (O.out.put j.out ..) (Q.out.put (by omega) ..)
theorem zu1 {C:Cx} {j:Bool} {l:List Ep} {Y:PRN} {J D:ByteArray} {Q K H:PS} {U N L:Int} (O:Is2 Y Q U J) (z:Is2 (bd Y (asP C j)) K N D) (E:(decide (N<0)&&isT C K.pos 4 zbv)=false) (o:Is (bd (za7 (bd Y (asP C j))) (zd C 4 zaJ)) H L):
  Is3 (bd Y fun a=>bd (asP C j a) fun b=>if isT C b.1.pos 4 zbv then zay C j (adv b.1) (l++[⟨0,b.2,a.2,sNone⟩]) else bd (zd C 4 zaJ b.1) fun q'=>.ok (q',l++[⟨0,b.2,a.2,sNone⟩])) H L (l++[⟨0,D,J,sNone⟩]):=by
 cases Y with
 |error e=>exact o
 |ok a=>
  obtain⟨_,_,rfl⟩:=O
  rw[zh] at z o ⊢
  cases I:asP C j a with
  |error e=>rw[I] at o;exact o
  |ok b=>
   rw[I] at z o
   obtain⟨rfl,rfl,rfl⟩:=z
   rw[Bool.and_eq_false_iff] at E
   rw[zh,E.resolve_left (by decide)]
   have e:bd (za7 (.ok b)) (zd C 4 zaJ)=zd C 4 zaJ b.1:=rfl
   rw[e] at o
   show Is3 (bd (zd C 4 zaJ b.1) _) _ _ _
   cases M:zd C 4 zaJ b.1 with
   |error e=>rw[M] at o;exact o
   |ok c=>rw[M] at o;exact⟨o.1,o.2,rfl⟩
theorem zu2 {C:Cx} {j:Bool} {l:List Ep} {z N D:PS} {L K:ByteArray} {O E:Int} (H:Is2 (bd (.ok z) (zk C true)) N O L) (o:Is2 (bd (bd (.ok z) (zk C true)) (asP C j)) D E K) (Q:E<0) (M:isT C D.pos 4 zbv=true):
  (bd (.ok z) fun q=>zay C j q l)=(bd (.ok (adv D)) fun q=>zay C j q (l++[⟨0,K,L,sNone⟩]))∧z.pos+1≤D.pos:=by
 rw[zh] at H o ⊢
 rw[zh,zeM]
 cases J:zk C true z with
 |error e=>rw[J] at o;have:E=(e:Int):=o;omega
 |ok a=>
  rw[J] at H o
  obtain⟨_,_,rfl⟩:=H
  rw[zh] at o ⊢
  obtain⟨rfl,_⟩:=zaX J
  cases I:asP C j (adv z,(zf C z.pos).text) with
  |error e=>rw[I] at o;have:E=(e:Int):=o;omega
  |ok b=>
   rw[I] at o
   obtain⟨rfl,rfl,rfl⟩:=o
   have:=zf6 I
   rw[zh,M]
   exact⟨rfl,this⟩
theorem zu3 {C:Cx} {j:Bool} {x:PR} {q o:PS} {z D:Int} {l:List Ep} (H:Is x q z) (E: ¬z<0) (I:Is (bd x (zd C 4 zaJ)) o D):Is3 (bd x fun q=>zay C j q l) o D l:=by
 obtain⟨e,rfl,_⟩:=zd2 H E
 exact I
theorem zu4 {C:Cx} {j:Bool} {Y:PRN} {o E:PS} {z D:Int} {L J:ByteArray} (H:Is2 Y o z L) (I:(decide (z<0)&&isT C o.pos 1 sAs)=true) (K:Is2 (bd (.ok (adv o)) (zk C j)) E D J):Is2 (bd Y (asP C j)) E D J:=by
 rw[Bool.and_eq_true,decide_eq_true_eq] at I
 cases Y with
 |error e=>have:z=(e:Int):=H;omega
 |ok a=>
  obtain⟨rfl,_,_⟩:=H
  rw[zh,asP,if_pos I.2]
  exact K
theorem zu5 {C:Cx} {z:Bool} {Y:PRN} {j:PS} {o:Int} {D:ByteArray} (E:Is2 Y j o D) (H:(decide (o<0)&&isT C j.pos 1 sAs)=false) (hd:((D.toList==[100,101,102,97,117,108,116])&& !exp)=true):Is2 (bd Y (asP C z)) j (zbC C j.pos o) D:=by
 cases Y with
 |error e=>
  have h:o=(e:Int):=E
  show zbC C j.pos o=(e:Int)
  rw[zbC,if_neg (by omega)]
  exact h
 |ok a=>
  obtain⟨rfl,rfl,rfl⟩:=E
  rw[Bool.and_eq_false_iff] at H
  rw[zh,asP,H.resolve_left (by decide),hd]
  rfl
theorem zm1 {C:Cx} {j:Bool} {Y:PRN} {o:PS} {D:Int} {z:ByteArray} (E:Is2 Y o D z) (H:(decide (D<0)&&isT C o.pos 1 sAs)=false) (hd:((z.toList==[100,101,102,97,117,108,116])&& !exp)=false):Is2 (bd Y (asP C j)) o D z:=by
 cases Y with
 |error e=>exact E
 |ok a=>
  obtain⟨rfl,rfl,rfl⟩:=E
  rw[Bool.and_eq_false_iff] at H
  rw[zh,asP,H.resolve_left (by decide),hd]
  exact⟨rfl,rfl,rfl⟩
theorem zm2 (C:Cx) (M L D:Nat) (S:Sv) (q:PS) (d:Nat) (ai:Bool) (w:World) (hm:Mem C M L D S q w):
  Calls Tryz.prog 96 #[pv C M L S q (-1) d,.bool ai] w (zuz C M L D (zbB C ai q) d S w):=by
 obtain⟨i0,hi,aY,aW,aQ⟩:=info_parts Tryz.infoExp
 have HM:=zc hm
 have aj:=hm.few
 clear hm
 unfold pv
 go_enter Tryz.func96,Tryz.ntmps96
 go_wp2_with fail
 refine (zah C M L D (.ok q) S q (-1) d zF _ (zab q) (((HM.out.alloc _).alloc _).alloc _)).mono ?_
 rintro e w1 ⟨S1,q1,z1,rfl,i1,m1,s1⟩
 obtain⟨X0,X1,R0,t1⟩:=HM.out.list3 s1
 have j:=zc X0
 have z:=zc X1
 have E:=zc R0
 have aU:=zc t1
 have aL:=zc m1
 have aN:=zc i1
 clear i1 m1 s1 X0 X1 R0 t1
 obtain⟨a0,a1,Y,a3,a4,a5,a6,a7,a8,X,I,H,Z⟩:=j.out.box
 unfold pv
 go_wp2
 go_loopg [7,8] (C.ts.length+1) (fun k o an wr=>∃(x':PR) (S':Sv) (q':PS) (z':Int) (r:Rw) (l:List Ep),Is x' q' z'∧bd x' (fun q=>zay C ai q l)=zbB C ai q∧(z'<0→C.ts.length-q'.pos<k)∧(l.length≤q'.pos∨l=[])∧o= .slice r.a l.length r.cap∧an= .bool (za2 l)∧Mem C M L D S' q' wr∧SB w.heap.size S w S' wr∧Bx M S' wr w.heap.size #[.slice (some ⟨M,0,none⟩) C.ts.length L,.int .i64 q'.pos,.int .i64 C.fin,.bool C.scr,.slice S'.rq.a q'.rq.length S'.rq.cap,.slice S'.im.a q'.im.length S'.im.cap,.slice S'.ep.a q'.ep.length S'.ep.cap,.slice S'.st.a q'.st.length S'.st.cap,.slice S'.ex.a q'.ex.length S'.ex.cap,.slice S'.la.a q'.la.length S'.la.cap,.int .i64 z',.int .i64 d]∧Bx M S' wr (w.heap.size+1) #[.slice none 0 0,.int .i64 0,.int .i64 0,.bool false,.slice none 0 0,.slice none 0 0,.slice none 0 0,.slice none 0 0,.slice none 0 0,.slice none 0 0,.int .i64 0,.int .i64 0]∧Row S' wr D w.heap.size r l)
 case atStart=>exact⟨_,S1,q1,z1,_,[],aN.out,rfl,fun _=>by omega,.inr rfl,rfl,rfl,(aL.out.put j.out ..),(aU.out.put (by omega) ..),(j.out.put ..),(z.out.other (by omega) ..),(E.out.put j.out ..)⟩
 case round=>
  obtain⟨x2,S2,q2,z2,r,l,i2,e2,l2,n2,rfl,rfl,m2,t2,X0,X1,R0⟩:=hrel
  have j:=zc X0
  have z:=zc X1
  have ao:=zc m2
  have aq:=zc t2
  have aw:=zc i2
  have ay:=zc e2
  have aI:=zc l2
  have E:=zc R0
  have be:l.length≤4000:=n2.elim (fun g=>by have:=m2.inv.pos;omega) (fun g=>by rw[g];simp)
  have aX:=zc n2
  clear X0 X1 i2 m2 t2 e2 l2 R0 n2
  by_cases hz:z2<0
  ·skip
   obtain⟨rfl,rfl⟩:=zaF aw.out hz
   have bi:=aI.out hz
   obtain⟨a0,a1,Y,a3,a4,a5,a6,a7,a8,X,I,H,Z⟩:=j.out.box
   go_wp2_with fail
   refine (zbz C M L D (.ok q2) S2 q2 (-1) d true _ (zab q2) ao.out).mono ?_
   rintro e w3 ⟨V,q3,z3,n3,rfl,i3,m3,s3⟩
   replace j:=zc (j.out.stp s3)
   replace z:=zc (z.out.stp s3)
   have am:=zc (aq.out.step s3)
   have K:Hid (Row V w3 D w.heap.size r l):=E.out.stp s3
   clear E
   have E:=zc K
   clear K
   clear aq
   have al:=zc m3
   have ab:=zc i3
   clear i3 m3 s3 ao
   clear a0 a1 Y a3 a4 a5 a6 a7 a8 X I H Z
   have ba:w.heap.size+1<w3.heap.size:=z.out.lt
   unfold pv
   go_upto_region 6 with fail
   refine zQ (R:=fun W=>Bx M V W (w.heap.size) _∧Bx M V W (w.heap.size+1) _∧Bx M V W (w3.heap.size) _∧Row V W D w.heap.size r l∧Mem C M L D V q3 W∧SB w.heap.size S w V W) ⟨(j.out.alloc _),(z.out.alloc _),(Bx.new al.out _),(E.out.alloc _),(al.out.alloc _),(am.out.alloc _)⟩ ?_
   clear j z am al
   clear E
   rintro w4 ⟨X0,X1,X2,R0,m4,t4⟩
   have E:=zc R0
   clear R0
   have j:=zc X0
   have z:=zc X1
   have N:=zc X2
   have aA:=zc m4
   have aC:=zc t4
   clear m4 t4 X0 X1 X2
   obtain⟨a0,a1,Y,a3,a4,a5,a6,a7,a8,X,I,H,Z⟩:=j.out.box
   obtain⟨c0,c1,c2,c3,c4,c5,c6,c7,c8,c9,aV,aH,cf⟩:=N.out.box
   go_upto_region 7 with fail
   refine zQ (R:=fun W=>Bx M V W (w.heap.size) _∧Bx M V W (w.heap.size+1) _∧Bx M V W (w3.heap.size) _∧Row V W D w.heap.size r l∧Mem C M L D V q3 W∧SB w.heap.size S w V W) ⟨(j.out.put ..),(z.out.other (by omega) ..),(N.out.other (by omega) ..),(E.out.put j.out ..),(aA.out.put j.out ..),(aC.out.put (by omega) ..)⟩ ?_
   clear a0 a1 Y a3 a4 a5 a6 a7 a8 X I H Z c0 c1 c2 c3 c4 c5 c6 c7 c8 c9 aV aH cf
   clear j z N aC aA
   clear E
   rintro w5 ⟨X0,X1,X2,R0,m5,t5⟩
   have E:=zc R0
   clear R0
   have j:=zc X0
   have z:=zc X1
   have N:=zc X2
   have ag:=zc m5
   have ak:=zc t5
   clear m5 t5 X0 X1 X2
   skip
   obtain⟨a0,a1,Y,a3,a4,a5,a6,a7,a8,X,I,H,Z⟩:=j.out.box
   skip
   go_wp2_with fail
   refine (zj C M L D V q3 z3 d 1 sAs _ ag.out.tok aj (by decide)).mono ?_
   rintro e w6 ⟨rfl,ah⟩
   replace j:=zc (j.out.below ah)
   replace z:=zc (z.out.below ah)
   replace N:=zc (N.out.below ah)
   have U:=zc (ak.out.below ah)
   have O:=zc (ag.out.later ah)
   have K:Hid (Row V w6 D w.heap.size r l):=E.out.below ah
   clear E
   have E:=zc K
   clear K
   clear ah ak ag
   clear a0 a1 Y a3 a4 a5 a6 a7 a8 X I H Z
   go_upto_if 28 with fail
   go_cut [11] (fun aT wx=>∃(Q:Sv) (q5:PS) (z5:Int) (n5:ByteArray),aT= .string n5∧Is2 (bd (bd (.ok q2) (zk C true)) (asP C ai)) q5 z5 n5∧Mem C M L D Q q5 wx∧SB w.heap.size S w Q wx∧Bx M Q wx w.heap.size #[.slice (some ⟨M,0,none⟩) C.ts.length L,.int .i64 q5.pos,.int .i64 C.fin,.bool C.scr,.slice Q.rq.a q5.rq.length Q.rq.cap,.slice Q.im.a q5.im.length Q.im.cap,.slice Q.ep.a q5.ep.length Q.ep.cap,.slice Q.st.a q5.st.length Q.st.cap,.slice Q.ex.a q5.ex.length Q.ex.cap,.slice Q.la.a q5.la.length Q.la.cap,.int .i64 z5,.int .i64 d]∧Bx M Q wx (w.heap.size+1) #[.slice none 0 0,.int .i64 0,.int .i64 0,.bool false,.slice none 0 0,.slice none 0 0,.slice none 0 0,.slice none 0 0,.slice none 0 0,.slice none 0 0,.int .i64 0,.int .i64 0]∧Row Q wx D w.heap.size r l)
   case first=>
    cases hb:(decide (z3<0)&&isT C q3.pos 1 sAs) with
    |true=>
     have aM:q3.pos<C.ts.length:=by rw[Bool.and_eq_true] at hb;exact za1 hb.2 (by decide)
     obtain⟨a0,a1,Y,a3,a4,a5,a6,a7,a8,X,I,H,Z⟩:=j.out.box
     have aR:z3= -1:=by rw[Bool.and_eq_true,decide_eq_true_eq] at hb;exact (zaF ab.out.fst hb.1).2
     subst aR
     go_wp2_with fail
     refine (zbz C M L D (.ok (adv q3)) V (adv q3) (-1) d ai _ (zab _) ((O.out.adv aM).set j.out 1 _)).mono ?_
     rintro e w7 ⟨S7,q7,z7,n7,rfl,i7,m7,s7⟩
     have ae:Hid (Bx M S7 w7 _ _):=(j.out.at1 _).stp s7
     have ad:Hid (Bx M S7 w7 _ _):=(z.out.set_other (by omega) 1 _).stp s7
     have ar:Hid (Bx M S7 w7 _ _):=(N.out.set_other (by omega) 1 _).stp s7
     have ac:Hid (SB w.heap.size S w S7 w7):=(U.out.set (by omega) 1 _).step s7
     replace E:=zc ((E.out.set j.out 1 _).stp s7)
     clear j z N U
     have j:=zc ae
     have z:=zc ad
     have N:=zc ar
     clear ae ad ar
     have aa:=zc m7
     have aS:=zc i7
     clear i7 m7 s7 O
     clear a0 a1 Y a3 a4 a5 a6 a7 a8 X I H Z
     have bb:w.heap.size+1<w7.heap.size:=z.out.lt
     have aE:w3.heap.size<w7.heap.size:=N.out.lt
     unfold pv
     go_upto_region 11 with fail
     refine zQ (R:=fun W=>Bx M S7 W (w.heap.size) _∧Bx M S7 W (w.heap.size+1) _∧Bx M S7 W (w3.heap.size) _∧Bx M S7 W (w7.heap.size) _∧Row S7 W D w.heap.size r l∧Mem C M L D S7 q7 W∧SB w.heap.size S w S7 W) ⟨(j.out.alloc _),(z.out.alloc _),(N.out.alloc _),(Bx.new aa.out _),(E.out.alloc _),(aa.out.alloc _),(ac.out.alloc _)⟩ ?_
     clear j z N ac aa
     clear E
     rintro w8 ⟨X0,X1,X2,X3,R0,m8,t8⟩
     have E:=zc R0
     clear R0
     have j:=zc X0
     have z:=zc X1
     have N:=zc X2
     have aJ:=zc X3
     have ax:=zc m8
     have av:=zc t8
     clear m8 t8 X0 X1 X2 X3
     obtain⟨a0,a1,Y,a3,a4,a5,a6,a7,a8,X,I,H,Z⟩:=j.out.box
     obtain⟨d0,d1,d2,d3,d4,d5,d6,d7,d8,d9,bg,bc,df⟩:=aJ.out.box
     go_wp2
     go_meet
     case rel=>exact⟨S7,q7,z7,n7,rfl,zu4 ab.out hb aS.out,(ax.out.put j.out ..),(av.out.put (by omega) ..),(j.out.put ..),(z.out.other (by omega) ..),(E.out.put j.out ..)⟩
    |false=>
     cases e3:(n3.toList==[100,101,102,97,117,108,116]) with
     |true=>
      cases ai with
      |false=>
       obtain⟨a0,a1,Y,a3,a4,a5,a6,a7,a8,X,I,H,Z⟩:=j.out.box
       go_wp2_with fail
       refine (zd0 C M L D V q3 z3 d _ O.out.tok aj).mono ?_
       rintro e w7 ⟨rfl,J⟩
       replace j:=zc (j.out.below J)
       replace z:=zc (z.out.below J)
       replace N:=zc (N.out.below J)
       have ac:=zc (U.out.below J)
       have aa:=zc (O.out.later J)
       have K:Hid (Row V w7 D w.heap.size r l):=E.out.below J
       clear E
       have E:=zc K
       clear K
       clear J U O
       clear a0 a1 Y a3 a4 a5 a6 a7 a8 X I H Z
       obtain⟨a0,a1,Y,a3,a4,a5,a6,a7,a8,X,I,H,Z⟩:=j.out.box
       unfold pv
       go_wp2
       go_meet
       case rel=>exact⟨V,q3,(zbC C q3.pos z3),n3,rfl,zu5 ab.out hb (by rw[e3];rfl),(aa.out.put j.out ..),(ac.out.put (by omega) ..),(j.out.put ..),(z.out.other (by omega) ..),(E.out.put j.out ..)⟩
      |true=>
       obtain⟨a0,a1,Y,a3,a4,a5,a6,a7,a8,X,I,H,Z⟩:=j.out.box
       go_wp2
       go_meet
       case rel=>exact⟨V,q3,z3,n3,rfl,zm1 ab.out hb (by rw[e3];rfl),O.out,U.out,j.out,z.out,E.out⟩
     |false=>
      obtain⟨a0,a1,Y,a3,a4,a5,a6,a7,a8,X,I,H,Z⟩:=j.out.box
      go_wp2
      go_meet
      case rel=>exact⟨V,q3,z3,n3,rfl,zm1 ab.out hb (by rw[e3];rfl),O.out,U.out,j.out,z.out,E.out⟩
   case rest=>
    obtain⟨Q,q5,z5,n5,rfl,i5,m5,t5,X0,X1,R0⟩:=hcut
    clear j z N E O U
    have j:=zc X0
    have z:=zc X1
    have ag:=zc m5
    have ak:=zc t5
    have ap:=zc i5
    have E:=zc R0
    clear X0 X1 i5 m5 t5 R0
    go_upto_region 15 with fail
    go_cut [8] (fun s8 wx=>s8= .bool (za2 l||(n3.toList==[100,101,102,97,117,108,116]))∧wx=wc)
    case first=>
     cases ha:za2 l with
     |true=>
      go_wp2
      go_meet
      case rel=>exact⟨by rw[ha];rfl,rfl⟩
     |false=>
      cases e3:(n3.toList==[100,101,102,97,117,108,116]) with
      |true=>
       go_wp2
       go_meet
       case rel=>exact⟨by rw[ha,e3];rfl,rfl⟩
      |false=>
       go_wp2
       go_meet
       case rel=>exact⟨by rw[ha,e3];rfl,rfl⟩
    case rest=>
     obtain⟨rfl,rfl⟩:=hcut
     have au:=fun o=>E.out.own.alloc o
     have aO:=ag.out.base
     go_wp2_with (at_builtin;refine zcC _ rfl _ _ 28 rfl D 77 i0 _ 4 56 Tryz.underlying28 hi aY aW aQ rfl (by decide) (by decide) r l.length _ (by rfl) (au _) wc.heap.size (epL ⟨0,n5,n3,sNone⟩) (by rfl) (by exact heap_alloc_new wc _) rfl (by intro u hu;simp[epL] at hu;rcases hu with rfl|rfl|rfl|rfl<;>rfl) (by omega) (by rw[zW];omega) ?_)
     intro r' w6 hr hg aD
     obtain⟨R6,m6⟩:=(E.out.alloc _).grow (x:=⟨0,n5,n3,sNone⟩) (ag.out.alloc _) (by rw[zW];have:=ak.out.size;omega) hg hr (by rw[zW];exact aD)
     have ae:Hid (Bx M Q w6 _ _):=(E.out.alloc _).bx (j.out.alloc _) hg
     have ad:Hid (Bx M Q w6 _ _):=(E.out.alloc _).bx (z.out.alloc _) hg
     have U:Hid (SB w.heap.size S w Q w6):=(E.out.alloc _).sb (ak.out.alloc _) hg
     have O:=zc m6
     clear j z E hr hg aD au aO ag ak m6
     have j:=zc ae
     have z:=zc ad
     have E:=zc R6
     clear ae ad R6
     cases hc:(decide (z5<0)&&isT C q5.pos 4 zbv) with
     |true=>
      obtain⟨a0,a1,Y,a3,a4,a5,a6,a7,a8,X,I,H,Z⟩:=j.out.box
      go_wp2_with fail
      refine (zj C M L D Q q5 z5 d 4 zbv _ O.out.tok aj (by decide)).mono ?_
      rintro e w7 ⟨rfl,J⟩
      rw[hc]
      replace j:=zc (j.out.below J)
      replace z:=zc (z.out.below J)
      have ac:=zc (U.out.below J)
      have aa:=zc (O.out.later J)
      have K:Hid (Row Q w7 D w.heap.size r' (l++[⟨0,n5,n3,sNone⟩])):=E.out.below J
      clear E
      have E:=zc K
      clear K
      clear J U O
      clear a0 a1 Y a3 a4 a5 a6 a7 a8 X I H Z
      rw[Bool.and_eq_true,decide_eq_true_eq] at hc
      obtain⟨aB,az⟩:=hc
      have aF:q5.pos<C.ts.length:=za1 az (by decide)
      obtain⟨E5,P5⟩:=zu2 (l:=l) ab.out ap.out aB az
      have HE:=zc E5
      obtain rfl:z5= -1:=(zaF ap.out.fst aB).2
      have aP:Hid ((l++[(⟨0,n5,n3,sNone⟩:Ep)]).length≤q5.pos+1∨l++[(⟨0,n5,n3,sNone⟩:Ep)]=[]):=.inl (by simp only[List.length_append,List.length_singleton];exact aX.out.elim (fun g=>by omega) (fun g=>by rw[g];simp))
      clear E5
      obtain⟨a0,a1,Y,a3,a4,a5,a6,a7,a8,X,I,H,Z⟩:=j.out.box
      go_wp2
      go_roundg (gk-1)
      case rel=>exact⟨.ok (adv q5),Q,adv q5,-1,r',l++[⟨0,n5,n3,sNone⟩],zab _,by rw[←ay.out];exact HE.out.symm,fun _=>by rw[zz];omega,aP.out,by simp,by rw[zmz],((aa.out.adv aF).set j.out 1 _),(ac.out.set (by omega) 1 _),(j.out.at1 _),(z.out.set_other (by omega) 1 _),(E.out.set j.out 1 _)⟩
      case measure=>omega
     |false=>
      obtain⟨a0,a1,Y,a3,a4,a5,a6,a7,a8,X,I,H,Z⟩:=j.out.box
      go_wp2_with fail
      refine (zj C M L D Q q5 z5 d 4 zbv _ O.out.tok aj (by decide)).mono ?_
      rintro e w7 ⟨rfl,J⟩
      rw[hc]
      replace j:=zc (j.out.below J)
      replace z:=zc (z.out.below J)
      have ac:=zc (U.out.below J)
      have aa:=zc (O.out.later J)
      have K:Hid (Row Q w7 D w.heap.size r' (l++[⟨0,n5,n3,sNone⟩])):=E.out.below J
      clear E
      have E:=zc K
      clear K
      clear J U O
      clear a0 a1 Y a3 a4 a5 a6 a7 a8 X I H Z
      obtain⟨a0,a1,Y,a3,a4,a5,a6,a7,a8,X,I,H,Z⟩:=j.out.box
      go_wp2_with fail
      refine (zah C M L D _ Q q5 z5 d zaJ _ ap.out.fst aa.out).mono ?_
      rintro e w8 ⟨S8,q8,z8,rfl,i8,m8,s8⟩
      replace j:=zc (j.out.stp s8)
      replace z:=zc (z.out.stp s8)
      have av:=zc (ac.out.step s8)
      have K:Hid (Row S8 w8 D w.heap.size r' (l++[⟨0,n5,n3,sNone⟩])):=E.out.stp s8
      clear E
      have E:=zc K
      clear K
      clear ac
      have ax:=zc m8
      have aK:=zc i8
      clear i8 m8 s8 aa
      clear a0 a1 Y a3 a4 a5 a6 a7 a8 X I H Z
      obtain⟨b0,b1,b2,b3,b4,b5,b6,b7,b8,b9,aG,aZ,bf⟩:=z.out.box
      unfold pv
      go_wp2
      refine bodyPost_ret (zm0 rfl _ _ (w.heap.size+1) 55 _ (0,0) _ rfl ((z.out.put ..)).heap Tryz.underlying55 rfl (by kernel_rfl)) rfl ?_
      exact⟨S8,q8,z8,r',l++[⟨0,n5,n3,sNone⟩],by simp[pv,zmz],by rw[←ay.out,zh,zeM];exact zu1 ab.out ap.out hc aK.out,(ax.out.put z.out ..),((av.out.put (by omega) ..)).done,(E.out.put z.out ..),by simp;omega⟩
  ·skip
   obtain⟨a0,a1,Y,a3,a4,a5,a6,a7,a8,X,I,H,Z⟩:=j.out.box
   go_wp2_with fail
   refine (zah C M L D _ S2 q2 z2 d zaJ _ aw.out ao.out).mono ?_
   rintro e w3 ⟨V,q3,z3,rfl,i3,m3,s3⟩
   replace j:=zc (j.out.stp s3)
   replace z:=zc (z.out.stp s3)
   have am:=zc (aq.out.step s3)
   have K:Hid (Row V w3 D w.heap.size r l):=E.out.stp s3
   clear E
   have E:=zc K
   clear K
   clear aq
   have al:=zc m3
   have ab:=zc i3
   clear i3 m3 s3 ao
   clear a0 a1 Y a3 a4 a5 a6 a7 a8 X I H Z
   obtain⟨b0,b1,b2,b3,b4,b5,b6,b7,b8,b9,aG,aZ,bf⟩:=z.out.box
   unfold pv
   go_wp2
   refine bodyPost_ret (zm0 rfl _ _ (w.heap.size+1) 55 _ (0,0) _ rfl ((z.out.put ..)).heap Tryz.underlying55 rfl (by kernel_rfl)) rfl ?_
   exact⟨V,q3,z3,r,l,rfl,by rw[←ay.out];exact zu3 aw.out (by omega) ab.out,(al.out.put z.out ..),((am.out.put (by omega) ..)).done,(E.out.put z.out ..),by omega⟩
def SumOK (C:Cx) (gt cap base m:Nat):Prop:=∀(x:PR) (S:Sv) (q:PS) (z:Int) (d:Nat) (w:World),Is x q z→Mem C gt cap base S q w→(z<0→C.ts.length-q.pos<m)→d≤20→
 Calls Tryz.prog 53 #[pv C gt cap S q z d] w (Out C gt cap base (bd x (pE C .sum d)) d S w)
theorem zhr {C:Cx} {o:Bool} {q q1:PS} {j:Int} {z:ByteArray} (h:Is2 (bd (.ok q) (zk C o)) q1 j z) (D:plainB C q.pos o=true):q1=adv q∧j= -1∧z=(zf C q.pos).text:=by
 rw[zh,zk,if_pos D] at h
 exact h
theorem zhs {C:Cx} {o:Bool} {q q1:PS} {j:Int} {D:ByteArray} (h:Is2 (bd (.ok q) (zk C o)) q1 j D) (z:plainB C q.pos o=false):j=(zu C q.pos:Int):=by
 rw[zh,zk,z] at h
 exact h
theorem zm3 {C:Cx} {n:ByteArray} {y:Except Nat (PS×ByteArray)} {q:PS} {z:Int} {f:ByteArray} (h:Is2 y q z f) (j:(decide (z<0)&&isT C q.pos 4 cOpen)=true):bd (bd (bd (za7 y) (zd C 4 cOpen)) (zd C 4 zU)) (zJ C ⟨5,0,n,f,0,0⟩)=bd y fun a=>za5 C n a.2 a.1:=by
 rw[Bool.and_eq_true,decide_eq_true_eq] at j
 cases y with
 |ok a=>
  obtain⟨rfl,_,rfl⟩:=h
  show _=za5 C n a.2 a.1
  rw[za5,if_pos j.2]
  rfl
 |error e=>rfl
theorem zm4 {C:Cx} {n:ByteArray} {y:Except Nat (PS×ByteArray)} {q:PS} {z:Int} {f:ByteArray} (h:Is2 y q z f) (j:(decide (z<0)&&isT C q.pos 4 cOpen)=false):bd (za7 y) (zJ C ⟨4,0,n,f,0,0⟩)=bd y fun a=>za5 C n a.2 a.1:=by
 cases y with
 |ok a=>
  obtain⟨rfl,rfl,rfl⟩:=h
  rw[Bool.and_eq_false_iff] at j
  show _=za5 C n a.2 a.1
  rw[za5,j.resolve_left (by decide)]
  rfl
 |error e=>rfl
theorem zm5 {C:Cx} {o:Bool} {x:PR} {q:PS} {z:Int} {n:ByteArray} (h:Is2 (bd x (zk C o)) q z n):z<0→1≤q.pos:=by
 intro E
 cases j:bd x (zk C o) with
 |error e=>rw[j] at h;have:z=(e:Int):=h;omega
 |ok a=>
  rw[j] at h
  obtain⟨rfl,_,_⟩:=h
  obtain⟨b,_,D⟩:=ze j
  obtain⟨rfl,_⟩:=zaX D
  simp[adv]
theorem zu6 (C:Cx) (J o j:Nat) (S:Sv) (q:PS) (d:Nat) (w:World) (E:Mem C J o j S q w) (O:((zf C q.pos).kind==2)=true):
  Calls Tryz.prog 128 #[pv C J o S q (-1) d] w (Out C J o j (pE C .part d q) d S w):=by
 have HM:=zc E
 have z:=E.tok
 have aa:C.ts.length≤4000:=E.few
 have Z:=(zan E.tok).1
 clear E
 have hp:q.pos<C.ts.length:=zeJ O (by decide)
 have HV:Hid (pE C .part d q=bd (.ok (adv q)) (zJ C ⟨1,(zf C q.pos).num,sNone,sNone,0,0⟩)):=by show pE C .part d q=_;rw[zby,if_pos O];rfl
 obtain⟨c0,_,V,_⟩:=z.cells hp (d:=⟨0,sNone,0,C.fin⟩)
 change _=some (Value.int .i64 (zf C q.pos).kind) at c0
 change _=some (Value.int .i64 (zf C q.pos).num) at V
 have I:Hid (Mem C J o j S (adv q) w):=HM.out.adv hp
 generalize (zf C q.pos).kind=kd at c0 O
 have HN:Hid (∀n,n=(zf C q.pos).num→pE C .part d q=bd (.ok (adv q)) (zJ C ⟨1,n,sNone,sNone,0,0⟩)):=fun n e=>by rw[e];exact HV.out
 generalize H:(zf C q.pos).num=nm at V
 have L:Hid (nm=(zf C q.pos).num):=H.symm
 clear H HV z
 unfold pv
 go_enter Tryz.func128,Tryz.ntmps128
 go_wp2_with fail
 refine (zcX C J o j (.ok (adv q)) S (adv q) (-1) d ⟨1,nm,sNone,sNone,0,0⟩ _ (zab _) ((I.out.alloc _).alloc _) (fun _=>by simp[adv])).mono ?_
 rintro e w1 ⟨S1,q1,z1,rfl,i1,Y,U⟩
 obtain⟨X0,Q,X⟩:=I.out.two2 U
 have D:=zc Q
 have K:=zc Y
 have M:=zc X
 have N:=zc i1
 clear X0 Q i1 Y X U
 obtain⟨b0,b1,b2,b3,b4,b5,b6,b7,b8,b9,ab,ac,bf⟩:=D.out.box
 unfold pv
 go_wp2
 refine bodyPost_ret (results_cell_row rfl _ _ (w.heap.size+1) 55 _ (0,0) _ rfl ((D.out.put ..)).heap Tryz.underlying55 rfl (by kernel_rfl)) rfl ?_
 rw[HN.out nm L.out]
 exact zac rfl N.out (K.out.put D.out ..) (M.out.put (by omega) ..)
theorem zu7 (C:Cx) (N D j:Nat) (S:Sv) (q:PS) (d:Nat) (w:World) (K:Mem C N D j S q w) (hk:((zf C q.pos).kind==2)=false) (Q:isT C q.pos 4 cOpen=true) (hd:20≤d) (ac:d≤20):
  Calls Tryz.prog 128 #[pv C N D S q (-1) d] w (Out C N D j (pE C .part d q) d S w):=by
 have HM:=zc K
 have E:=K.tok
 have H:C.ts.length≤4000:=K.few
 have aa:=(zan K.tok).1
 clear K
 have hp:q.pos<C.ts.length:=za1 Q (by decide)
 have HV:Hid (pE C .part d q= .error (zu C q.pos)):=by show pE C .part d q=_;rw[zby,hk,Q];simp[hd]
 have qd:decide ((20:Int)≤(d:Int))=true:=decide_eq_true (by omega)
 obtain⟨c0,_,_,_⟩:=E.cells hp (d:=⟨0,sNone,0,C.fin⟩)
 change _=some (Value.int .i64 (zf C q.pos).kind) at c0
 generalize (zf C q.pos).kind=kd at c0 hk
 unfold pv
 go_enter Tryz.func128,Tryz.ntmps128
 go_wp2_with fail
 refine (zj C N D j S q (-1) d 4 cOpen _ (zv (zv E _) _) H (by decide)).mono ?_
 rintro e w1 ⟨rfl,M⟩
 rw[Q]
 obtain⟨Z,Y,m1,t1⟩:=HM.out.two M
 have J:=zc Z
 have o:=zc Y
 have I:=zc m1
 have L:=zc t1
 clear Z Y m1 t1 M
 obtain⟨a0,a1,a2,a3,a4,a5,a6,a7,a8,a9,X,U,af⟩:=J.out.box
 go_wp2_with fail
 refine (zd0 C N D j S q (-1) d _ I.out.tok H).mono ?_
 rintro e w2 ⟨rfl,z⟩
 replace J:=zc (J.out.below z)
 replace o:=zc (o.out.below z)
 have O:=zc (L.out.below z)
 have V:=zc (I.out.later z)
 clear z L I
 clear a0 a1 a2 a3 a4 a5 a6 a7 a8 a9 X U af
 obtain⟨b0,b1,b2,b3,b4,b5,b6,b7,b8,b9,ab,ad,bf⟩:=o.out.box
 unfold pv
 go_wp2
 refine bodyPost_ret (results_cell_row rfl _ _ (w.heap.size+1) 55 _ (0,0) _ rfl ((o.out.put ..)).heap Tryz.underlying55 rfl (by kernel_rfl)) rfl ?_
 rw[HV.out]
 exact zac rfl (show Is (.error (zu C q.pos)) q _ from rfl) (V.out.put o.out ..) (O.out.put (by omega) ..)
theorem zu8 (C:Cx) (I E z:Nat) (S:Sv) (q:PS) (d:Nat) (w:World) (L:Mem C I E z S q w) (hk:((zf C q.pos).kind==2)=false) (ho:isT C q.pos 4 cOpen=true) (hd:d<20) (hS:SumOK C I E z (C.ts.length-q.pos)):
  Calls Tryz.prog 128 #[pv C I E S q (-1) d] w (Out C I E z (pE C .part d q) d S w):=by
 have HM:=zc L
 have K:=L.tok
 have Q:C.ts.length≤4000:=L.few
 have ag:=(zan L.tok).1
 clear L
 have hp:q.pos<C.ts.length:=za1 ho (by decide)
 have HV:Hid (pE C .part d q=bd (bd (.ok (adv q)) (pE C .sum (d+1))) (zd C 4 zU)):=by show pE C .part d q=_;rw[zby,hk,ho,if_neg (by decide),if_pos rfl,if_neg (by omega)];rfl
 have HS:=zc hS
 clear hS
 have qd:decide ((20:Int)≤(d:Int))=false:=decide_eq_false (by omega)
 obtain⟨c0,_,_,_⟩:=K.cells hp (d:=⟨0,sNone,0,C.fin⟩)
 change _=some (Value.int .i64 (zf C q.pos).kind) at c0
 generalize (zf C q.pos).kind=kd at c0 hk
 unfold pv
 go_enter Tryz.func128,Tryz.ntmps128
 go_wp2_with fail
 refine (zj C I E z S q (-1) d 4 cOpen _ (zv (zv K _) _) Q (by decide)).mono ?_
 rintro e w1 ⟨rfl,Y⟩
 rw[ho]
 obtain⟨O,U,m1,t1⟩:=HM.out.two Y
 have j:=zc O
 have o:=zc U
 have N:=zc m1
 have V:=zc t1
 clear O U m1 t1 Y
 obtain⟨a0,a1,a2,a3,a4,a5,a6,a7,a8,a9,J,H,af⟩:=j.out.box
 go_wp2_with fail
 refine (HS.out (.ok (adv q)) S (adv q) (-1) (d+1) _ (zab _) (((N.out.adv hp).set j.out 1 _).set (j.out.at1 _) 11 _) (fun _=>by show C.ts.length-(q.pos+1)<_;omega) (by omega)).mono ?_
 rintro e w2 ⟨S2,q2,z2,rfl,i2,m2,s2⟩
 replace j:=zc (((j.out.at1 _).at11 _).stp s2)
 replace o:=zc (((o.out.set_other (by omega) 1 _).set_other (by omega) 11 _).stp s2)
 have aa:Hid (SB w.heap.size S w S2 w2):=((V.out.set (by omega) 1 _).set (by omega) 11 _).step s2
 clear V
 have Z:=zc m2
 have ac:=zc i2
 clear i2 m2 s2 N
 clear a0 a1 a2 a3 a4 a5 a6 a7 a8 a9 J H af
 go_wp2_with fail
 refine (zah C I E z _ S2 q2 z2 (d+1) zU _ ac.out Z.out).mono ?_
 rintro e w3 ⟨S3,q3,z3,rfl,i3,m3,s3⟩
 replace j:=zc (j.out.stp s3)
 replace o:=zc (o.out.stp s3)
 have M:=zc (aa.out.step s3)
 clear aa
 have X:=zc m3
 have ad:=zc i3
 clear i3 m3 s3 Z
 obtain⟨a0,a1,a2,a3,a4,a5,a6,a7,a8,a9,J,H,af⟩:=j.out.box
 obtain⟨D,hD⟩: ∃D:Nat,D=d+1:=⟨_,rfl⟩
 rw[←hD]
 have ai:(D:Int)-1=d:=by omega
 have aj:D≤20:=by omega
 clear hD hd qd
 unfold pv
 go_upto_region 11 with fail
 refine zQ (R:=fun W=>Bx I S3 W (w.heap.size) _∧Bx I S3 W (w.heap.size+1) _∧Mem C I E z S3 q3 W∧SB w.heap.size S w S3 W) ⟨(j.out.put ..),(o.out.other (by omega) ..),(X.out.put j.out ..),(M.out.put (by omega) ..)⟩ ?_
 clear a0 a1 a2 a3 a4 a5 a6 a7 a8 a9 J H af
 clear j o M X
 rintro w4 ⟨O,U,m4,t4⟩
 have j:=zc O
 have o:=zc U
 have ab:=zc m4
 have ae:=zc t4
 clear m4 t4 O U
 obtain⟨a0,a1,a2,a3,a4,a5,a6,a7,a8,a9,J,H,af⟩:=j.out.box
 obtain⟨b0,b1,b2,b3,b4,b5,b6,b7,b8,b9,ah,ak,bf⟩:=o.out.box
 go_wp2
 refine bodyPost_ret (results_cell_row rfl _ _ (w.heap.size+1) 55 _ (0,0) _ rfl (((o.out.set_other (by omega) 11 _).put ..)).heap Tryz.underlying55 rfl (by kernel_rfl)) rfl ?_
 rw[HV.out]
 exact zac rfl ad.out ((ab.out.set j.out 11 _).put (o.out.set_other (by omega) 11 _) ..) ((ae.out.set (by omega) 11 _).put (by omega) ..)
theorem zu9 (z:List Tk) (j:Nat) (J H D:Nat) (S:Sv) (q:PS) (d:Nat) (w:World) (Q:Mem (Cx.mk z j true) J H D S q w) (hp: ¬q.pos<(Cx.mk z j true).ts.length):
  Calls Tryz.prog 128 #[pv (Cx.mk z j true) J H S q (-1) d] w (Out (Cx.mk z j true) J H D (pE (Cx.mk z j true) .part d q) d S w):=by
 have HM:=zc Q
 have ad:=Q.tok
 have K:(Cx.mk z j true).ts.length≤4000:=Q.few
 have ak:=(zan Q.tok).1
 clear Q
 have hk:((zf (Cx.mk z j true) q.pos).kind==2)=false:=by rw[zcT (by omega)];rfl
 have ho:isT (Cx.mk z j true) q.pos 4 cOpen=false:=zfA hp (by decide)
 have hu:isT (Cx.mk z j true) q.pos 1 sUndef=false:=zfA hp (by decide)
 have hn:plainB (Cx.mk z j true) q.pos false=false:=zhP hp
 have HV:Hid (pE (Cx.mk z j true) .part d q= .error (zu (Cx.mk z j true) q.pos)):=by show pE (Cx.mk z j true) .part d q=_;rw[zby,hk,ho,hu,zk,hn];rfl
 have al: ¬q.pos<z.length:=hp
 unfold pv
 go_enter Tryz.func128,Tryz.ntmps128
 go_wp2_with fail
 refine (zj (Cx.mk z j true) J H D S q (-1) d 4 cOpen _ (zv (zv ad _) _) K (by decide)).mono ?_
 rintro e w1 ⟨rfl,aa⟩
 rw[ho]
 obtain⟨X,Y,m1,t1⟩:=HM.out.two aa
 have E:=zc X
 have o:=zc Y
 have L:=zc m1
 have Z:=zc t1
 clear X Y m1 t1 aa
 obtain⟨a0,a1,a2,a3,a4,a5,a6,a7,a8,a9,O,M,af⟩:=E.out.box
 go_wp2_with fail
 refine (zj (Cx.mk z j true) J H D S q (-1) d 1 sUndef _ L.out.tok K (by decide)).mono ?_
 rintro e w2 ⟨rfl,I⟩
 rw[hu]
 replace E:=zc (E.out.below I)
 replace o:=zc (o.out.below I)
 have ac:=zc (Z.out.below I)
 have ab:=zc (L.out.later I)
 clear I Z L
 clear a0 a1 a2 a3 a4 a5 a6 a7 a8 a9 O M af
 obtain⟨a0,a1,a2,a3,a4,a5,a6,a7,a8,a9,O,M,af⟩:=E.out.box
 go_wp2_with fail
 refine (zbz (Cx.mk z j true) J H D (.ok q) S q (-1) d false _ (zab q) ab.out).mono ?_
 rintro e w3 ⟨U,q3,z3,n3,rfl,i3,m3,s3⟩
 replace E:=zc (E.out.stp s3)
 replace o:=zc (o.out.stp s3)
 have V:=zc (ac.out.step s3)
 clear ac
 have N:=zc m3
 have ag:=zc i3
 clear i3 m3 s3 ab
 clear a0 a1 a2 a3 a4 a5 a6 a7 a8 a9 O M af
 obtain rfl:=zhs ag.out hn
 have dz:decide ((0:Int)≤(zu (Cx.mk z j true) q.pos:Int))=true:=decide_eq_true (by omega)
 have aj:w.heap.size+1<w3.heap.size:=o.out.lt
 unfold pv
 go_upto_region 17 with fail
 refine zQ (R:=fun W=>Bx J U W (w.heap.size) _∧Bx J U W (w.heap.size+1) _∧Bx J U W (w3.heap.size) _∧Mem (Cx.mk z j true) J H D U q3 W∧SB w.heap.size S w U W) ⟨(E.out.alloc _),(o.out.alloc _),(Bx.new N.out _),(N.out.alloc _),(V.out.alloc _)⟩ ?_
 clear E o V N
 rintro w4 ⟨X,Y,X2,m4,t4⟩
 have E:=zc X
 have o:=zc Y
 have ai:=zc X2
 have ae:=zc m4
 have ah:=zc t4
 clear m4 t4 X Y X2
 obtain⟨b0,b1,b2,b3,b4,b5,b6,b7,b8,b9,am,ap,bf⟩:=o.out.box
 obtain⟨c0,c1,c2,c3,c4,c5,c6,c7,c8,c9,ao,an,cf⟩:=ai.out.box
 go_wp2
 refine bodyPost_ret (results_cell_row rfl _ _ (w.heap.size+1) 55 _ (0,0) _ rfl ((o.out.put ..)).heap Tryz.underlying55 rfl (by kernel_rfl)) rfl ?_
 rw[HV.out]
 exact zac rfl (show Is (.error (zu (Cx.mk z j true) q.pos)) q3 _ from rfl) (ae.out.put o.out ..) (ah.out.put (by omega) ..)
theorem zuA (o:List Tk) (j:Nat) (J H D:Nat) (S:Sv) (q:PS) (d:Nat) (w:World) (U:Mem (Cx.mk o j true) J H D S q w) (hk:((zf (Cx.mk o j true) q.pos).kind==2)=false) (ho:isT (Cx.mk o j true) q.pos 4 cOpen=false) (hp:q.pos<(Cx.mk o j true).ts.length) (hu:isT (Cx.mk o j true) q.pos 1 sUndef=false) (hn:plainB (Cx.mk o j true) q.pos false=false):
  Calls Tryz.prog 128 #[pv (Cx.mk o j true) J H S q (-1) d] w (Out (Cx.mk o j true) J H D (pE (Cx.mk o j true) .part d q) d S w):=by
 have HM:=zc U
 have L:=U.tok
 have K:(Cx.mk o j true).ts.length≤4000:=U.few
 have ak:=(zan U.tok).1
 clear U
 have HV:Hid (pE (Cx.mk o j true) .part d q= .error (zu (Cx.mk o j true) q.pos)):=by show pE (Cx.mk o j true) .part d q=_;rw[zby,hk,ho,hu,zk,hn];rfl
 have al:q.pos<o.length:=hp
 obtain⟨c0,_,_,_⟩:=L.cells hp (d:=⟨0,sNone,0,(Cx.mk o j true).fin⟩)
 change _=some (Value.int .i64 (zf (Cx.mk o j true) q.pos).kind) at c0
 generalize (zf (Cx.mk o j true) q.pos).kind=kd at c0 hk
 unfold pv
 go_enter Tryz.func128,Tryz.ntmps128
 go_wp2_with fail
 refine (zj (Cx.mk o j true) J H D S q (-1) d 4 cOpen _ (zv (zv L _) _) K (by decide)).mono ?_
 rintro e w1 ⟨rfl,ab⟩
 rw[ho]
 obtain⟨Y,Z,m1,t1⟩:=HM.out.two ab
 have E:=zc Y
 have z:=zc Z
 have M:=zc m1
 have aa:=zc t1
 clear Y Z m1 t1 ab
 obtain⟨a0,a1,a2,a3,a4,a5,a6,a7,a8,a9,Q,N,af⟩:=E.out.box
 go_wp2_with fail
 refine (zj (Cx.mk o j true) J H D S q (-1) d 1 sUndef _ M.out.tok K (by decide)).mono ?_
 rintro e w2 ⟨rfl,I⟩
 rw[hu]
 replace E:=zc (E.out.below I)
 replace z:=zc (z.out.below I)
 have ad:=zc (aa.out.below I)
 have ac:=zc (M.out.later I)
 clear I aa M
 clear a0 a1 a2 a3 a4 a5 a6 a7 a8 a9 Q N af
 obtain⟨a0,a1,a2,a3,a4,a5,a6,a7,a8,a9,Q,N,af⟩:=E.out.box
 go_wp2_with fail
 refine (zbz (Cx.mk o j true) J H D (.ok q) S q (-1) d false _ (zab q) ac.out).mono ?_
 rintro e w3 ⟨V,q3,z3,n3,rfl,i3,m3,s3⟩
 replace E:=zc (E.out.stp s3)
 replace z:=zc (z.out.stp s3)
 have X:=zc (ad.out.step s3)
 clear ad
 have O:=zc m3
 have ag:=zc i3
 clear i3 m3 s3 ac
 clear a0 a1 a2 a3 a4 a5 a6 a7 a8 a9 Q N af
 obtain rfl:=zhs ag.out hn
 have dz:decide ((0:Int)≤(zu (Cx.mk o j true) q.pos:Int))=true:=decide_eq_true (by omega)
 have aj:w.heap.size+1<w3.heap.size:=z.out.lt
 unfold pv
 go_upto_region 17 with fail
 refine zQ (R:=fun W=>Bx J V W (w.heap.size) _∧Bx J V W (w.heap.size+1) _∧Bx J V W (w3.heap.size) _∧Mem (Cx.mk o j true) J H D V q3 W∧SB w.heap.size S w V W) ⟨(E.out.alloc _),(z.out.alloc _),(Bx.new O.out _),(O.out.alloc _),(X.out.alloc _)⟩ ?_
 clear E z X O
 rintro w4 ⟨Y,Z,X2,m4,t4⟩
 have E:=zc Y
 have z:=zc Z
 have ai:=zc X2
 have ae:=zc m4
 have ah:=zc t4
 clear m4 t4 Y Z X2
 obtain⟨b0,b1,b2,b3,b4,b5,b6,b7,b8,b9,am,ap,bf⟩:=z.out.box
 obtain⟨c0,c1,c2,c3,c4,c5,c6,c7,c8,c9,ao,an,cf⟩:=ai.out.box
 go_wp2
 refine bodyPost_ret (results_cell_row rfl _ _ (w.heap.size+1) 55 _ (0,0) _ rfl ((z.out.put ..)).heap Tryz.underlying55 rfl (by kernel_rfl)) rfl ?_
 rw[HV.out]
 exact zac rfl (show Is (.error (zu (Cx.mk o j true) q.pos)) q3 _ from rfl) (ae.out.put z.out ..) (ah.out.put (by omega) ..)
theorem zm6 (K:List Tk) (D:Nat) (J E o:Nat) (S:Sv) (q:PS) (d:Nat) (w:World) (U:Mem (Cx.mk K D true) J E o S q w) (H:Nat):
  Calls Tryz.prog 128 #[pv (Cx.mk K D true) J E S q (H:Int) d] w (Out (Cx.mk K D true) J E o (.error H) d S w):=by
 have HM:=zc U
 have ae:=U.tok
 have L:(Cx.mk K D true).ts.length≤4000:=U.few
 have al:=(zan U.tok).1
 clear U
 have hz: ¬(H:Int)<0:=by omega
 have hs: ∀k s,(decide ((H:Int)<0)&&isT (Cx.mk K D true) q.pos k s)=false:=fun k s=>by rw[decide_eq_false hz];rfl
 unfold pv
 go_enter Tryz.func128,Tryz.ntmps128
 go_wp2_with fail
 refine (zj (Cx.mk K D true) J E o S q (H:Int) d 4 cOpen _ (zv (zv ae _) _) L (by decide)).mono ?_
 rintro e w1 ⟨rfl,ab⟩
 rw[hs]
 obtain⟨Y,Z,m1,t1⟩:=HM.out.two ab
 have z:=zc Y
 have j:=zc Z
 have M:=zc m1
 have aa:=zc t1
 clear Y Z m1 t1 ab
 obtain⟨a0,a1,a2,a3,a4,a5,a6,a7,a8,a9,Q,N,af⟩:=z.out.box
 go_wp2_with fail
 refine (zj (Cx.mk K D true) J E o S q (H:Int) d 1 sUndef _ M.out.tok L (by decide)).mono ?_
 rintro e w2 ⟨rfl,I⟩
 rw[hs]
 replace z:=zc (z.out.below I)
 replace j:=zc (j.out.below I)
 have ad:=zc (aa.out.below I)
 have ac:=zc (M.out.later I)
 clear I aa M
 clear a0 a1 a2 a3 a4 a5 a6 a7 a8 a9 Q N af
 obtain⟨a0,a1,a2,a3,a4,a5,a6,a7,a8,a9,Q,N,af⟩:=z.out.box
 go_wp2_with fail
 refine (zbz (Cx.mk K D true) J E o (.error H) S q (H:Int) d false _ (show Is (.error H) q _ from rfl) ac.out).mono ?_
 rintro e w3 ⟨V,q3,z3,n3,rfl,i3,m3,s3⟩
 replace z:=zc (z.out.stp s3)
 replace j:=zc (j.out.stp s3)
 have X:=zc (ad.out.step s3)
 clear ad
 have O:=zc m3
 have ah:=zc i3
 clear i3 m3 s3 ac
 clear a0 a1 a2 a3 a4 a5 a6 a7 a8 a9 Q N af
 obtain rfl:z3=(H:Int):=ah.out
 have dz:decide ((0:Int)≤(H:Int))=true:=decide_eq_true (by omega)
 have ak:w.heap.size+1<w3.heap.size:=j.out.lt
 unfold pv
 go_upto_region 17 with fail
 refine zQ (R:=fun W=>Bx J V W (w.heap.size) _∧Bx J V W (w.heap.size+1) _∧Bx J V W (w3.heap.size) _∧Mem (Cx.mk K D true) J E o V q3 W∧SB w.heap.size S w V W) ⟨(z.out.alloc _),(j.out.alloc _),(Bx.new O.out _),(O.out.alloc _),(X.out.alloc _)⟩ ?_
 clear z j X O
 rintro w4 ⟨Y,Z,X2,m4,t4⟩
 have z:=zc Y
 have j:=zc Z
 have aj:=zc X2
 have ag:=zc m4
 have ai:=zc t4
 clear m4 t4 Y Z X2
 obtain⟨b0,b1,b2,b3,b4,b5,b6,b7,b8,b9,am,ap,bf⟩:=j.out.box
 obtain⟨c0,c1,c2,c3,c4,c5,c6,c7,c8,c9,ao,an,cf⟩:=aj.out.box
 go_wp2
 refine bodyPost_ret (results_cell_row rfl _ _ (w.heap.size+1) 55 _ (0,0) _ rfl ((j.out.put ..)).heap Tryz.underlying55 rfl (by kernel_rfl)) rfl ?_
 exact zac rfl (show Is (.error H) q3 _ from rfl) (ag.out.put j.out ..) (ai.out.put (by omega) ..)
theorem zuB (o:List Tk) (j:Nat) (O H z:Nat) (S:Sv) (q:PS) (d:Nat) (w:World) (Q:Mem (Cx.mk o j true) O H z S q w) (hk:((zf (Cx.mk o j true) q.pos).kind==2)=false) (ho:isT (Cx.mk o j true) q.pos 4 cOpen=false) (hp:q.pos<(Cx.mk o j true).ts.length) (hu:isT (Cx.mk o j true) q.pos 1 sUndef=true):
  Calls Tryz.prog 128 #[pv (Cx.mk o j true) O H S q (-1) d] w (Out (Cx.mk o j true) O H z (pE (Cx.mk o j true) .part d q) d S w):=by
 have HM:=zc Q
 have J:=Q.tok
 have K:(Cx.mk o j true).ts.length≤4000:=Q.few
 have ad:=(zan Q.tok).1
 clear Q
 have HV:Hid (pE (Cx.mk o j true) .part d q=zau (Cx.mk o j true) sUndef (adv q)):=by show pE (Cx.mk o j true) .part d q=_;rw[zby,hk,ho,hu];rfl
 have ae:q.pos<o.length:=hp
 obtain⟨c0,_,_,_⟩:=J.cells hp (d:=⟨0,sNone,0,(Cx.mk o j true).fin⟩)
 change _=some (Value.int .i64 (zf (Cx.mk o j true) q.pos).kind) at c0
 generalize (zf (Cx.mk o j true) q.pos).kind=kd at c0 hk
 unfold pv
 go_enter Tryz.func128,Tryz.ntmps128
 go_wp2_with fail
 refine (zj (Cx.mk o j true) O H z S q (-1) d 4 cOpen _ (zv (zv J _) _) K (by decide)).mono ?_
 rintro e w1 ⟨rfl,X⟩
 rw[ho]
 obtain⟨X0,X1,m1,t1⟩:=HM.out.two X
 have E:=zc X0
 have D:=zc X1
 have L:=zc m1
 have V:=zc t1
 clear X0 X1 m1 t1 X
 obtain⟨a0,a1,a2,a3,a4,a5,a6,a7,a8,a9,N,M,af⟩:=E.out.box
 go_wp2_with fail
 refine (zj (Cx.mk o j true) O H z S q (-1) d 1 sUndef _ L.out.tok K (by decide)).mono ?_
 rintro e w2 ⟨rfl,I⟩
 rw[hu]
 replace E:=zc (E.out.below I)
 replace D:=zc (D.out.below I)
 have U:=zc (V.out.below I)
 have Y:=zc (L.out.later I)
 clear I V L
 clear a0 a1 a2 a3 a4 a5 a6 a7 a8 a9 N M af
 obtain⟨a0,a1,a2,a3,a4,a5,a6,a7,a8,a9,N,M,af⟩:=E.out.box
 go_wp2_with fail
 refine (zjf (Cx.mk o j true) O H z S (adv q) d sUndef _ ((Y.out.adv hp).set E.out 1 _) (by simp[adv])).mono ?_
 rintro e w3 ⟨S3,q3,z3,rfl,i3,m3,Z⟩
 replace E:=zc ((E.out.at1 _).stp Z)
 replace D:=zc ((D.out.set_other (by omega) 1 _).stp Z)
 have aa:Hid (SB w.heap.size S w S3 w3):=(U.out.set (by omega) 1 _).step Z
 clear U
 have ac:=zc m3
 have ab:=zc i3
 clear i3 m3 Z Y
 clear a0 a1 a2 a3 a4 a5 a6 a7 a8 a9 N M af
 obtain⟨b0,b1,b2,b3,b4,b5,b6,b7,b8,b9,ag,ah,bf⟩:=D.out.box
 unfold pv
 go_wp2
 refine bodyPost_ret (results_cell_row rfl _ _ (w.heap.size+1) 55 _ (0,0) _ rfl ((D.out.put ..)).heap Tryz.underlying55 rfl (by kernel_rfl)) rfl ?_
 rw[HV.out]
 exact zac rfl ab.out (ac.out.put D.out ..) (aa.out.put (by omega) ..)
theorem zuC (o:List Tk) (j:Nat) (L H z:Nat) (S:Sv) (q:PS) (d:Nat) (w:World) (X:Mem (Cx.mk o j true) L H z S q w) (hk:((zf (Cx.mk o j true) q.pos).kind==2)=false) (ho:isT (Cx.mk o j true) q.pos 4 cOpen=false) (hp:q.pos<(Cx.mk o j true).ts.length) (hu:isT (Cx.mk o j true) q.pos 1 sUndef=false) (hn:plainB (Cx.mk o j true) q.pos false=true) (hd:isT (Cx.mk o j true) (q.pos+1) 4 cPoint=false):
  Calls Tryz.prog 128 #[pv (Cx.mk o j true) L H S q (-1) d] w (Out (Cx.mk o j true) L H z (pE (Cx.mk o j true) .part d q) d S w):=by
 have HM:=zc X
 have N:=X.tok
 have J:(Cx.mk o j true).ts.length≤4000:=X.few
 have au:=(zan X.tok).1
 clear X
 have HV:Hid (pE (Cx.mk o j true) .part d q=zau (Cx.mk o j true) (zf (Cx.mk o j true) q.pos).text (adv q)):=by show pE (Cx.mk o j true) .part d q=_;rw[zby,hk,ho,hu,zk,hn];show (if isT (Cx.mk o j true) (adv q).pos 4 cPoint then _ else _)=_;rw[zz,hd];rfl
 have av:q.pos<o.length:=hp
 obtain⟨c0,_,_,_⟩:=N.cells hp (d:=⟨0,sNone,0,(Cx.mk o j true).fin⟩)
 change _=some (Value.int .i64 (zf (Cx.mk o j true) q.pos).kind) at c0
 generalize (zf (Cx.mk o j true) q.pos).kind=kd at c0 hk
 unfold pv
 go_enter Tryz.func128,Tryz.ntmps128
 go_wp2_with fail
 refine (zj (Cx.mk o j true) L H z S q (-1) d 4 cOpen _ (zv (zv N _) _) J (by decide)).mono ?_
 rintro e w1 ⟨rfl,ah⟩
 rw[ho]
 obtain⟨X0,X1,m1,t1⟩:=HM.out.two ah
 have E:=zc X0
 have D:=zc X1
 have O:=zc m1
 have ae:=zc t1
 clear X0 X1 m1 t1 ah
 obtain⟨a0,a1,a2,a3,a4,a5,a6,a7,a8,a9,U,Q,af⟩:=E.out.box
 go_wp2_with fail
 refine (zj (Cx.mk o j true) L H z S q (-1) d 1 sUndef _ O.out.tok J (by decide)).mono ?_
 rintro e w2 ⟨rfl,K⟩
 rw[hu]
 replace E:=zc (E.out.below K)
 replace D:=zc (D.out.below K)
 have aj:=zc (ae.out.below K)
 have ai:=zc (O.out.later K)
 clear K ae O
 clear a0 a1 a2 a3 a4 a5 a6 a7 a8 a9 U Q af
 obtain⟨a0,a1,a2,a3,a4,a5,a6,a7,a8,a9,U,Q,af⟩:=E.out.box
 go_wp2_with fail
 refine (zbz (Cx.mk o j true) L H z (.ok q) S q (-1) d false _ (zab q) ai.out).mono ?_
 rintro e w3 ⟨S3,q3,z3,n3,rfl,i3,m3,s3⟩
 replace E:=zc (E.out.stp s3)
 replace D:=zc (D.out.stp s3)
 have ab:=zc (aj.out.step s3)
 clear aj
 have M:=zc m3
 have ac:=zc i3
 clear i3 m3 s3 ai
 clear a0 a1 a2 a3 a4 a5 a6 a7 a8 a9 U Q af
 obtain⟨hq,rfl,ag⟩:=zhr ac.out hn
 have HQ:=zc hq
 have am:=zc ag
 have Y:q3.pos=q.pos+1:=by rw[hq];rfl
 have ao:isT (Cx.mk o j true) q3.pos 4 cPoint=false:=by rw[Y];exact hd
 clear hq ag ac
 have ar:w.heap.size+1<w3.heap.size:=D.out.lt
 unfold pv
 clear Y
 go_wp2_with fail
 refine (zj (Cx.mk o j true) L H z S3 q3 (-1) d 4 cPoint _ (M.out.alloc _).tok J (by decide)).mono ?_
 rintro e w4 ⟨rfl,I⟩
 rw[ao]
 replace E:=zc ((E.out.alloc _).below I)
 replace D:=zc ((D.out.alloc _).below I)
 replace V:=zc ((Bx.new M.out _).below I)
 have ad:Hid (SB w.heap.size S w S3 w4):=(ab.out.alloc _).below I
 have aa:Hid (Mem (Cx.mk o j true) L H z S3 q3 w4):=(M.out.alloc _).later I
 clear I ab M
 obtain⟨c0,c1,c2,c3,c4,c5,c6,c7,c8,c9,ap,al,cf⟩:=V.out.box
 go_wp2_with fail
 refine (zjf (Cx.mk o j true) L H z S3 q3 d n3 _ aa.out (by rw[HQ.out];simp[adv])).mono ?_
 rintro e w5 ⟨S5,q5,z5,rfl,i5,m5,Z⟩
 replace E:=zc (E.out.stp Z)
 replace D:=zc (D.out.stp Z)
 replace V:=zc (V.out.stp Z)
 have an:=zc (ad.out.step Z)
 clear ad
 have ak:=zc m5
 have aq:=zc i5
 clear i5 m5 Z aa
 clear c0 c1 c2 c3 c4 c5 c6 c7 c8 c9 ap al cf
 obtain⟨b0,b1,b2,b3,b4,b5,b6,b7,b8,b9,aw,ax,bf⟩:=D.out.box
 unfold pv
 go_wp2
 refine bodyPost_ret (results_cell_row rfl _ _ (w.heap.size+1) 55 _ (0,0) _ rfl ((D.out.put ..)).heap Tryz.underlying55 rfl (by kernel_rfl)) rfl ?_
 rw[HV.out,←HQ.out,←am.out]
 exact zac rfl aq.out (ak.out.put D.out ..) (an.out.put (by omega) ..)
theorem zuD (E:List Tk) (j:Nat) (M H z:Nat) (S:Sv) (q:PS) (d:Nat) (w:World) (hm:Mem (Cx.mk E j true) M H z S q w) (hk:((zf (Cx.mk E j true) q.pos).kind==2)=false) (ho:isT (Cx.mk E j true) q.pos 4 cOpen=false) (hp:q.pos<(Cx.mk E j true).ts.length) (hu:isT (Cx.mk E j true) q.pos 1 sUndef=false) (hn:plainB (Cx.mk E j true) q.pos false=true) (hd:isT (Cx.mk E j true) (q.pos+1) 4 cPoint=true):
  Calls Tryz.prog 128 #[pv (Cx.mk E j true) M H S q (-1) d] w (Out (Cx.mk E j true) M H z (pE (Cx.mk E j true) .part d q) d S w):=by
 have HM:=zc hm
 have ag:=hm.tok
 have N:(Cx.mk E j true).ts.length≤4000:=hm.few
 have aM:=(zan hm.tok).1
 clear hm
 have HV:Hid (pE (Cx.mk E j true) .part d q=bd (bd (.ok (adv (adv q))) (zk (Cx.mk E j true) true)) fun y=>za5 (Cx.mk E j true) (zf (Cx.mk E j true) q.pos).text y.2 y.1):=by show pE (Cx.mk E j true) .part d q=_;rw[zby,hk,ho,hu,zk,hn];show (if isT (Cx.mk E j true) (adv q).pos 4 cPoint then _ else _)=_;rw[zz,hd];rfl
 have aP:q.pos<E.length:=hp
 obtain⟨c0,_,_,_⟩:=ag.cells hp (d:=⟨0,sNone,0,(Cx.mk E j true).fin⟩)
 change _=some (Value.int .i64 (zf (Cx.mk E j true) q.pos).kind) at c0
 generalize (zf (Cx.mk E j true) q.pos).kind=kd at c0 hk
 unfold pv
 go_enter Tryz.func128,Tryz.ntmps128
 go_wp2_with fail
 refine (zj (Cx.mk E j true) M H z S q (-1) d 4 cOpen _ (zv (zv ag _) _) N (by decide)).mono ?_
 rintro e w1 ⟨rfl,aA⟩
 rw[ho]
 obtain⟨X0,X1,m1,t1⟩:=HM.out.two aA
 have D:=zc X0
 have o:=zc X1
 have ah:=zc m1
 have ay:=zc t1
 clear X0 X1 m1 t1 aA
 obtain⟨a0,a1,a2,a3,a4,a5,a6,a7,a8,a9,ak,ai,af⟩:=D.out.box
 go_wp2_with fail
 refine (zj (Cx.mk E j true) M H z S q (-1) d 1 sUndef _ ah.out.tok N (by decide)).mono ?_
 rintro e w2 ⟨rfl,aa⟩
 rw[hu]
 replace D:=zc (D.out.below aa)
 replace o:=zc (o.out.below aa)
 have aC:=zc (ay.out.below aa)
 have aB:=zc (ah.out.later aa)
 clear aa ay ah
 clear a0 a1 a2 a3 a4 a5 a6 a7 a8 a9 ak ai af
 obtain⟨a0,a1,a2,a3,a4,a5,a6,a7,a8,a9,ak,ai,af⟩:=D.out.box
 go_wp2_with fail
 refine (zbz (Cx.mk E j true) M H z (.ok q) S q (-1) d false _ (zab q) aB.out).mono ?_
 rintro e w3 ⟨S3,q3,z3,n3,rfl,i3,m3,s3⟩
 replace D:=zc (D.out.stp s3)
 replace o:=zc (o.out.stp s3)
 have ao:=zc (aC.out.step s3)
 clear aC
 have ad:=zc m3
 have ar:=zc i3
 clear i3 m3 s3 aB
 clear a0 a1 a2 a3 a4 a5 a6 a7 a8 a9 ak ai af
 obtain⟨hq,rfl,az⟩:=zhr ar.out hn
 have HQ:=zc hq
 have aq:=zc az
 have am:q3.pos=q.pos+1:=by rw[hq];rfl
 have av:isT (Cx.mk E j true) q3.pos 4 cPoint=true:=by rw[am];exact hd
 clear hq az ar
 have aL:w.heap.size+1<w3.heap.size:=o.out.lt
 unfold pv
 clear am
 go_wp2_with fail
 refine (zj (Cx.mk E j true) M H z S3 q3 (-1) d 4 cPoint _ (ad.out.alloc _).tok N (by decide)).mono ?_
 rintro e w4 ⟨rfl,O⟩
 rw[av]
 replace D:=zc ((D.out.alloc _).below O)
 replace o:=zc ((o.out.alloc _).below O)
 replace I:=zc ((Bx.new ad.out _).below O)
 have ax:Hid (SB w.heap.size S w S3 w4):=(ao.out.alloc _).below O
 have an:Hid (Mem (Cx.mk E j true) M H z S3 q3 w4):=(ad.out.alloc _).later O
 clear O ao ad
 obtain⟨c0,c1,c2,c3,c4,c5,c6,c7,c8,c9,aG,aF,cf⟩:=I.out.box
 have aw:q3.pos<(Cx.mk E j true).ts.length:=za1 av (by decide)
 have aO:q3.pos<E.length:=aw
 go_wp2_with fail
 refine (zbz (Cx.mk E j true) M H z (.ok (adv q3)) S3 (adv q3) (-1) d true _ (zab _) ((an.out.adv aw).set I.out 1 _)).mono ?_
 rintro e w5 ⟨S5,q5,z5,n5,rfl,i5,m5,s5⟩
 replace D:=zc ((D.out.set_other (by omega) 1 _).stp s5)
 replace o:=zc ((o.out.set_other (by omega) 1 _).stp s5)
 replace I:=zc ((I.out.at1 _).stp s5)
 have ac:Hid (SB w.heap.size S w S5 w5):=(ax.out.set (by omega) 1 _).step s5
 clear ax
 have L:=zc m5
 have Y:=zc i5
 clear i5 m5 s5 an
 clear c0 c1 c2 c3 c4 c5 c6 c7 c8 c9 aG aF cf
 have aN:w.heap.size+1<w5.heap.size:=o.out.lt
 have aD:w3.heap.size<w5.heap.size:=I.out.lt
 cases hc:(decide (z5<0)&&isT (Cx.mk E j true) q5.pos 4 cOpen) with
 |true=>
  unfold pv
  go_wp2_with fail
  refine (zj (Cx.mk E j true) M H z S5 q5 z5 d 4 cOpen _ (L.out.alloc _).tok N (by decide)).mono ?_
  rintro e w6 ⟨rfl,J⟩
  rw[hc]
  replace D:=zc ((D.out.alloc _).below J)
  replace o:=zc ((o.out.alloc _).below J)
  replace I:=zc ((I.out.alloc _).below J)
  replace K:=zc ((Bx.new L.out _).below J)
  have Z:Hid (SB w.heap.size S w S5 w6):=(ac.out.alloc _).below J
  have U:Hid (Mem (Cx.mk E j true) M H z S5 q5 w6):=(L.out.alloc _).later J
  clear J ac L
  obtain⟨d0,d1,d2,d3,d4,d5,d6,d7,d8,d9,X,V,df⟩:=K.out.box
  go_wp2_with fail
  refine (zah (Cx.mk E j true) M H z _ S5 q5 z5 d cOpen _ Y.out.fst U.out).mono ?_
  rintro e w7 ⟨S7,q7,z7,rfl,i7,m7,Q⟩
  replace D:=zc (D.out.stp Q)
  replace o:=zc (o.out.stp Q)
  replace I:=zc (I.out.stp Q)
  replace K:=zc (K.out.stp Q)
  have ae:=zc (Z.out.step Q)
  clear Z
  have ab:=zc m7
  have aj:=zc i7
  clear i7 m7 Q U
  clear d0 d1 d2 d3 d4 d5 d6 d7 d8 d9 X V df
  go_wp2_with fail
  refine (zah (Cx.mk E j true) M H z _ S7 q7 z7 d zU _ aj.out ab.out).mono ?_
  rintro e w8 ⟨S8,q8,z8,rfl,i8,m8,s8⟩
  replace D:=zc (D.out.stp s8)
  replace o:=zc (o.out.stp s8)
  replace I:=zc (I.out.stp s8)
  replace K:=zc (K.out.stp s8)
  have al:=zc (ae.out.step s8)
  clear ae
  have au:=zc m8
  have ap:=zc i8
  clear i8 m8 s8 ab
  obtain⟨d0,d1,d2,d3,d4,d5,d6,d7,d8,d9,X,V,df⟩:=K.out.box
  unfold pv
  go_wp2_with fail
  refine (zcX (Cx.mk E j true) M H z _ S8 q8 z8 d ⟨5,0,n3,n5,0,0⟩ _ ap.out (au.out.put K.out ..) (zb5 ap.out)).mono ?_
  rintro e w9 ⟨S9,q9,z9,rfl,i9,m9,s9⟩
  replace D:=zc ((D.out.other (by omega) ..).stp s9)
  replace o:=zc ((o.out.other (by omega) ..).stp s9)
  replace I:=zc ((I.out.other (by omega) ..).stp s9)
  replace K:=zc ((K.out.put ..).stp s9)
  have aJ:Hid (SB w.heap.size S w S9 w9):=(al.out.put (by omega) ..).step s9
  clear al
  have aH:=zc m9
  have aI:=zc i9
  clear i9 m9 s9 au
  clear d0 d1 d2 d3 d4 d5 d6 d7 d8 d9 X V df
  obtain⟨b0,b1,b2,b3,b4,b5,b6,b7,b8,b9,aE,aK,bf⟩:=o.out.box
  unfold pv
  go_wp2
  refine bodyPost_ret (results_cell_row rfl _ _ (w.heap.size+1) 55 _ (0,0) _ rfl ((o.out.put ..)).heap Tryz.underlying55 rfl (by kernel_rfl)) rfl ?_
  rw[HV.out,←HQ.out,←aq.out,←zm3 Y.out hc]
  exact zac rfl aI.out (aH.out.put o.out ..) (aJ.out.put (by omega) ..)
 |false=>
  unfold pv
  go_wp2_with fail
  refine (zj (Cx.mk E j true) M H z S5 q5 z5 d 4 cOpen _ (L.out.alloc _).tok N (by decide)).mono ?_
  rintro e w6 ⟨rfl,J⟩
  rw[hc]
  replace D:=zc ((D.out.alloc _).below J)
  replace o:=zc ((o.out.alloc _).below J)
  replace I:=zc ((I.out.alloc _).below J)
  replace K:=zc ((Bx.new L.out _).below J)
  have Z:Hid (SB w.heap.size S w S5 w6):=(ac.out.alloc _).below J
  have U:Hid (Mem (Cx.mk E j true) M H z S5 q5 w6):=(L.out.alloc _).later J
  clear J ac L
  obtain⟨d0,d1,d2,d3,d4,d5,d6,d7,d8,d9,X,V,df⟩:=K.out.box
  go_wp2_with fail
  refine (zcX (Cx.mk E j true) M H z _ S5 q5 z5 d ⟨4,0,n3,n5,0,0⟩ _ Y.out.fst U.out (zm5 Y.out)).mono ?_
  rintro e w7 ⟨S7,q7,z7,rfl,i7,m7,Q⟩
  replace D:=zc (D.out.stp Q)
  replace o:=zc (o.out.stp Q)
  replace I:=zc (I.out.stp Q)
  replace K:=zc (K.out.stp Q)
  have ae:=zc (Z.out.step Q)
  clear Z
  have ab:=zc m7
  have aj:=zc i7
  clear i7 m7 Q U
  clear d0 d1 d2 d3 d4 d5 d6 d7 d8 d9 X V df
  obtain⟨b0,b1,b2,b3,b4,b5,b6,b7,b8,b9,aE,aK,bf⟩:=o.out.box
  unfold pv
  go_wp2
  refine bodyPost_ret (results_cell_row rfl _ _ (w.heap.size+1) 55 _ (0,0) _ rfl ((o.out.put ..)).heap Tryz.underlying55 rfl (by kernel_rfl)) rfl ?_
  rw[HV.out,←HQ.out,←aq.out,←zm4 Y.out hc]
  exact zac rfl aj.out (ab.out.put o.out ..) (ae.out.put (by omega) ..)
theorem zuE (o:List Tk) (j:Nat) (I H D:Nat) (S:Sv) (q:PS) (d:Nat) (w:World) (K:Mem (Cx.mk o j false) I H D S q w) (Z: ¬q.pos<(Cx.mk o j false).ts.length):
  Calls Tryz.prog 128 #[pv (Cx.mk o j false) I H S q (-1) d] w (Out (Cx.mk o j false) I H D (pE (Cx.mk o j false) .part d q) d S w):=by
 have HM:=zc K
 have X:=K.tok
 have N:(Cx.mk o j false).ts.length≤4000:=K.few
 have ai:=(zan K.tok).1
 clear K
 have hk:((zf (Cx.mk o j false) q.pos).kind==2)=false:=by rw[zcT (by omega)];rfl
 have ho:isT (Cx.mk o j false) q.pos 4 cOpen=false:=zfA Z (by decide)
 have hu:isT (Cx.mk o j false) q.pos 1 sUndef=false:=zfA Z (by decide)
 have hn:plainB (Cx.mk o j false) q.pos false=false:=zhP Z
 have HV:Hid (pE (Cx.mk o j false) .part d q= .error (zu (Cx.mk o j false) q.pos)):=by show pE (Cx.mk o j false) .part d q=_;rw[zby,hk,ho,zk,hn];rfl
 have aj: ¬q.pos<o.length:=Z
 unfold pv
 go_enter Tryz.func128,Tryz.ntmps128
 go_wp2_with fail
 refine (zj (Cx.mk o j false) I H D S q (-1) d 4 cOpen _ (zv (zv X _) _) N (by decide)).mono ?_
 rintro e w1 ⟨rfl,U⟩
 rw[ho]
 obtain⟨M,O,m1,t1⟩:=HM.out.two U
 have E:=zc M
 have z:=zc O
 have L:=zc m1
 have Q:=zc t1
 clear M O m1 t1 U
 obtain⟨a0,a1,a2,a3,a4,a5,a6,a7,a8,a9,ae,ac,af⟩:=E.out.box
 go_wp2_with fail
 refine (zbz (Cx.mk o j false) I H D (.ok q) S q (-1) d false _ (zab q) L.out).mono ?_
 rintro e w2 ⟨Y,q2,z2,n2,rfl,i2,m2,s2⟩
 replace E:=zc (E.out.stp s2)
 replace z:=zc (z.out.stp s2)
 have V:=zc (Q.out.step s2)
 clear Q
 have J:=zc m2
 have ab:=zc i2
 clear i2 m2 s2 L
 clear a0 a1 a2 a3 a4 a5 a6 a7 a8 a9 ae ac af
 obtain rfl:=zhs ab.out hn
 have dz:decide ((0:Int)≤(zu (Cx.mk o j false) q.pos:Int))=true:=decide_eq_true (by omega)
 have ah:w.heap.size+1<w2.heap.size:=z.out.lt
 unfold pv
 go_upto_region 17 with fail
 refine zQ (R:=fun W=>Bx I Y W (w.heap.size) _∧Bx I Y W (w.heap.size+1) _∧Bx I Y W (w2.heap.size) _∧Mem (Cx.mk o j false) I H D Y q2 W∧SB w.heap.size S w Y W) ⟨(E.out.alloc _),(z.out.alloc _),(Bx.new J.out _),(J.out.alloc _),(V.out.alloc _)⟩ ?_
 clear E z V J
 rintro w3 ⟨M,O,X2,m3,t3⟩
 have E:=zc M
 have z:=zc O
 have ag:=zc X2
 have ad:=zc m3
 have aa:=zc t3
 clear m3 t3 M O X2
 obtain⟨b0,b1,b2,b3,b4,b5,b6,b7,b8,b9,ak,an,bf⟩:=z.out.box
 obtain⟨c0,c1,c2,c3,c4,c5,c6,c7,c8,c9,am,al,cf⟩:=ag.out.box
 go_wp2
 refine bodyPost_ret (results_cell_row rfl _ _ (w.heap.size+1) 55 _ (0,0) _ rfl ((z.out.put ..)).heap Tryz.underlying55 rfl (by kernel_rfl)) rfl ?_
 rw[HV.out]
 exact zac rfl (show Is (.error (zu (Cx.mk o j false) q.pos)) q2 _ from rfl) (ad.out.put z.out ..) (aa.out.put (by omega) ..)
theorem zuF (o:List Tk) (j:Nat) (I H D:Nat) (S:Sv) (q:PS) (d:Nat) (w:World) (L:Mem (Cx.mk o j false) I H D S q w) (hk:((zf (Cx.mk o j false) q.pos).kind==2)=false) (ho:isT (Cx.mk o j false) q.pos 4 cOpen=false) (hp:q.pos<(Cx.mk o j false).ts.length) (hn:plainB (Cx.mk o j false) q.pos false=false):
  Calls Tryz.prog 128 #[pv (Cx.mk o j false) I H S q (-1) d] w (Out (Cx.mk o j false) I H D (pE (Cx.mk o j false) .part d q) d S w):=by
 have HM:=zc L
 have J:=L.tok
 have O:(Cx.mk o j false).ts.length≤4000:=L.few
 have ai:=(zan L.tok).1
 clear L
 have HV:Hid (pE (Cx.mk o j false) .part d q= .error (zu (Cx.mk o j false) q.pos)):=by show pE (Cx.mk o j false) .part d q=_;rw[zby,hk,ho,zk,hn];rfl
 have aj:q.pos<o.length:=hp
 obtain⟨c0,_,_,_⟩:=J.cells hp (d:=⟨0,sNone,0,(Cx.mk o j false).fin⟩)
 change _=some (Value.int .i64 (zf (Cx.mk o j false) q.pos).kind) at c0
 generalize (zf (Cx.mk o j false) q.pos).kind=kd at c0 hk
 unfold pv
 go_enter Tryz.func128,Tryz.ntmps128
 go_wp2_with fail
 refine (zj (Cx.mk o j false) I H D S q (-1) d 4 cOpen _ (zv (zv J _) _) O (by decide)).mono ?_
 rintro e w1 ⟨rfl,V⟩
 rw[ho]
 obtain⟨N,Q,m1,t1⟩:=HM.out.two V
 have E:=zc N
 have z:=zc Q
 have M:=zc m1
 have U:=zc t1
 clear N Q m1 t1 V
 obtain⟨a0,a1,a2,a3,a4,a5,a6,a7,a8,a9,ae,ac,af⟩:=E.out.box
 go_wp2_with fail
 refine (zbz (Cx.mk o j false) I H D (.ok q) S q (-1) d false _ (zab q) M.out).mono ?_
 rintro e w2 ⟨Y,q2,z2,n2,rfl,i2,m2,Z⟩
 replace E:=zc (E.out.stp Z)
 replace z:=zc (z.out.stp Z)
 have X:=zc (U.out.step Z)
 clear U
 have K:=zc m2
 have ab:=zc i2
 clear i2 m2 Z M
 clear a0 a1 a2 a3 a4 a5 a6 a7 a8 a9 ae ac af
 obtain rfl:=zhs ab.out hn
 have dz:decide ((0:Int)≤(zu (Cx.mk o j false) q.pos:Int))=true:=decide_eq_true (by omega)
 have ah:w.heap.size+1<w2.heap.size:=z.out.lt
 unfold pv
 go_upto_region 17 with fail
 refine zQ (R:=fun W=>Bx I Y W (w.heap.size) _∧Bx I Y W (w.heap.size+1) _∧Bx I Y W (w2.heap.size) _∧Mem (Cx.mk o j false) I H D Y q2 W∧SB w.heap.size S w Y W) ⟨(E.out.alloc _),(z.out.alloc _),(Bx.new K.out _),(K.out.alloc _),(X.out.alloc _)⟩ ?_
 clear E z X K
 rintro w3 ⟨N,Q,X2,m3,t3⟩
 have E:=zc N
 have z:=zc Q
 have ag:=zc X2
 have ad:=zc m3
 have aa:=zc t3
 clear m3 t3 N Q X2
 obtain⟨b0,b1,b2,b3,b4,b5,b6,b7,b8,b9,ak,an,bf⟩:=z.out.box
 obtain⟨c0,c1,c2,c3,c4,c5,c6,c7,c8,c9,am,al,cf⟩:=ag.out.box
 go_wp2
 refine bodyPost_ret (results_cell_row rfl _ _ (w.heap.size+1) 55 _ (0,0) _ rfl ((z.out.put ..)).heap Tryz.underlying55 rfl (by kernel_rfl)) rfl ?_
 rw[HV.out]
 exact zac rfl (show Is (.error (zu (Cx.mk o j false) q.pos)) q2 _ from rfl) (ad.out.put z.out ..) (aa.out.put (by omega) ..)
theorem zm7 (J:List Tk) (o:Nat) (I E z:Nat) (S:Sv) (q:PS) (d:Nat) (w:World) (L:Mem (Cx.mk J o false) I E z S q w) (H:Nat):
  Calls Tryz.prog 128 #[pv (Cx.mk J o false) I E S q (H:Int) d] w (Out (Cx.mk J o false) I E z (.error H) d S w):=by
 have HM:=zc L
 have Y:=L.tok
 have O:(Cx.mk J o false).ts.length≤4000:=L.few
 have ai:=(zan L.tok).1
 clear L
 have hz: ¬(H:Int)<0:=by omega
 have hs: ∀k s,(decide ((H:Int)<0)&&isT (Cx.mk J o false) q.pos k s)=false:=fun k s=>by rw[decide_eq_false hz];rfl
 unfold pv
 go_enter Tryz.func128,Tryz.ntmps128
 go_wp2_with fail
 refine (zj (Cx.mk J o false) I E z S q (H:Int) d 4 cOpen _ (zv (zv Y _) _) O (by decide)).mono ?_
 rintro e w1 ⟨rfl,V⟩
 rw[hs]
 obtain⟨N,Q,m1,t1⟩:=HM.out.two V
 have D:=zc N
 have j:=zc Q
 have M:=zc m1
 have U:=zc t1
 clear N Q m1 t1 V
 obtain⟨a0,a1,a2,a3,a4,a5,a6,a7,a8,a9,ae,ac,af⟩:=D.out.box
 go_wp2_with fail
 refine (zbz (Cx.mk J o false) I E z (.error H) S q (H:Int) d false _ (show Is (.error H) q _ from rfl) M.out).mono ?_
 rintro e w2 ⟨Z,q2,z2,n2,rfl,i2,m2,s2⟩
 replace D:=zc (D.out.stp s2)
 replace j:=zc (j.out.stp s2)
 have X:=zc (U.out.step s2)
 clear U
 have K:=zc m2
 have ab:=zc i2
 clear i2 m2 s2 M
 clear a0 a1 a2 a3 a4 a5 a6 a7 a8 a9 ae ac af
 obtain rfl:z2=(H:Int):=ab.out
 have dz:decide ((0:Int)≤(H:Int))=true:=decide_eq_true (by omega)
 have ah:w.heap.size+1<w2.heap.size:=j.out.lt
 unfold pv
 go_upto_region 17 with fail
 refine zQ (R:=fun W=>Bx I Z W (w.heap.size) _∧Bx I Z W (w.heap.size+1) _∧Bx I Z W (w2.heap.size) _∧Mem (Cx.mk J o false) I E z Z q2 W∧SB w.heap.size S w Z W) ⟨(D.out.alloc _),(j.out.alloc _),(Bx.new K.out _),(K.out.alloc _),(X.out.alloc _)⟩ ?_
 clear D j X K
 rintro w3 ⟨N,Q,X2,m3,t3⟩
 have D:=zc N
 have j:=zc Q
 have ag:=zc X2
 have ad:=zc m3
 have aa:=zc t3
 clear m3 t3 N Q X2
 obtain⟨b0,b1,b2,b3,b4,b5,b6,b7,b8,b9,aj,am,bf⟩:=j.out.box
 obtain⟨c0,c1,c2,c3,c4,c5,c6,c7,c8,c9,al,ak,cf⟩:=ag.out.box
 go_wp2
 refine bodyPost_ret (results_cell_row rfl _ _ (w.heap.size+1) 55 _ (0,0) _ rfl ((j.out.put ..)).heap Tryz.underlying55 rfl (by kernel_rfl)) rfl ?_
 exact zac rfl (show Is (.error H) q2 _ from rfl) (ad.out.put j.out ..) (aa.out.put (by omega) ..)
theorem zuG (o:List Tk) (j:Nat) (K E z:Nat) (S:Sv) (q:PS) (d:Nat) (w:World) (O:Mem (Cx.mk o j false) K E z S q w) (hk:((zf (Cx.mk o j false) q.pos).kind==2)=false) (ho:isT (Cx.mk o j false) q.pos 4 cOpen=false) (hp:q.pos<(Cx.mk o j false).ts.length) (hn:plainB (Cx.mk o j false) q.pos false=true) (hd:isT (Cx.mk o j false) (q.pos+1) 4 cPoint=false):
  Calls Tryz.prog 128 #[pv (Cx.mk o j false) K E S q (-1) d] w (Out (Cx.mk o j false) K E z (pE (Cx.mk o j false) .part d q) d S w):=by
 have HM:=zc O
 have M:=O.tok
 have L:(Cx.mk o j false).ts.length≤4000:=O.few
 have ap:=(zan O.tok).1
 clear O
 have HV:Hid (pE (Cx.mk o j false) .part d q=zau (Cx.mk o j false) (zf (Cx.mk o j false) q.pos).text (adv q)):=by show pE (Cx.mk o j false) .part d q=_;rw[zby,hk,ho,zk,hn];show (if isT (Cx.mk o j false) (adv q).pos 4 cPoint then _ else _)=_;rw[zz,hd];rfl
 have aq:q.pos<o.length:=hp
 obtain⟨c0,_,_,_⟩:=M.cells hp (d:=⟨0,sNone,0,(Cx.mk o j false).fin⟩)
 change _=some (Value.int .i64 (zf (Cx.mk o j false) q.pos).kind) at c0
 generalize (zf (Cx.mk o j false) q.pos).kind=kd at c0 hk
 unfold pv
 go_enter Tryz.func128,Tryz.ntmps128
 go_wp2_with fail
 refine (zj (Cx.mk o j false) K E z S q (-1) d 4 cOpen _ (zv (zv M _) _) L (by decide)).mono ?_
 rintro e w1 ⟨rfl,ac⟩
 rw[ho]
 obtain⟨X0,X1,m1,t1⟩:=HM.out.two ac
 have H:=zc X0
 have D:=zc X1
 have Y:=zc m1
 have Z:=zc t1
 clear X0 X1 m1 t1 ac
 obtain⟨a0,a1,a2,a3,a4,a5,a6,a7,a8,a9,an,ai,af⟩:=H.out.box
 go_wp2_with fail
 refine (zbz (Cx.mk o j false) K E z (.ok q) S q (-1) d false _ (zab q) Y.out).mono ?_
 rintro e w2 ⟨S2,U,z2,n2,rfl,i2,m2,s2⟩
 replace H:=zc (H.out.stp s2)
 replace D:=zc (D.out.stp s2)
 have ad:=zc (Z.out.step s2)
 clear Z
 have J:=zc m2
 have X:=zc i2
 clear i2 m2 s2 Y
 clear a0 a1 a2 a3 a4 a5 a6 a7 a8 a9 an ai af
 obtain⟨hq,rfl,aa⟩:=zhr X.out hn
 have HQ:=zc hq
 have ah:=zc aa
 have Q:U.pos=q.pos+1:=by rw[hq];rfl
 have ak:isT (Cx.mk o j false) U.pos 4 cPoint=false:=by rw[Q];exact hd
 clear hq aa X
 have ao:w.heap.size+1<w2.heap.size:=D.out.lt
 unfold pv
 clear Q
 go_wp2_with fail
 refine (zj (Cx.mk o j false) K E z S2 U (-1) d 4 cPoint _ (J.out.alloc _).tok L (by decide)).mono ?_
 rintro e w3 ⟨rfl,I⟩
 rw[ak]
 replace H:=zc ((H.out.alloc _).below I)
 replace D:=zc ((D.out.alloc _).below I)
 replace N:=zc ((Bx.new J.out _).below I)
 have V:Hid (SB w.heap.size S w S2 w3):=(ad.out.alloc _).below I
 have ab:Hid (Mem (Cx.mk o j false) K E z S2 U w3):=(J.out.alloc _).later I
 clear I ad J
 obtain⟨c0,c1,c2,c3,c4,c5,c6,c7,c8,c9,am,ag,cf⟩:=N.out.box
 go_wp2_with fail
 refine (zjf (Cx.mk o j false) K E z S2 U d n2 _ ab.out (by rw[HQ.out];simp[adv])).mono ?_
 rintro e w4 ⟨S4,q4,z4,rfl,i4,m4,s4⟩
 replace H:=zc (H.out.stp s4)
 replace D:=zc (D.out.stp s4)
 replace N:=zc (N.out.stp s4)
 have al:=zc (V.out.step s4)
 clear V
 have ae:=zc m4
 have aj:=zc i4
 clear i4 m4 s4 ab
 clear c0 c1 c2 c3 c4 c5 c6 c7 c8 c9 am ag cf
 obtain⟨b0,b1,b2,b3,b4,b5,b6,b7,b8,b9,ar,au,bf⟩:=D.out.box
 unfold pv
 go_wp2
 refine bodyPost_ret (results_cell_row rfl _ _ (w.heap.size+1) 55 _ (0,0) _ rfl ((D.out.put ..)).heap Tryz.underlying55 rfl (by kernel_rfl)) rfl ?_
 rw[HV.out,←HQ.out,←ah.out]
 exact zac rfl aj.out (ae.out.put D.out ..) (al.out.put (by omega) ..)
theorem zuH (E:List Tk) (j:Nat) (M I z:Nat) (S:Sv) (q:PS) (d:Nat) (w:World) (hm:Mem (Cx.mk E j false) M I z S q w) (hk:((zf (Cx.mk E j false) q.pos).kind==2)=false) (ho:isT (Cx.mk E j false) q.pos 4 cOpen=false) (hp:q.pos<(Cx.mk E j false).ts.length) (hn:plainB (Cx.mk E j false) q.pos false=true) (hd:isT (Cx.mk E j false) (q.pos+1) 4 cPoint=true):
  Calls Tryz.prog 128 #[pv (Cx.mk E j false) M I S q (-1) d] w (Out (Cx.mk E j false) M I z (pE (Cx.mk E j false) .part d q) d S w):=by
 have HM:=zc hm
 have ae:=hm.tok
 have N:(Cx.mk E j false).ts.length≤4000:=hm.few
 have aJ:=(zan hm.tok).1
 clear hm
 have HV:Hid (pE (Cx.mk E j false) .part d q=bd (bd (.ok (adv (adv q))) (zk (Cx.mk E j false) true)) fun y=>za5 (Cx.mk E j false) (zf (Cx.mk E j false) q.pos).text y.2 y.1):=by show pE (Cx.mk E j false) .part d q=_;rw[zby,hk,ho,zk,hn];show (if isT (Cx.mk E j false) (adv q).pos 4 cPoint then _ else _)=_;rw[zz,hd];rfl
 have aM:q.pos<E.length:=hp
 obtain⟨c0,_,_,_⟩:=ae.cells hp (d:=⟨0,sNone,0,(Cx.mk E j false).fin⟩)
 change _=some (Value.int .i64 (zf (Cx.mk E j false) q.pos).kind) at c0
 generalize (zf (Cx.mk E j false) q.pos).kind=kd at c0 hk
 unfold pv
 go_enter Tryz.func128,Tryz.ntmps128
 go_wp2_with fail
 refine (zj (Cx.mk E j false) M I z S q (-1) d 4 cOpen _ (zv (zv ae _) _) N (by decide)).mono ?_
 rintro e w1 ⟨rfl,av⟩
 rw[ho]
 obtain⟨X0,X1,m1,t1⟩:=HM.out.two av
 have D:=zc X0
 have o:=zc X1
 have al:=zc m1
 have aq:=zc t1
 clear X0 X1 m1 t1 av
 obtain⟨a0,a1,a2,a3,a4,a5,a6,a7,a8,a9,aG,aD,af⟩:=D.out.box
 go_wp2_with fail
 refine (zbz (Cx.mk E j false) M I z (.ok q) S q (-1) d false _ (zab q) al.out).mono ?_
 rintro e w2 ⟨S2,q2,z2,n2,rfl,i2,m2,s2⟩
 replace D:=zc (D.out.stp s2)
 replace o:=zc (o.out.stp s2)
 have ax:=zc (aq.out.step s2)
 clear aq
 have ac:=zc m2
 have ak:=zc i2
 clear i2 m2 s2 al
 clear a0 a1 a2 a3 a4 a5 a6 a7 a8 a9 aG aD af
 obtain⟨hq,rfl,ar⟩:=zhr ak.out hn
 have HQ:=zc hq
 have am:=zc ar
 have ah:q2.pos=q.pos+1:=by rw[hq];rfl
 have ao:isT (Cx.mk E j false) q2.pos 4 cPoint=true:=by rw[ah];exact hd
 clear hq ar ak
 have aI:w.heap.size+1<w2.heap.size:=o.out.lt
 unfold pv
 clear ah
 go_wp2_with fail
 refine (zj (Cx.mk E j false) M I z S2 q2 (-1) d 4 cPoint _ (ac.out.alloc _).tok N (by decide)).mono ?_
 rintro e w3 ⟨rfl,Q⟩
 rw[ao]
 replace D:=zc ((D.out.alloc _).below Q)
 replace o:=zc ((o.out.alloc _).below Q)
 replace H:=zc ((Bx.new ac.out _).below Q)
 have aj:Hid (SB w.heap.size S w S2 w3):=(ax.out.alloc _).below Q
 have au:Hid (Mem (Cx.mk E j false) M I z S2 q2 w3):=(ac.out.alloc _).later Q
 clear Q ax ac
 obtain⟨c0,c1,c2,c3,c4,c5,c6,c7,c8,c9,aF,aB,cf⟩:=H.out.box
 have ap:q2.pos<(Cx.mk E j false).ts.length:=za1 ao (by decide)
 have aL:q2.pos<E.length:=ap
 go_wp2_with fail
 refine (zbz (Cx.mk E j false) M I z (.ok (adv q2)) S2 (adv q2) (-1) d true _ (zab _) ((au.out.adv ap).set H.out 1 _)).mono ?_
 rintro e w4 ⟨S4,q4,z4,n4,rfl,i4,m4,s4⟩
 replace D:=zc ((D.out.set_other (by omega) 1 _).stp s4)
 replace o:=zc ((o.out.set_other (by omega) 1 _).stp s4)
 replace H:=zc ((H.out.at1 _).stp s4)
 have ab:Hid (SB w.heap.size S w S4 w4):=(aj.out.set (by omega) 1 _).step s4
 clear aj
 have L:=zc m4
 have Z:=zc i4
 clear i4 m4 s4 au
 clear c0 c1 c2 c3 c4 c5 c6 c7 c8 c9 aF aB cf
 have aK:w.heap.size+1<w4.heap.size:=o.out.lt
 have ay:w2.heap.size<w4.heap.size:=H.out.lt
 cases hc:(decide (z4<0)&&isT (Cx.mk E j false) q4.pos 4 cOpen) with
 |true=>
  unfold pv
  go_wp2_with fail
  refine (zj (Cx.mk E j false) M I z S4 q4 z4 d 4 cOpen _ (L.out.alloc _).tok N (by decide)).mono ?_
  rintro e w5 ⟨rfl,J⟩
  rw[hc]
  replace D:=zc ((D.out.alloc _).below J)
  replace o:=zc ((o.out.alloc _).below J)
  replace H:=zc ((H.out.alloc _).below J)
  replace K:=zc ((Bx.new L.out _).below J)
  have X:Hid (SB w.heap.size S w S4 w5):=(ab.out.alloc _).below J
  have U:Hid (Mem (Cx.mk E j false) M I z S4 q4 w5):=(L.out.alloc _).later J
  clear J ab L
  obtain⟨d0,d1,d2,d3,d4,d5,d6,d7,d8,d9,Y,V,df⟩:=K.out.box
  go_wp2_with fail
  refine (zah (Cx.mk E j false) M I z _ S4 q4 z4 d cOpen _ Z.out.fst U.out).mono ?_
  rintro e w6 ⟨S6,q6,z6,rfl,i6,m6,O⟩
  replace D:=zc (D.out.stp O)
  replace o:=zc (o.out.stp O)
  replace H:=zc (H.out.stp O)
  replace K:=zc (K.out.stp O)
  have ad:=zc (X.out.step O)
  clear X
  have aa:=zc m6
  have ag:=zc i6
  clear i6 m6 O U
  clear d0 d1 d2 d3 d4 d5 d6 d7 d8 d9 Y V df
  go_wp2_with fail
  refine (zah (Cx.mk E j false) M I z _ S6 q6 z6 d zU _ ag.out aa.out).mono ?_
  rintro e w7 ⟨S7,q7,z7,rfl,i7,m7,s7⟩
  replace D:=zc (D.out.stp s7)
  replace o:=zc (o.out.stp s7)
  replace H:=zc (H.out.stp s7)
  replace K:=zc (K.out.stp s7)
  have aw:=zc (ad.out.step s7)
  clear ad
  have ai:=zc m7
  have an:=zc i7
  clear i7 m7 s7 aa
  obtain⟨d0,d1,d2,d3,d4,d5,d6,d7,d8,d9,Y,V,df⟩:=K.out.box
  unfold pv
  go_wp2_with fail
  refine (zcX (Cx.mk E j false) M I z _ S7 q7 z7 d ⟨5,0,n2,n4,0,0⟩ _ an.out (ai.out.put K.out ..) (zb5 an.out)).mono ?_
  rintro e w8 ⟨S8,q8,z8,rfl,i8,m8,s8⟩
  replace D:=zc ((D.out.other (by omega) ..).stp s8)
  replace o:=zc ((o.out.other (by omega) ..).stp s8)
  replace H:=zc ((H.out.other (by omega) ..).stp s8)
  replace K:=zc ((K.out.put ..).stp s8)
  have az:Hid (SB w.heap.size S w S8 w8):=(aw.out.put (by omega) ..).step s8
  clear aw
  have aE:=zc m8
  have aC:=zc i8
  clear i8 m8 s8 ai
  clear d0 d1 d2 d3 d4 d5 d6 d7 d8 d9 Y V df
  obtain⟨b0,b1,b2,b3,b4,b5,b6,b7,b8,b9,aA,aH,bf⟩:=o.out.box
  unfold pv
  go_wp2
  refine bodyPost_ret (results_cell_row rfl _ _ (w.heap.size+1) 55 _ (0,0) _ rfl ((o.out.put ..)).heap Tryz.underlying55 rfl (by kernel_rfl)) rfl ?_
  rw[HV.out,←HQ.out,←am.out,←zm3 Z.out hc]
  exact zac rfl aC.out (aE.out.put o.out ..) (az.out.put (by omega) ..)
 |false=>
  unfold pv
  go_wp2_with fail
  refine (zj (Cx.mk E j false) M I z S4 q4 z4 d 4 cOpen _ (L.out.alloc _).tok N (by decide)).mono ?_
  rintro e w5 ⟨rfl,J⟩
  rw[hc]
  replace D:=zc ((D.out.alloc _).below J)
  replace o:=zc ((o.out.alloc _).below J)
  replace H:=zc ((H.out.alloc _).below J)
  replace K:=zc ((Bx.new L.out _).below J)
  have X:Hid (SB w.heap.size S w S4 w5):=(ab.out.alloc _).below J
  have U:Hid (Mem (Cx.mk E j false) M I z S4 q4 w5):=(L.out.alloc _).later J
  clear J ab L
  obtain⟨d0,d1,d2,d3,d4,d5,d6,d7,d8,d9,Y,V,df⟩:=K.out.box
  go_wp2_with fail
  refine (zcX (Cx.mk E j false) M I z _ S4 q4 z4 d ⟨4,0,n2,n4,0,0⟩ _ Z.out.fst U.out (zm5 Z.out)).mono ?_
  rintro e w6 ⟨S6,q6,z6,rfl,i6,m6,O⟩
  replace D:=zc (D.out.stp O)
  replace o:=zc (o.out.stp O)
  replace H:=zc (H.out.stp O)
  replace K:=zc (K.out.stp O)
  have ad:=zc (X.out.step O)
  clear X
  have aa:=zc m6
  have ag:=zc i6
  clear i6 m6 O U
  clear d0 d1 d2 d3 d4 d5 d6 d7 d8 d9 Y V df
  obtain⟨b0,b1,b2,b3,b4,b5,b6,b7,b8,b9,aA,aH,bf⟩:=o.out.box
  unfold pv
  go_wp2
  refine bodyPost_ret (results_cell_row rfl _ _ (w.heap.size+1) 55 _ (0,0) _ rfl ((o.out.put ..)).heap Tryz.underlying55 rfl (by kernel_rfl)) rfl ?_
  rw[HV.out,←HQ.out,←am.out,←zm4 Z.out hc]
  exact zac rfl ag.out (aa.out.put o.out ..) (ad.out.put (by omega) ..)
def zjg (C:Cx) (gt cap base m:Nat):Prop:=∀(x:PR) (S:Sv) (q:PS) (z:Int) (d:Nat) (w:World),Is x q z→Mem C gt cap base S q w→(z<0→C.ts.length-q.pos<m)→d≤20→
 Calls Tryz.prog 128 #[pv C gt cap S q z d] w (Out C gt cap base (bd x (pE C .part d)) d S w)
def zm8 (C:Cx) (gt cap base m:Nat):Prop:=∀(x:PR) (S:Sv) (q:PS) (z:Int) (d:Nat) (w:World),Is x q z→Mem C gt cap base S q w→(z<0→C.ts.length-q.pos<m)→d≤20→
 Calls Tryz.prog 102 #[pv C gt cap S q z d] w (Out C gt cap base (bd x (pE C .prod d)) d S w)
theorem SumOK.mono {C:Cx} {D o j m k:Nat} (h:SumOK C D o j m) (H:k≤m):SumOK C D o j k:=fun x S q z d w J K I E=>h x S q z d w J K (fun g=>Nat.lt_of_lt_of_le (I g) H) E
theorem zuI {C:Cx} {H D j m:Nat} (Y:SumOK C H D j m):zjg C H D j (m+1):=by
 intro x S q z d w X I Z hd
 by_cases Q:z<0
 ·obtain⟨rfl,rfl⟩:=zaF X Q
  rw[zh]
  have V:SumOK C H D j (C.ts.length-q.pos):=Y.mono (by have:=Z Q;omega)
  cases J:((zf C q.pos).kind==2) with
  |true=>exact zu6 C H D j S q d w I J
  |false=>
   cases L:isT C q.pos 4 cOpen with
   |true=>
    by_cases U:20≤d
    ·exact zu7 C H D j S q d w I J L U hd
    ·exact zu8 C H D j S q d w I J L (by omega) V
   |false=>
    obtain⟨E,o,N⟩:=C
    cases N with
    |true=>
     by_cases K:q.pos<E.length
     ·cases O:isT (Cx.mk E o true) q.pos 1 sUndef with
      |true=>exact zuB E o H D j S q d w I J L K O
      |false=>
       cases M:plainB (Cx.mk E o true) q.pos false with
       |false=>exact zuA E o H D j S q d w I J L K O M
       |true=>
        cases hd:isT (Cx.mk E o true) (q.pos+1) 4 cPoint with
        |false=>exact zuC E o H D j S q d w I J L K O M hd
        |true=>exact zuD E o H D j S q d w I J L K O M hd
     ·exact zu9 E o H D j S q d w I K
    |false=>
     by_cases K:q.pos<E.length
     ·cases M:plainB (Cx.mk E o false) q.pos false with
      |false=>exact zuF E o H D j S q d w I J L K M
      |true=>
       cases hd:isT (Cx.mk E o false) (q.pos+1) 4 cPoint with
       |false=>exact zuG E o H D j S q d w I J L K M hd
       |true=>exact zuH E o H D j S q d w I J L K M hd
     ·exact zuE E o H D j S q d w I K
 ·obtain⟨e,rfl,rfl⟩:=zd2 X Q
  rw[zec]
  obtain⟨E,o,N⟩:=C
  cases N with
  |true=>exact zm6 E o H D j S q d w I e
  |false=>exact zm7 E o H D j S q d w I e
theorem zjh {C:Cx} {x:PR} {q:PS} {z:Int} (h:Is x q z) (F:PS→Ex):bd x (zJ C (F q))=bd x fun q'=>zJ C (F q') q':=by
 cases x with
 |ok a=>obtain⟨rfl,_⟩:=h;rfl
 |error e=>rfl
theorem zm9 {C:Cx} {y:PS→Ex} {x:PR} {q:PS} {n:Nat} (j: ∀a,x= .ok a→n≤a.pos) (h:(bd x fun q'=>zJ C (y q') q')= .ok q):n≤q.pos:=by
 obtain⟨a,o,z⟩:=ze h
 obtain⟨rfl,_⟩:=zbx z
 exact j a o
theorem zuJ {C:Cx} {d m:Nat} {x:PR} {q q1:PS} {z j:Int} (o:Is x q z) (I:Is (bd x (pE C .part d)) q1 j) (J:z<0→C.ts.length-q.pos<m) (D:j<0):C.ts.length-q1.pos<m:=by
 obtain⟨e,_⟩:=zaF I D
 obtain⟨a,H,E⟩:=ze e
 subst H
 obtain⟨rfl,rfl⟩:=o
 have:=zbr E
 have:=J (by decide)
 omega
theorem zuK {C:Cx} {d m:Nat} {x:PR} {q q1:PS} {z j:Int} (o:Is x q z) (I:Is (bd x (pE C .prod d)) q1 j) (J:z<0→C.ts.length-q.pos<m) (D:j<0):C.ts.length-q1.pos<m:=by
 obtain⟨e,_⟩:=zaF I D
 obtain⟨a,H,E⟩:=ze e
 subst H
 obtain⟨rfl,rfl⟩:=o
 have:=zbr E
 have:=J (by decide)
 omega
theorem zuL {C:Cx} {d:Nat} {j q:PS} {z:Int} (h:Is (bd (.ok (adv j)) (pE C .part d)) q z) (o:z<0):1≤q.pos:=by
 obtain⟨e,_⟩:=zaF h o
 have:=zbr (show pE C .part d (adv j)= .ok q from e)
 rw[zz] at this
 omega
theorem zmA {C:Cx} {d:Nat} {j q:PS} {z:Int} (h:Is (bd (.ok (adv j)) (pE C .prod d)) q z) (o:z<0):1≤q.pos:=by
 obtain⟨e,_⟩:=zaF h o
 have:=zbr (show pE C .prod d (adv j)= .ok q from e)
 rw[zz] at this
 omega
theorem zuM {C:Cx} {d:Nat} {F:PS→Ex} {j q:PS} {z:Int} (h:Is (bd (bd (.ok (adv j)) (pE C .part d)) fun q'=>zJ C (F q') q') q z) (o:z<0):j.pos+1≤q.pos:=by
 obtain⟨e,_⟩:=zaF h o
 exact zm9 (fun a D=>by have:=zbr (show pE C .part d (adv j)= .ok a from D);rw[zz] at this;exact this) e
theorem zmB {C:Cx} {d:Nat} {F:PS→Ex} {j q:PS} {z:Int} (h:Is (bd (bd (.ok (adv j)) (pE C .prod d)) fun q'=>zJ C (F q') q') q z) (o:z<0):j.pos+1≤q.pos:=by
 obtain⟨e,_⟩:=zaF h o
 exact zm9 (fun a D=>by have:=zbr (show pE C .prod d (adv j)= .ok a from D);rw[zz] at this;exact this) e
theorem zuN {C:Cx} {d:Nat} {q:PS} (j:isT C q.pos 4 zp=true) (_:q.pos<C.ts.length):
  bd (.ok q) (pE C .prodT d)=bd (bd (bd (.ok (adv q)) (pE C .part d)) fun q'=>zJ C ⟨8,0,sNone,sNone,(q.ex.length:Int)-1,(q'.ex.length:Int)-1⟩ q') (pE C .prodT d):=by
 show pE C .prodT d q=_
 rw[zeK,if_pos j]
 rfl
theorem zmC {C:Cx} {d:Nat} {q:PS} {k:Int} (j:(isT C q.pos 4 zbq||isT C q.pos 4 zaI)=true) (o:zbw C q.pos=k) (_:q.pos<C.ts.length):
  bd (.ok q) (pE C .sumT d)=bd (bd (bd (.ok (adv q)) (pE C .prod d)) fun q'=>zJ C ⟨k,0,sNone,sNone,(q.ex.length:Int)-1,(q'.ex.length:Int)-1⟩ q') (pE C .sumT d):=by
 show pE C .sumT d q=_
 rw[zee,if_pos j,o]
 rfl
theorem zuO {C:Cx} {d:Nat} {x:PR} {q:PS} {z:Int} (j:Is x q z) (o:(decide (z<0)&&isT C q.pos 4 zp)=false):Is (bd x (pE C .prodT d)) q z:=by
 cases x with
 |ok a=>
  obtain⟨rfl,rfl⟩:=j
  rw[Bool.and_eq_false_iff] at o
  rw[zh,zeK,o.resolve_left (by decide)]
  exact⟨rfl,rfl⟩
 |error e=>exact j
theorem zuP {C:Cx} {d:Nat} {x:PR} {q:PS} {z:Int} (o:Is x q z) (D:(decide (z<0)&&isT C q.pos 4 zbq)=false) (j:(decide (z<0)&&isT C q.pos 4 zaI)=false):Is (bd x (pE C .sumT d)) q z:=by
 cases x with
 |ok a=>
  obtain⟨rfl,rfl⟩:=o
  rw[Bool.and_eq_false_iff] at D j
  rw[zh,zee,D.resolve_left (by decide),j.resolve_left (by decide)]
  exact⟨rfl,rfl⟩
 |error e=>exact o
theorem zuQ {C:Cx} {i:Nat} (h:isT C i 4 zbq=true):isT C i 4 zaI=false:=by
 simp only[isT,Bool.and_eq_true,beq_iff_eq] at h
 simp only[isT,h.2]
 rw[Bool.and_eq_false_iff]
 exact .inr (by simp)
theorem zmD {C:Cx} {V J H m:Nat} (hP:zjg C V J H m):zm8 C V J H m:=by
 intro x S q z d w hx hm hl ae
 have HP:=zc hP
 have HM:=zc hm
 have HX:=zc hx
 have HL:=zc hl
 have ag:=hm.few
 clear hP hm hx hl
 unfold pv
 go_enter Tryz.func102,Tryz.ntmps102
 go_wp2_with fail
 refine (HP.out x S q z d _ HX.out ((HM.out.alloc _).alloc _) HL.out ae).mono ?_
 rintro e w1 ⟨S1,q1,z1,rfl,i1,m1,s1⟩
 obtain⟨X0,X1,t1⟩:=HM.out.two2 s1
 have j:=zc X0
 have o:=zc X1
 have ar:=zc m1
 have av:=zc t1
 have al:=zc i1
 clear X0 X1 i1 m1 t1 s1
 obtain⟨Y,a1,Q,a3,a4,a5,Z,X,a8,N,E,D,U⟩:=j.out.box
 unfold pv
 go_wp2
 go_loopg [] (C.ts.length+1) (fun k wr=>∃(x':PR) (K:Sv) (L:PS) (z':Int),Is x' L z'∧bd x' (pE C .prodT d)=bd x (pE C .prod d)∧(z'<0→C.ts.length-L.pos<k)∧(z'<0→C.ts.length-L.pos<m)∧Mem C V J H K L wr∧SB w.heap.size S w K wr∧Bx V K wr w.heap.size #[.slice (some ⟨V,0,none⟩) C.ts.length J,.int .i64 L.pos,.int .i64 C.fin,.bool C.scr,.slice K.rq.a L.rq.length K.rq.cap,.slice K.im.a L.im.length K.im.cap,.slice K.ep.a L.ep.length K.ep.cap,.slice K.st.a L.st.length K.st.cap,.slice K.ex.a L.ex.length K.ex.cap,.slice K.la.a L.la.length K.la.cap,.int .i64 z',.int .i64 d]∧Bx V K wr (w.heap.size+1) #[.slice none 0 0,.int .i64 0,.int .i64 0,.bool false,.slice none 0 0,.slice none 0 0,.slice none 0 0,.slice none 0 0,.slice none 0 0,.slice none 0 0,.int .i64 0,.int .i64 0])
 case atStart=>exact⟨_,S1,q1,z1,al.out,by rw[zR];exact zaf fun a _=>(zf4 C d a).symm,fun _=>by omega,fun hz=>zuJ HX.out al.out HL.out hz,(ar.out.put j.out ..),(av.out.put (by omega) ..),(j.out.put ..),(o.out.other (by omega) ..)⟩
 case round=>
  obtain⟨x2,S2,O,z2,i2,e2,l2,b2,m2,t2,X0,X1⟩:=hrel
  have j:=zc X0
  have o:=zc X1
  have M:=zc m2
  have ac:=zc t2
  have ak:=zc i2
  have ao:=zc e2
  have aq:=zc l2
  have aw:=zc b2
  have aB:=m2.inv.ex
  clear X0 X1 i2 m2 t2 e2 l2 b2
  cases hc:(decide (z2<0)&&isT C O.pos 4 zp) with
  |true=>
   obtain⟨Y,a1,Q,a3,a4,a5,Z,X,a8,N,E,D,U⟩:=j.out.box
   go_wp2_with fail
   refine (zj C V J H S2 O z2 d 4 zp _ M.out.tok ag (by decide)).mono ?_
   rintro e w3 ⟨rfl,I⟩
   rw[hc]
   replace j:=zc (j.out.below I)
   replace o:=zc (o.out.below I)
   have aa:=zc (ac.out.below I)
   have ab:=zc (M.out.later I)
   clear I ac M
   clear Y a1 Q a3 a4 a5 Z X a8 N E D U
   rw[Bool.and_eq_true,decide_eq_true_eq] at hc
   obtain⟨hz,hs⟩:=hc
   have hp:O.pos<C.ts.length:=za1 hs (by decide)
   obtain⟨rfl,rfl⟩:=zaF ak.out hz
   have aA:=aq.out hz
   have aC:=aw.out hz
   skip
   obtain⟨Y,a1,Q,a3,a4,a5,Z,X,a8,N,E,D,U⟩:=j.out.box
   go_wp2_with fail
   refine (HP.out (.ok (adv O)) S2 (adv O) (-1) d _ (zab _) ((ab.out.adv hp).set j.out 1 _) (fun _=>by rw[zz];omega) ae).mono ?_
   rintro e w4 ⟨S4,q4,z4,rfl,i4,m4,s4⟩
   replace j:=zc ((j.out.at1 _).stp s4)
   replace o:=zc ((o.out.set_other (by omega) 1 _).stp s4)
   have an:Hid (SB w.heap.size S w S4 w4):=(aa.out.set (by omega) 1 _).step s4
   clear aa
   have aj:=zc m4
   have ai:=zc i4
   clear i4 m4 s4 ab
   clear Y a1 Q a3 a4 a5 Z X a8 N E D U
   obtain⟨Y,a1,Q,a3,a4,a5,Z,X,a8,N,E,D,U⟩:=j.out.box
   unfold pv
   go_upto_region 6 with fail
   refine zQ (R:=fun W=>Bx V S4 W (w.heap.size) _∧Bx V S4 W (w.heap.size+1) _∧Mem C V J H S4 q4 W∧SB w.heap.size S w S4 W) ⟨(j.out.put ..),(o.out.other (by omega) ..),(aj.out.put j.out ..),(an.out.put (by omega) ..)⟩ ?_
   clear Y a1 Q a3 a4 a5 Z X a8 N E D U
   clear j o an aj
   rintro w5 ⟨X0,X1,m5,t5⟩
   have j:=zc X0
   have o:=zc X1
   have ah:=zc m5
   have am:=zc t5
   clear m5 t5 X0 X1
   obtain⟨Y,a1,Q,a3,a4,a5,Z,X,a8,N,E,D,U⟩:=j.out.box
   have ay:=ah.out.inv.ex
   go_wp2_with fail
   refine (zcX C V J H _ S4 q4 z4 d ⟨8,0,sNone,sNone,(O.ex.length:Int)-1,(q4.ex.length:Int)-1⟩ _ ai.out ah.out (fun h=>zuL ai.out h)).mono ?_
   rintro e w6 ⟨S6,q6,z6,rfl,i6,m6,s6⟩
   replace j:=zc (j.out.stp s6)
   replace o:=zc (o.out.stp s6)
   have ax:=zc (am.out.step s6)
   clear am
   have ap:=zc m6
   have au:=zc i6
   clear i6 m6 s6 ah
   clear Y a1 Q a3 a4 a5 Z X a8 N E D U
   have HI:Hid (Is (bd (bd (.ok (adv O)) (pE C .part d)) fun L=>zJ C ⟨8,0,sNone,sNone,(O.ex.length:Int)-1,(L.ex.length:Int)-1⟩ L) q6 z6):=by rw[←zjh ai.out (fun L=>⟨8,0,sNone,sNone,(O.ex.length:Int)-1,(L.ex.length:Int)-1⟩)];exact au.out
   have ad:Hid (z6<0→O.pos+1≤q6.pos):=fun h=>zuM HI.out h
   obtain⟨Y,a1,Q,a3,a4,a5,Z,X,a8,N,E,D,U⟩:=j.out.box
   unfold pv
   go_wp2
   go_roundg (gk-1)
   case rel=>exact⟨_,S6,q6,z6,HI.out,by rw[←ao.out];exact (zuN (d:=d) hs hp).symm,fun h=>by have:=ad.out h;omega,fun h=>by have:=ad.out h;omega,(ap.out.put j.out ..),(ax.out.put (by omega) ..),(j.out.put ..),(o.out.other (by omega) ..)⟩
   case measure=>omega
  |false=>
   obtain⟨Y,a1,Q,a3,a4,a5,Z,X,a8,N,E,D,U⟩:=j.out.box
   go_wp2_with fail
   refine (zj C V J H S2 O z2 d 4 zp _ M.out.tok ag (by decide)).mono ?_
   rintro e w3 ⟨rfl,I⟩
   rw[hc]
   replace j:=zc (j.out.below I)
   replace o:=zc (o.out.below I)
   have aa:=zc (ac.out.below I)
   have ab:=zc (M.out.later I)
   clear I ac M
   clear Y a1 Q a3 a4 a5 Z X a8 N E D U
   obtain⟨Y,a1,Q,a3,a4,a5,Z,X,a8,N,E,D,U⟩:=j.out.box
   obtain⟨b0,b1,b2,b3,b4,b5,b6,b7,b8,b9,az,aD,bf⟩:=o.out.box
   go_wp2
   refine bodyPost_ret (results_cell_row rfl _ _ (w.heap.size+1) 55 _ (0,0) _ rfl ((o.out.put ..)).heap Tryz.underlying55 rfl (by kernel_rfl)) rfl ?_
   exact zac rfl (show Is (bd x (pE C .prod d)) O z2 from by rw[←ao.out];exact zuO ak.out hc) (ab.out.put o.out ..) (aa.out.put (by omega) ..)
theorem zmE {C:Cx} {gt K H m:Nat} (hP:zm8 C gt K H m):SumOK C gt K H m:=by
 intro x S q z d w hx hm hl an
 have HP:=zc hP
 have HM:=zc hm
 have HX:=zc hx
 have HL:=zc hl
 have ac:=hm.few
 clear hP hm hx hl
 unfold pv
 go_enter Tryz.func53,Tryz.ntmps53
 go_wp2_with fail
 refine (HP.out x S q z d _ HX.out ((HM.out.alloc _).alloc _) HL.out an).mono ?_
 rintro e w1 ⟨S1,q1,z1,rfl,i1,m1,s1⟩
 obtain⟨X0,X1,t1⟩:=HM.out.two2 s1
 have j:=zc X0
 have o:=zc X1
 have aG:=zc m1
 have aK:=zc t1
 have aA:=zc i1
 clear X0 X1 i1 m1 t1 s1
 obtain⟨Q,X,M,Y,a4,V,U,O,Z,L,E,D,N⟩:=j.out.box
 unfold pv
 go_wp2
 go_loopg [] (C.ts.length+1) (fun k wr=>∃(x':PR) (S':Sv) (q':PS) (z':Int),Is x' q' z'∧bd x' (pE C .sumT d)=bd x (pE C .sum d)∧(z'<0→C.ts.length-q'.pos<k)∧(z'<0→C.ts.length-q'.pos<m)∧Mem C gt K H S' q' wr∧SB w.heap.size S w S' wr∧Bx gt S' wr w.heap.size #[.slice (some ⟨gt,0,none⟩) C.ts.length K,.int .i64 q'.pos,.int .i64 C.fin,.bool C.scr,.slice S'.rq.a q'.rq.length S'.rq.cap,.slice S'.im.a q'.im.length S'.im.cap,.slice S'.ep.a q'.ep.length S'.ep.cap,.slice S'.st.a q'.st.length S'.st.cap,.slice S'.ex.a q'.ex.length S'.ex.cap,.slice S'.la.a q'.la.length S'.la.cap,.int .i64 z',.int .i64 d]∧Bx gt S' wr (w.heap.size+1) #[.slice none 0 0,.int .i64 0,.int .i64 0,.bool false,.slice none 0 0,.slice none 0 0,.slice none 0 0,.slice none 0 0,.slice none 0 0,.slice none 0 0,.int .i64 0,.int .i64 0])
 case atStart=>exact⟨_,S1,q1,z1,aA.out,by rw[zR];exact zaf fun a _=>(zh9 C d a).symm,fun _=>by omega,fun hz=>zuK HX.out aA.out HL.out hz,(aG.out.put j.out ..),(aK.out.put (by omega) ..),(j.out.put ..),(o.out.other (by omega) ..)⟩
 case round=>
  obtain⟨x2,S2,J,z2,i2,e2,l2,b2,m2,t2,X0,X1⟩:=hrel
  have j:=zc X0
  have o:=zc X1
  have ak:=zc m2
  have au:=zc t2
  have av:=zc i2
  have ax:=zc e2
  have az:=zc l2
  have aD:=zc b2
  have aN:=m2.inv.ex
  clear X0 X1 i2 m2 t2 e2 l2 b2
  cases hc:(decide (z2<0)&&isT C J.pos 4 zbq) with
  |true=>
   obtain⟨Q,X,M,Y,a4,V,U,O,Z,L,E,D,N⟩:=j.out.box
   go_wp2_with fail
   refine (zj C gt K H S2 J z2 d 4 zbq _ ak.out.tok ac (by decide)).mono ?_
   rintro e w3 ⟨rfl,aa⟩
   rw[hc]
   replace j:=zc (j.out.below aa)
   replace o:=zc (o.out.below aa)
   have ah:=zc (au.out.below aa)
   have ab:=zc (ak.out.later aa)
   clear aa au ak
   clear Q X M Y a4 V U O Z L E D N
   rw[Bool.and_eq_true,decide_eq_true_eq] at hc
   obtain⟨hz,hs⟩:=hc
   have aC:isT C J.pos 4 zaI=false:=zuQ hs
   have ad:(decide (z2<0)&&isT C J.pos 4 zaI)=false:=by rw[aC,Bool.and_false]
   obtain⟨Q,X,M,Y,a4,V,U,O,Z,L,E,D,N⟩:=j.out.box
   go_wp2_with fail
   refine (zj C gt K H S2 J z2 d 4 zaI _ ab.out.tok ac (by decide)).mono ?_
   rintro e w4 ⟨rfl,I⟩
   rw[ad]
   replace j:=zc (j.out.below I)
   replace o:=zc (o.out.below I)
   have ai:=zc (ah.out.below I)
   have ag:=zc (ab.out.later I)
   clear I ah ab
   clear Q X M Y a4 V U O Z L E D N
   clear ad
   have hp:J.pos<C.ts.length:=za1 hs (by decide)
   obtain⟨rfl,rfl⟩:=zaF av.out hz
   have aH:=az.out hz
   have aL:=aD.out hz
   skip
   obtain⟨Q,X,M,Y,a4,V,U,O,Z,L,E,D,N⟩:=j.out.box
   go_wp2_with fail
   refine (HP.out (.ok (adv J)) S2 (adv J) (-1) d _ (zab _) ((ag.out.adv hp).set j.out 1 _) (fun _=>by rw[zz];omega) an).mono ?_
   rintro e w5 ⟨S5,q5,z5,rfl,i5,m5,s5⟩
   replace j:=zc ((j.out.at1 _).stp s5)
   replace o:=zc ((o.out.set_other (by omega) 1 _).stp s5)
   have ao:Hid (SB w.heap.size S w S5 w5):=(ai.out.set (by omega) 1 _).step s5
   clear ai
   have al:=zc m5
   have ay:=zc i5
   clear i5 m5 s5 ag
   clear Q X M Y a4 V U O Z L E D N
   obtain⟨Q,X,M,Y,a4,V,U,O,Z,L,E,D,N⟩:=j.out.box
   unfold pv
   go_upto_region 9 with fail
   refine zQ (R:=fun W=>Bx gt S5 W (w.heap.size) _∧Bx gt S5 W (w.heap.size+1) _∧Mem C gt K H S5 q5 W∧SB w.heap.size S w S5 W) ⟨(j.out.put ..),(o.out.other (by omega) ..),(al.out.put j.out ..),(ao.out.put (by omega) ..)⟩ ?_
   clear Q X M Y a4 V U O Z L E D N
   clear j o ao al
   rintro w6 ⟨X0,X1,m6,t6⟩
   have j:=zc X0
   have o:=zc X1
   have aj:=zc m6
   have ap:=zc t6
   clear m6 t6 X0 X1
   obtain⟨Q,X,M,Y,a4,V,U,O,Z,L,E,D,N⟩:=j.out.box
   have aB:=aj.out.inv.ex
   go_wp2_with fail
   refine (zcX C gt K H _ S5 q5 z5 d ⟨6,0,sNone,sNone,(J.ex.length:Int)-1,(q5.ex.length:Int)-1⟩ _ ay.out aj.out (fun h=>zmA ay.out h)).mono ?_
   rintro e w7 ⟨S7,q7,z7,rfl,i7,m7,s7⟩
   replace j:=zc (j.out.stp s7)
   replace o:=zc (o.out.stp s7)
   have ar:=zc (ap.out.step s7)
   clear ap
   have am:=zc m7
   have aJ:=zc i7
   clear i7 m7 s7 aj
   clear Q X M Y a4 V U O Z L E D N
   have HI:Hid (Is (bd (bd (.ok (adv J)) (pE C .prod d)) fun q'=>zJ C ⟨6,0,sNone,sNone,(J.ex.length:Int)-1,(q'.ex.length:Int)-1⟩ q') q7 z7):=by rw[←zjh ay.out (fun q'=>⟨6,0,sNone,sNone,(J.ex.length:Int)-1,(q'.ex.length:Int)-1⟩)];exact aJ.out
   have ae:Hid (z7<0→J.pos+1≤q7.pos):=fun h=>zmB HI.out h
   obtain⟨Q,X,M,Y,a4,V,U,O,Z,L,E,D,N⟩:=j.out.box
   unfold pv
   go_wp2
   go_roundg (gk-1)
   case rel=>exact⟨_,S7,q7,z7,HI.out,by rw[←ax.out];exact (zmC (d:=d) (by rw[hs];rfl) (show zbw C J.pos=6 by rw[zbw,aC];rfl) hp).symm,fun h=>by have:=ae.out h;omega,fun h=>by have:=ae.out h;omega,(am.out.put j.out ..),(ar.out.put (by omega) ..),(j.out.put ..),(o.out.other (by omega) ..)⟩
   case measure=>omega
  |false=>
   obtain⟨Q,X,M,Y,a4,V,U,O,Z,L,E,D,N⟩:=j.out.box
   go_wp2_with fail
   refine (zj C gt K H S2 J z2 d 4 zbq _ ak.out.tok ac (by decide)).mono ?_
   rintro e w3 ⟨rfl,aa⟩
   rw[hc]
   replace j:=zc (j.out.below aa)
   replace o:=zc (o.out.below aa)
   have ah:=zc (au.out.below aa)
   have ab:=zc (ak.out.later aa)
   clear aa au ak
   clear Q X M Y a4 V U O Z L E D N
   cases ad:(decide (z2<0)&&isT C J.pos 4 zaI) with
   |true=>
    obtain⟨Q,X,M,Y,a4,V,U,O,Z,L,E,D,N⟩:=j.out.box
    go_wp2_with fail
    refine (zj C gt K H S2 J z2 d 4 zaI _ ab.out.tok ac (by decide)).mono ?_
    rintro e w4 ⟨rfl,I⟩
    rw[ad]
    replace j:=zc (j.out.below I)
    replace o:=zc (o.out.below I)
    have ai:=zc (ah.out.below I)
    have ag:=zc (ab.out.later I)
    clear I ah ab
    clear Q X M Y a4 V U O Z L E D N
    obtain⟨Q,X,M,Y,a4,V,U,O,Z,L,E,D,N⟩:=j.out.box
    go_wp2_with fail
    refine (zj C gt K H S2 J z2 d 4 zaI _ ag.out.tok ac (by decide)).mono ?_
    rintro e w5 ⟨rfl,aq⟩
    rw[ad]
    replace j:=zc (j.out.below aq)
    replace o:=zc (o.out.below aq)
    have ao:=zc (ai.out.below aq)
    have al:=zc (ag.out.later aq)
    clear aq ai ag
    clear Q X M Y a4 V U O Z L E D N
    rw[Bool.and_eq_true,decide_eq_true_eq] at ad
    obtain⟨hz,hs⟩:=ad
    have hp:J.pos<C.ts.length:=za1 hs (by decide)
    obtain⟨rfl,rfl⟩:=zaF av.out hz
    have aH:=az.out hz
    have aL:=aD.out hz
    skip
    obtain⟨Q,X,M,Y,a4,V,U,O,Z,L,E,D,N⟩:=j.out.box
    go_wp2_with fail
    refine (HP.out (.ok (adv J)) S2 (adv J) (-1) d _ (zab _) ((al.out.adv hp).set j.out 1 _) (fun _=>by rw[zz];omega) an).mono ?_
    rintro e w6 ⟨S6,q6,z6,rfl,i6,m6,s6⟩
    replace j:=zc ((j.out.at1 _).stp s6)
    replace o:=zc ((o.out.set_other (by omega) 1 _).stp s6)
    have ap:Hid (SB w.heap.size S w S6 w6):=(ao.out.set (by omega) 1 _).step s6
    clear ao
    have aj:=zc m6
    have aw:=zc i6
    clear i6 m6 s6 al
    clear Q X M Y a4 V U O Z L E D N
    obtain⟨Q,X,M,Y,a4,V,U,O,Z,L,E,D,N⟩:=j.out.box
    unfold pv
    go_upto_region 9 with fail
    refine zQ (R:=fun W=>Bx gt S6 W (w.heap.size) _∧Bx gt S6 W (w.heap.size+1) _∧Mem C gt K H S6 q6 W∧SB w.heap.size S w S6 W) ⟨(j.out.put ..),(o.out.other (by omega) ..),(aj.out.put j.out ..),(ap.out.put (by omega) ..)⟩ ?_
    clear Q X M Y a4 V U O Z L E D N
    clear j o ap aj
    rintro w7 ⟨X0,X1,m7,t7⟩
    have j:=zc X0
    have o:=zc X1
    have am:=zc m7
    have ar:=zc t7
    clear m7 t7 X0 X1
    obtain⟨Q,X,M,Y,a4,V,U,O,Z,L,E,D,N⟩:=j.out.box
    have aB:=am.out.inv.ex
    go_wp2_with fail
    refine (zcX C gt K H _ S6 q6 z6 d ⟨7,0,sNone,sNone,(J.ex.length:Int)-1,(q6.ex.length:Int)-1⟩ _ aw.out am.out (fun h=>zmA aw.out h)).mono ?_
    rintro e w8 ⟨S8,q8,z8,rfl,i8,m8,s8⟩
    replace j:=zc (j.out.stp s8)
    replace o:=zc (o.out.stp s8)
    have aE:=zc (ar.out.step s8)
    clear ar
    have aI:=zc m8
    have aF:=zc i8
    clear i8 m8 s8 am
    clear Q X M Y a4 V U O Z L E D N
    have HI:Hid (Is (bd (bd (.ok (adv J)) (pE C .prod d)) fun q'=>zJ C ⟨7,0,sNone,sNone,(J.ex.length:Int)-1,(q'.ex.length:Int)-1⟩ q') q8 z8):=by rw[←zjh aw.out (fun q'=>⟨7,0,sNone,sNone,(J.ex.length:Int)-1,(q'.ex.length:Int)-1⟩)];exact aF.out
    have ae:Hid (z8<0→J.pos+1≤q8.pos):=fun h=>zmB HI.out h
    obtain⟨Q,X,M,Y,a4,V,U,O,Z,L,E,D,N⟩:=j.out.box
    unfold pv
    go_wp2
    go_roundg (gk-1)
    case rel=>exact⟨_,S8,q8,z8,HI.out,by rw[←ax.out];exact (zmC (d:=d) (by rw[hs,Bool.or_true]) (show zbw C J.pos=7 by rw[zbw,hs];rfl) hp).symm,fun h=>by have:=ae.out h;omega,fun h=>by have:=ae.out h;omega,(aI.out.put j.out ..),(aE.out.put (by omega) ..),(j.out.put ..),(o.out.other (by omega) ..)⟩
    case measure=>omega
   |false=>
    obtain⟨Q,X,M,Y,a4,V,U,O,Z,L,E,D,N⟩:=j.out.box
    go_wp2_with fail
    refine (zj C gt K H S2 J z2 d 4 zaI _ ab.out.tok ac (by decide)).mono ?_
    rintro e w4 ⟨rfl,I⟩
    rw[ad]
    replace j:=zc (j.out.below I)
    replace o:=zc (o.out.below I)
    have ai:=zc (ah.out.below I)
    have ag:=zc (ab.out.later I)
    clear I ah ab
    clear Q X M Y a4 V U O Z L E D N
    obtain⟨Q,X,M,Y,a4,V,U,O,Z,L,E,D,N⟩:=j.out.box
    obtain⟨b0,b1,b2,b3,b4,b5,b6,b7,b8,b9,aM,aO,bf⟩:=o.out.box
    go_wp2
    refine bodyPost_ret (results_cell_row rfl _ _ (w.heap.size+1) 55 _ (0,0) _ rfl ((o.out.put ..)).heap Tryz.underlying55 rfl (by kernel_rfl)) rfl ?_
    exact zac rfl (show Is (bd x (pE C .sum d)) J z2 from by rw[←ax.out];exact zuP av.out hc ad) (ag.out.put o.out ..) (ai.out.put (by omega) ..)
theorem zuR (C:Cx) (E o j:Nat):zjg C E o j 0:=by
 intro x S q z d w L J M hd
 by_cases K:z<0
 ·have:=M K
  omega
 ·obtain⟨e,rfl,rfl⟩:=zd2 L K
  rw[zec]
  obtain⟨I,D,H⟩:=C
  cases H with
  |true=>exact zm6 I D E o j S q d w J e
  |false=>exact zm7 I D E o j S q d w J e
theorem zuS (C:Cx) (z o j:Nat) (m:Nat):SumOK C z o j m:=by
 induction m with
 |zero=>exact zmE (zmD (zuR C z o j))
 |succ m D=>exact zmE (zmD (zuI D))
theorem zdp (C:Cx) (D o j:Nat) (x:PR) (S:Sv) (q:PS) (z:Int) (w:World) (E:Is x q z) (H:Mem C D o j S q w):
  Calls Tryz.prog 53 #[pv C D o S q z 0] w (Out C D o j (bd x (pE C .sum 0)) 0 S w):=
 zuS C D o j (C.ts.length+1) x S q z 0 w E H (fun _=>by omega) (by omega)
end Go.Proofs.YthfeoomfiafldaaGreat
