/-
  A row of pairs of names beside a program under way. No program is spoken of but for the numbers of its types.
  What spec's l4Tail answers: the walk.
  What spec's l4List answers: the walk.
  What spec's l4Part answers,if l4Sum answers so behind it: the walks.
  What spec's l4Part answers where no number and no bracket stands,in a script: the walks.
  What spec's l4Part answers where no number and no bracket stands: the walks.
  What spec's l4Part,l4Product and l4Sum answer: the walks of the two loops,and the three together.
-/
import Derived.Deep.DeepCutAuto
import Derived.Test.YthfeoomfiafldaaGreatCdModOkImplToSpecBox
namespace Go.Proofs.YthfeoomfiafldaaGreat
set_option maxRecDepth 100000
set_option maxHeartbeats 6400000
open Go.RowKit Go.PlainAid
structure Row (S:Sv) (w:World) (base B:Nat) (r:Rw) (l:List Ep):Prop where
 own:OwnR w base 77 4 r l.length (l.flatMap epL)
 free: ∀k,r.blk=some k→¬S.has k
 new: ∀k,r.blk=some k→B≤k
 addr: ∃g,r.a=some ⟨g,0,none⟩
theorem Row.ne {o b:Nat} {S:Sv} {w:World} {j B:Nat} {r:Rw} {l:List Ep} {cs:Array Value} (h:Row S w j B r l) (z:Bx o S w b cs): ∀k,r.blk=some k→k≠b:=by
 rintro k D rfl
 obtain⟨_,_,c,g⟩:=h.own.typed D
 rw[z.heap] at g
 simp only[Option.some.injEq,Obj.cells.injEq] at g
 exact absurd g.2.1 (by decide)
theorem Row.stp {S z:Sv} {w D:World} {j B:Nat} {r:Rw} {l:List Ep} (h:Row S w j B r l) (s:Stp S w z D):Row z D j B r l:=
 ⟨h.own.keep fun k o=>s.block k (h.own.typed o).2.1 (h.free k o),fun k o g=>(s.sub k g).elim (h.free k o) fun E=>by have:=(h.own.typed o).2.1;omega,h.new,h.addr⟩
theorem Row.below {S:Sv} {w o:World} {j B:Nat} {r:Rw} {l:List Ep} (h:Row S w j B r l) (s:Below w.heap.size w o):Row S o j B r l:=h.stp (Stp.below s)
theorem Row.alloc {S:Sv} {w:World} {j B:Nat} {r:Rw} {l:List Ep} (h:Row S w j B r l) (o:Obj):Row S (w.alloc o) j B r l:=h.below ((Below.refl _ _).alloc (Nat.le_refl _) _)
theorem Row.drew {S:Sv} {w:World} {j B:Nat} {r:Rw} {l:List Ep} (h:Row S w j B r l):Row S w.drew j B r l:=⟨h.own,h.free,h.new,h.addr⟩
theorem Row.set {o b:Nat} {S:Sv} {w:World} {j B:Nat} {r:Rw} {l:List Ep} {cs:Array Value} (h:Row S w j B r l) (z:Bx o S w b cs) (i:Nat) (u:Value):Row S (w.setCell ⟨b,i,none⟩ u) j B r l:=
 ⟨h.own.keep fun k D=>zx (h.ne z k D),h.free,h.new,h.addr⟩
theorem Row.put {V b:Nat} {S:Sv} {w:World} {j B:Nat} {r:Rw} {l:List Ep} {cs:Array Value} (h:Row S w j B r l) (U:Bx V S w b cs) (K Q O D H J L I E N o z:Value):Row S (set12 w b K Q O D H J L I E N o z) j B r l:=
 ⟨h.own.keep fun k M=>zgi (h.ne U k M) _ _ _ _ _ _ _ _ _ _ _ _,h.free,h.new,h.addr⟩
theorem Row.nil {C:Cx} {D o j B:Nat} {S:Sv} {q:PS} {w:World} (h:Mem C D o j S q w) (E:B≤w.heap.size):Row S (w.alloc (.cells #[] 77 (0,0))) j B ⟨some ⟨w.heap.size,0,none⟩,0⟩ []:=by
 refine⟨World.ownsRow_lit w #[] 0 h.base (by unfold maxLen;omega) rfl,fun k z g=>?_,fun k z=>?_,⟨_,rfl⟩⟩
 ·simp only[Rw.blk,Value.ownBlock,Option.some.injEq] at z
  have:=(h.own.has g).2
  omega
 ·simp only[Rw.blk,Value.ownBlock,Option.some.injEq] at z
  omega
theorem Row.grow {C:Cx} {L E j B:Nat} {S:Sv} {q:PS} {W H:World} {r J:Rw} {l:List Ep} {x:Ep} (h:Row S W j B r l) (D:Mem C L E j S q W) (U:B≤W.heap.size) (O:W.grownBy H r.blk) (N:OwnR H j 77 4 J (l.length+1) (l.flatMap epL++epL x)) (I:J.blk=r.blk∨J.blk=some W.heap.size):
  Row S H j B J (l++[x])∧Mem C L E j S q H:=by
 refine⟨⟨?_,fun k z g=>?_,fun k z=>?_,N.addr.resolve_left (by omega)⟩,?_⟩
 ·have e:(l++[x]).length=l.length+1:=by simp
  rw[e]
  simpa using N
 ·rcases I with e|e
  ·exact h.free k (by rw[←e];exact z) g
  ·have Q:W.heap.size=k:=Option.some.inj (e.symm.trans z)
   have:=(D.own.has g).2
   omega
 ·rcases I with e|e
  ·exact h.new k (by rw[←e];exact z)
  ·have Q:W.heap.size=k:=Option.some.inj (e.symm.trans z)
   omega
 ·have o: ∀k,k<W.heap.size→r.blk≠some k→H.heap[k]? =W.heap[k]?:=fun k z M=>O.block k z fun e=>M e.symm
  refine⟨D.own.keep fun k z=>o k (D.own.has z).2 fun e=>h.free k e z,D.inv,zbJ D.tok (o L (zan D.tok).1 fun e=>?_),D.few,Nat.le_trans D.base O.size⟩
  obtain⟨_,_,c,g⟩:=h.own.typed e
  obtain⟨V,K⟩:=zgy D.tok
  rw[g] at K
  simp only[Option.some.injEq,Obj.cells.injEq] at K
  exact absurd K.2.1 (by decide)
theorem Row.bx {D b:Nat} {S:Sv} {W z:World} {o B:Nat} {r:Rw} {l:List Ep} {cs:Array Value} (h:Row S W o B r l) (j:Bx D S W b cs) (E:W.grownBy z r.blk):Bx D S z b cs:=
 ⟨(E.block b j.lt fun e=>h.ne j b e.symm rfl).trans j.heap,j.free,j.ne⟩
theorem Row.sb {S S0:Sv} {w W D:World} {z:Nat} {B:Nat} {r:Rw} {l:List Ep} (h:Row S W z B r l) (j:SB B S0 w S W) (o:W.grownBy D r.blk):SB B S0 w S D:=
 ⟨o.os.trans j.os,o.tape.trans j.tape,o.output.trans j.output,Nat.le_trans j.size o.size,j.low,fun k H E=>(o.block k (by have:=j.size;have:=j.low;omega) fun e=>by have:=h.new k e.symm;omega).trans (j.block k H E),j.sub⟩
theorem Mem.list3 {C:Cx} {H E j:Nat} {S o:Sv} {q:PS} {w z:World} {D cb:Array Value} (h:Mem C H E j S q w) (s:Stp S (((w.alloc (.cells D 55 (0,0))).alloc (.cells cb 55 (0,0))).alloc (.cells #[] 77 (0,0))) o z):
  Bx H o z w.heap.size D∧Bx H o z (w.heap.size+1) cb∧Row o z j w.heap.size ⟨some ⟨w.heap.size+1+1,0,none⟩,0⟩ []∧SB w.heap.size S w o z:=by
 refine⟨(((Bx.new h _).alloc _).alloc _).stp s,?_,?_,(SB.start (zcW w _ _ _)).step s⟩
 ·have:=((Bx.new (h.alloc (.cells D 55 (0,0))) cb).alloc (.cells #[] 77 (0,0))).stp s
  rw[zX] at this
  exact this
 ·have:=(Row.nil (B:=w.heap.size) ((h.alloc (.cells D 55 (0,0))).alloc (.cells cb 55 (0,0))) (zcD w _ _).size).stp s
  rw[zcG] at this
  exact this
def Is3 (y:PRL) (q:PS) (z:Int) (l:List Ep):Prop:=
 match y with
 | .ok a=>q=a.1∧z= -1∧l=a.2
 | .error e=>z=(e:Int)
def zuz (C:Cx) (gt cap base:Nat) (y:PRL) (d:Nat) (S:Sv) (w:World) (e:Ending) (w':World):Prop:=
 ∃S' q' z' r l,e= .returned (.tuple #[pv C gt cap S' q' z' d,.slice r.a l.length r.cap,.bool (za2 l)])∧Is3 y q' z' l∧Mem C gt cap base S' q' w'∧Stp S w S' w'∧Row S' w' base w.heap.size r l∧l.length≤4001
theorem zmz (l:List Ep) (x:Ep):za2 (l++[x])=(za2 l||(x.loc.toList==[100,101,102,97,117,108,116])):=by simp[za2]
theorem zu0 {o:Func} {p u v:Tmp} {z:TypeId} (h:o.results= #[.cell p z,.tmp u,.tmp v]) (tmps:Array Value) (P:Program) (w:World):
  (results o tmps).run P w=((asAddr (tmps.getD p undef)).run P w).andThen fun a D=>((loadVar z a).run P D).andThen fun x j=>.ok (.tuple #[x,tmps.getD u undef,tmps.getD v undef]) j:=by
 simp only[results,h]
 simp[Sem.run_bind,Result.andThen]
theorem zm0 {P:Program} {z:Func} {p u v:Tmp} {j:TypeId} (h:z.results= #[.cell p j,.tmp u,.tmp v]) (tmps:Array Value) (w:World) (g:Nat) (t:TypeId) (cs:Array Value) (o:Nat×Nat) (d:TypeDesc)
  (E:tmps.getD p undef= .pointer (some ⟨g,0,none⟩)) (D:w.heap[g]? =some (.cells cs t o))
  (I:P.underlying j=some d) (hd:(match d with| .struct _| .array _ _=>true|_=>false)=true) (H:(P.info? j).map (·.size)=some cs.size):
  (results z tmps).run P w= .ok (.tuple #[.agg cs,tmps.getD u undef,tmps.getD v undef]) w:=by
 rw[zu0 h,E]
 simp[asAddr,Result.andThen,run_loadVar_row w g t j cs o d D I hd H]
theorem zb5 {C:Cx} {x:PR} {k:Int} {s:ByteArray} {q:PS} {z:Int} (h:Is (bd x (zd C k s)) q z):z<0→1≤q.pos:=by
 intro j
 obtain⟨e,_⟩:=zaF h j
 obtain⟨a,_,o⟩:=ze e
 obtain⟨rfl,_⟩:=zbh o
 simp[adv]
theorem zjf (C:Cx) (N D z:Nat) (S:Sv) (q:PS) (d:Nat) (nm:ByteArray) (w:World) (hm:Mem C N D z S q w) (hp:1≤q.pos):
  Calls Tryz.prog 144 #[pv C N D S q (-1) d,.string nm] w (Out C N D z (zau C nm q) d S w):=by
 have HM:=zc hm
 have E:=hm.tok
 have U:=hm.few
 clear hm
 cases hi:isT C q.pos 4 cOpen with
 |true=>
  have HV:Hid (zau C nm q=bd (bd (bd (.ok q) (zd C 4 cOpen)) (zd C 4 zU)) (zJ C ⟨3,0,nm,sNone,0,0⟩)):=if_pos hi
  unfold pv
  go_enter Tryz.func144,Tryz.ntmps144
  go_wp2_with fail
  refine (zj C N D z S q (-1) d 4 cOpen _ (zv (zv E _) _) U (by decide)).mono ?_
  rintro e w1 ⟨rfl,I⟩
  rw[hi]
  obtain⟨X0,X1,X,t1⟩:=HM.out.two I
  have o:=zc X0
  have j:=zc X1
  have K:=zc X
  have L:=zc t1
  clear X0 X1 X t1 I
  clear E
  obtain⟨a0,a1,Y,a3,a4,a5,a6,a7,a8,a9,H,J,af⟩:=o.out.box
  go_wp2_with fail
  refine (zah C N D z (.ok q) S q (-1) d cOpen _ (zab q) K.out).mono ?_
  rintro e w2 ⟨S2,q2,z2,rfl,i2,Z,O⟩
  replace o:=zc (o.out.stp O)
  replace j:=zc (j.out.stp O)
  have M:=zc (L.out.step O)
  clear L
  have Q:=zc Z
  have V:=zc i2
  clear i2 Z O K
  clear a0 a1 Y a3 a4 a5 a6 a7 a8 a9 H J af
  go_wp2_with fail
  refine (zah C N D z _ S2 q2 z2 d zU _ V.out Q.out).mono ?_
  rintro e w3 ⟨S3,q3,z3,rfl,i3,m3,s3⟩
  replace o:=zc (o.out.stp s3)
  replace j:=zc (j.out.stp s3)
  have ac:=zc (M.out.step s3)
  clear M
  have aa:=zc m3
  have ab:=zc i3
  clear i3 m3 s3 Q
  obtain⟨a0,a1,Y,a3,a4,a5,a6,a7,a8,a9,H,J,af⟩:=o.out.box
  unfold pv
  go_wp2_with fail
  refine (zcX C N D z _ S3 q3 z3 d ⟨3,0,nm,sNone,0,0⟩ _ ab.out (aa.out.put o.out ..) (zb5 ab.out)).mono ?_
  rintro e w4 ⟨S4,q4,z4,rfl,i4,m4,s4⟩
  replace o:=zc ((o.out.put ..).stp s4)
  replace j:=zc ((j.out.other (by omega) ..).stp s4)
  have ai:Hid (SB w.heap.size S w S4 w4):=(ac.out.put (by omega) ..).step s4
  clear ac
  have ag:=zc m4
  have ah:=zc i4
  clear i4 m4 s4 aa
  clear a0 a1 Y a3 a4 a5 a6 a7 a8 a9 H J af
  obtain⟨b0,b1,b2,b3,b4,b5,b6,b7,b8,b9,ad,ae,bf⟩:=j.out.box
  unfold pv
  go_wp2
  refine bodyPost_ret (results_cell_row rfl _ _ (w.heap.size+1) 55 _ (0,0) _ rfl ((j.out.put ..)).heap Tryz.underlying55 rfl (by kernel_rfl)) rfl ?_
  rw[HV.out]
  exact zac rfl ah.out (ag.out.put j.out ..) (ai.out.put (by omega) ..)
 |false=>
  have HV:Hid (zau C nm q=bd (.ok q) (zJ C ⟨2,0,nm,sNone,0,0⟩)):=by show zau C nm q=_;rw[zau,hi];rfl
  unfold pv
  go_enter Tryz.func144,Tryz.ntmps144
  go_wp2_with fail
  refine (zj C N D z S q (-1) d 4 cOpen _ (zv (zv E _) _) U (by decide)).mono ?_
  rintro e w1 ⟨rfl,I⟩
  rw[hi]
  obtain⟨X0,X1,X,t1⟩:=HM.out.two I
  have o:=zc X0
  have j:=zc X1
  have K:=zc X
  have L:=zc t1
  clear X0 X1 X t1 I
  clear E
  obtain⟨a0,a1,Y,a3,a4,a5,a6,a7,a8,a9,H,J,af⟩:=o.out.box
  go_wp2_with fail
  refine (zcX C N D z (.ok q) S q (-1) d ⟨2,0,nm,sNone,0,0⟩ _ (zab q) K.out (fun _=>hp)).mono ?_
  rintro e w2 ⟨S2,q2,z2,rfl,i2,Z,O⟩
  replace o:=zc (o.out.stp O)
  replace j:=zc (j.out.stp O)
  have M:=zc (L.out.step O)
  clear L
  have Q:=zc Z
  have V:=zc i2
  clear i2 Z O K
  clear a0 a1 Y a3 a4 a5 a6 a7 a8 a9 H J af
  obtain⟨b0,b1,b2,b3,b4,b5,b6,b7,b8,b9,ad,ae,bf⟩:=j.out.box
  unfold pv
  go_wp2
  refine bodyPost_ret (results_cell_row rfl _ _ (w.heap.size+1) 55 _ (0,0) _ rfl ((j.out.put ..)).heap Tryz.underlying55 rfl (by kernel_rfl)) rfl ?_
  rw[HV.out]
  exact zac rfl V.out (Q.out.put j.out ..) (M.out.put (by omega) ..)
theorem zu1 {C:Cx} {j:Bool} {l:List Ep} {Y:PRN} {D K:ByteArray} {Q L M:PS} {U I E:Int} (O:Is2 Y Q U D) (z:Is2 (bd Y (asP C j)) L I K) (H:(decide (I<0)&&isT C L.pos 4 zbv)=false) (o:Is (bd (za7 (bd Y (asP C j))) (zd C 4 zaJ)) M E):
  Is3 (bd Y fun a=>bd (asP C j a) fun b=>if isT C b.1.pos 4 zbv then zay C j (adv b.1) (l++[⟨0,b.2,a.2,sNone⟩]) else bd (zd C 4 zaJ b.1) fun q'=>.ok (q',l++[⟨0,b.2,a.2,sNone⟩])) M E (l++[⟨0,K,D,sNone⟩]):=by
 cases Y with
 |error e=>exact o
 |ok a=>
  obtain⟨_,_,rfl⟩:=O
  rw[zh] at z o ⊢
  cases N:asP C j a with
  |error e=>rw[N] at o;exact o
  |ok b=>
   rw[N] at z o
   obtain⟨rfl,rfl,rfl⟩:=z
   rw[Bool.and_eq_false_iff] at H
   rw[zh,H.resolve_left (by decide)]
   have e:bd (za7 (.ok b)) (zd C 4 zaJ)=zd C 4 zaJ b.1:=rfl
   rw[e] at o
   show Is3 (bd (zd C 4 zaJ b.1) _) _ _ _
   cases J:zd C 4 zaJ b.1 with
   |error e=>rw[J] at o;exact o
   |ok c=>rw[J] at o;exact⟨o.1,o.2,rfl⟩
theorem zu2 {C:Cx} {j:Bool} {l:List Ep} {z O E:PS} {K L:ByteArray} {N D:Int} (H:Is2 (bd (.ok z) (zk C true)) O N K) (o:Is2 (bd (bd (.ok z) (zk C true)) (asP C j)) E D L) (Q:D<0) (M:isT C E.pos 4 zbv=true):
  (bd (.ok z) fun q=>zay C j q l)=(bd (.ok (adv E)) fun q=>zay C j q (l++[⟨0,L,K,sNone⟩]))∧z.pos+1≤E.pos:=by
 rw[zh] at H o ⊢
 rw[zh,zeM]
 cases I:zk C true z with
 |error e=>rw[I] at o;have:D=(e:Int):=o;omega
 |ok a=>
  rw[I] at H o
  obtain⟨_,_,rfl⟩:=H
  rw[zh] at o ⊢
  obtain⟨rfl,_⟩:=zaX I
  cases J:asP C j (adv z,(zf C z.pos).text) with
  |error e=>rw[J] at o;have:D=(e:Int):=o;omega
  |ok b=>
   rw[J] at o
   obtain⟨rfl,rfl,rfl⟩:=o
   have:=zf6 J
   rw[zh,M]
   exact⟨rfl,this⟩
theorem zu3 {C:Cx} {j:Bool} {x:PR} {q D:PS} {z o:Int} {l:List Ep} (H:Is x q z) (E: ¬z<0) (I:Is (bd x (zd C 4 zaJ)) D o):Is3 (bd x fun q=>zay C j q l) D o l:=by
 obtain⟨e,rfl,_⟩:=zd2 H E
 exact I
theorem zu4 {C:Cx} {j:Bool} {Y:PRN} {z E:PS} {o D:Int} {K I:ByteArray} (H:Is2 Y z o K) (J:(decide (o<0)&&isT C z.pos 1 sAs)=true) (L:Is2 (bd (.ok (adv z)) (zk C j)) E D I):Is2 (bd Y (asP C j)) E D I:=by
 rw[Bool.and_eq_true,decide_eq_true_eq] at J
 cases Y with
 |error e=>have:o=(e:Int):=H;omega
 |ok a=>
  obtain⟨rfl,_,_⟩:=H
  rw[zh,asP,if_pos J.2]
  exact L
theorem zu5 {C:Cx} {D:Bool} {Y:PRN} {o:PS} {j:Int} {z:ByteArray} (E:Is2 Y o j z) (H:(decide (j<0)&&isT C o.pos 1 sAs)=false) (hd:((z.toList==[100,101,102,97,117,108,116])&& !exp)=true):Is2 (bd Y (asP C D)) o (zbC C o.pos j) z:=by
 cases Y with
 |error e=>
  have h:j=(e:Int):=E
  show zbC C o.pos j=(e:Int)
  rw[zbC,if_neg (by omega)]
  exact h
 |ok a=>
  obtain⟨rfl,rfl,rfl⟩:=E
  rw[Bool.and_eq_false_iff] at H
  rw[zh,asP,H.resolve_left (by decide),hd]
  rfl
theorem zm1 {C:Cx} {o:Bool} {Y:PRN} {D:PS} {z:Int} {j:ByteArray} (E:Is2 Y D z j) (H:(decide (z<0)&&isT C D.pos 1 sAs)=false) (hd:((j.toList==[100,101,102,97,117,108,116])&& !exp)=false):Is2 (bd Y (asP C o)) D z j:=by
 cases Y with
 |error e=>exact E
 |ok a=>
  obtain⟨rfl,rfl,rfl⟩:=E
  rw[Bool.and_eq_false_iff] at H
  rw[zh,asP,H.resolve_left (by decide),hd]
  exact⟨rfl,rfl,rfl⟩
theorem zm2 (C:Cx) (M L D:Nat) (S:Sv) (q:PS) (d:Nat) (ag:Bool) (w:World) (hm:Mem C M L D S q w):
  Calls Tryz.prog 96 #[pv C M L S q (-1) d,.bool ag] w (zuz C M L D (zbB C ag q) d S w):=by
 obtain⟨i0,hi,aF,aL,aO⟩:=info_parts Tryz.infoExp
 have HM:=zc hm
 have aj:=hm.few
 clear hm
 unfold pv
 go_enter Tryz.func96,Tryz.ntmps96
 go_wp2_with fail
 refine (zah C M L D (.ok q) S q (-1) d zF _ (zab q) (((HM.out.alloc _).alloc _).alloc _)).mono ?_
 rintro e w1 ⟨S1,q1,z1,rfl,i1,m1,s1⟩
 obtain⟨X0,X1,R0,t1⟩:=HM.out.list3 s1
 have j:=zc X0
 have z:=zc X1
 have E:=zc R0
 have aX:=zc t1
 have aW:=zc m1
 have aQ:=zc i1
 clear i1 m1 s1 X0 X1 R0 t1
 obtain⟨a0,a1,X,Y,Z,a5,a6,a7,a8,a9,H,I,af⟩:=j.out.box
 unfold pv
 go_wp2
 go_loopg [7,8] (C.ts.length+1) (fun k o an wr=>∃(x':PR) (S':Sv) (q':PS) (z':Int) (r:Rw) (l:List Ep),Is x' q' z'∧bd x' (fun q=>zay C ag q l)=zbB C ag q∧(z'<0→C.ts.length-q'.pos<k)∧(l.length≤q'.pos∨l=[])∧o= .slice r.a l.length r.cap∧an= .bool (za2 l)∧Mem C M L D S' q' wr∧SB w.heap.size S w S' wr∧Bx M S' wr w.heap.size #[.slice (some ⟨M,0,none⟩) C.ts.length L,.int .i64 q'.pos,.int .i64 C.fin,.bool C.scr,.slice S'.rq.a q'.rq.length S'.rq.cap,.slice S'.im.a q'.im.length S'.im.cap,.slice S'.ep.a q'.ep.length S'.ep.cap,.slice S'.st.a q'.st.length S'.st.cap,.slice S'.ex.a q'.ex.length S'.ex.cap,.slice S'.la.a q'.la.length S'.la.cap,.int .i64 z',.int .i64 d]∧Bx M S' wr (w.heap.size+1) #[.slice none 0 0,.int .i64 0,.int .i64 0,.bool false,.slice none 0 0,.slice none 0 0,.slice none 0 0,.slice none 0 0,.slice none 0 0,.slice none 0 0,.int .i64 0,.int .i64 0]∧Row S' wr D w.heap.size r l)
 case atStart=>exact⟨_,S1,q1,z1,_,[],aQ.out,rfl,fun _=>by omega,.inr rfl,rfl,rfl,(aW.out.put j.out ..),(aX.out.put (by omega) ..),(j.out.put ..),(z.out.other (by omega) ..),(E.out.put j.out ..)⟩
 case round=>
  obtain⟨x2,S2,q2,z2,r,l,i2,e2,l2,n2,rfl,rfl,m2,t2,X0,X1,R0⟩:=hrel
  have j:=zc X0
  have z:=zc X1
  have ap:=zc m2
  have am:=zc t2
  have aw:=zc i2
  have av:=zc e2
  have aR:=zc l2
  have E:=zc R0
  have bc:l.length≤4000:=n2.elim (fun g=>by have:=m2.inv.pos;omega) (fun g=>by rw[g];simp)
  have aK:=zc n2
  clear X0 X1 i2 m2 t2 e2 l2 R0 n2
  by_cases hz:z2<0
  ·skip
   obtain⟨rfl,rfl⟩:=zaF aw.out hz
   have bg:=aR.out hz
   obtain⟨a0,a1,X,Y,Z,a5,a6,a7,a8,a9,H,I,af⟩:=j.out.box
   go_wp2_with fail
   refine (zbz C M L D (.ok q2) S2 q2 (-1) d true _ (zab q2) ap.out).mono ?_
   rintro e w3 ⟨V,q3,z3,n3,rfl,i3,m3,s3⟩
   replace j:=zc (j.out.stp s3)
   replace z:=zc (z.out.stp s3)
   have aq:=zc (am.out.step s3)
   have K:Hid (Row V w3 D w.heap.size r l):=E.out.stp s3
   clear E
   have E:=zc K
   clear K
   clear am
   have al:=zc m3
   have ac:=zc i3
   clear i3 m3 s3 ap
   clear a0 a1 X Y Z a5 a6 a7 a8 a9 H I af
   have bb:w.heap.size+1<w3.heap.size:=z.out.lt
   unfold pv
   go_upto_region 6 with fail
   refine zQ (R:=fun W=>Bx M V W (w.heap.size) _∧Bx M V W (w.heap.size+1) _∧Bx M V W (w3.heap.size) _∧Row V W D w.heap.size r l∧Mem C M L D V q3 W∧SB w.heap.size S w V W) ⟨(j.out.alloc _),(z.out.alloc _),(Bx.new al.out _),(E.out.alloc _),(al.out.alloc _),(aq.out.alloc _)⟩ ?_
   clear j z aq al
   clear E
   rintro w4 ⟨X0,X1,X2,R0,m4,t4⟩
   have E:=zc R0
   clear R0
   have j:=zc X0
   have z:=zc X1
   have N:=zc X2
   have aB:=zc m4
   have aC:=zc t4
   clear m4 t4 X0 X1 X2
   obtain⟨a0,a1,X,Y,Z,a5,a6,a7,a8,a9,H,I,af⟩:=j.out.box
   obtain⟨c0,c1,c2,c3,c4,c5,c6,c7,c8,c9,aT,aN,cf⟩:=N.out.box
   go_upto_region 7 with fail
   refine zQ (R:=fun W=>Bx M V W (w.heap.size) _∧Bx M V W (w.heap.size+1) _∧Bx M V W (w3.heap.size) _∧Row V W D w.heap.size r l∧Mem C M L D V q3 W∧SB w.heap.size S w V W) ⟨(j.out.put ..),(z.out.other (by omega) ..),(N.out.other (by omega) ..),(E.out.put j.out ..),(aB.out.put j.out ..),(aC.out.put (by omega) ..)⟩ ?_
   clear a0 a1 X Y Z a5 a6 a7 a8 a9 H I af c0 c1 c2 c3 c4 c5 c6 c7 c8 c9 aT aN cf
   clear j z N aC aB
   clear E
   rintro w5 ⟨X0,X1,X2,R0,m5,t5⟩
   have E:=zc R0
   clear R0
   have j:=zc X0
   have z:=zc X1
   have N:=zc X2
   have ai:=zc m5
   have ak:=zc t5
   clear m5 t5 X0 X1 X2
   skip
   obtain⟨a0,a1,X,Y,Z,a5,a6,a7,a8,a9,H,I,af⟩:=j.out.box
   skip
   go_wp2_with fail
   refine (zj C M L D V q3 z3 d 1 sAs _ ai.out.tok aj (by decide)).mono ?_
   rintro e w6 ⟨rfl,ah⟩
   replace j:=zc (j.out.below ah)
   replace z:=zc (z.out.below ah)
   replace N:=zc (N.out.below ah)
   have U:=zc (ak.out.below ah)
   have O:=zc (ai.out.later ah)
   have K:Hid (Row V w6 D w.heap.size r l):=E.out.below ah
   clear E
   have E:=zc K
   clear K
   clear ah ak ai
   clear a0 a1 X Y Z a5 a6 a7 a8 a9 H I af
   go_upto_if 28 with fail
   go_cut [11] (fun aP wx=>∃(Q:Sv) (q5:PS) (z5:Int) (n5:ByteArray),aP= .string n5∧Is2 (bd (bd (.ok q2) (zk C true)) (asP C ag)) q5 z5 n5∧Mem C M L D Q q5 wx∧SB w.heap.size S w Q wx∧Bx M Q wx w.heap.size #[.slice (some ⟨M,0,none⟩) C.ts.length L,.int .i64 q5.pos,.int .i64 C.fin,.bool C.scr,.slice Q.rq.a q5.rq.length Q.rq.cap,.slice Q.im.a q5.im.length Q.im.cap,.slice Q.ep.a q5.ep.length Q.ep.cap,.slice Q.st.a q5.st.length Q.st.cap,.slice Q.ex.a q5.ex.length Q.ex.cap,.slice Q.la.a q5.la.length Q.la.cap,.int .i64 z5,.int .i64 d]∧Bx M Q wx (w.heap.size+1) #[.slice none 0 0,.int .i64 0,.int .i64 0,.bool false,.slice none 0 0,.slice none 0 0,.slice none 0 0,.slice none 0 0,.slice none 0 0,.slice none 0 0,.int .i64 0,.int .i64 0]∧Row Q wx D w.heap.size r l)
   case first=>
    cases hb:(decide (z3<0)&&isT C q3.pos 1 sAs) with
    |true=>
     have aM:q3.pos<C.ts.length:=by rw[Bool.and_eq_true] at hb;exact za1 hb.2 (by decide)
     obtain⟨a0,a1,X,Y,Z,a5,a6,a7,a8,a9,H,I,af⟩:=j.out.box
     have aH:z3= -1:=by rw[Bool.and_eq_true,decide_eq_true_eq] at hb;exact (zaF ac.out.fst hb.1).2
     subst aH
     go_wp2_with fail
     refine (zbz C M L D (.ok (adv q3)) V (adv q3) (-1) d ag _ (zab _) ((O.out.adv aM).set j.out 1 _)).mono ?_
     rintro e w7 ⟨S7,q7,z7,n7,rfl,i7,m7,s7⟩
     have ad:Hid (Bx M S7 w7 _ _):=(j.out.at1 _).stp s7
     have ae:Hid (Bx M S7 w7 _ _):=(z.out.set_other (by omega) 1 _).stp s7
     have au:Hid (Bx M S7 w7 _ _):=(N.out.set_other (by omega) 1 _).stp s7
     have ab:Hid (SB w.heap.size S w S7 w7):=(U.out.set (by omega) 1 _).step s7
     replace E:=zc ((E.out.set j.out 1 _).stp s7)
     clear j z N U
     have j:=zc ad
     have z:=zc ae
     have N:=zc au
     clear ad ae au
     have aa:=zc m7
     have aU:=zc i7
     clear i7 m7 s7 O
     clear a0 a1 X Y Z a5 a6 a7 a8 a9 H I af
     have ba:w.heap.size+1<w7.heap.size:=z.out.lt
     have aE:w3.heap.size<w7.heap.size:=N.out.lt
     unfold pv
     go_upto_region 11 with fail
     refine zQ (R:=fun W=>Bx M S7 W (w.heap.size) _∧Bx M S7 W (w.heap.size+1) _∧Bx M S7 W (w3.heap.size) _∧Bx M S7 W (w7.heap.size) _∧Row S7 W D w.heap.size r l∧Mem C M L D S7 q7 W∧SB w.heap.size S w S7 W) ⟨(j.out.alloc _),(z.out.alloc _),(N.out.alloc _),(Bx.new aa.out _),(E.out.alloc _),(aa.out.alloc _),(ab.out.alloc _)⟩ ?_
     clear j z N ab aa
     clear E
     rintro w8 ⟨X0,X1,X2,X3,R0,m8,t8⟩
     have E:=zc R0
     clear R0
     have j:=zc X0
     have z:=zc X1
     have N:=zc X2
     have aY:=zc X3
     have ay:=zc m8
     have ax:=zc t8
     clear m8 t8 X0 X1 X2 X3
     obtain⟨a0,a1,X,Y,Z,a5,a6,a7,a8,a9,H,I,af⟩:=j.out.box
     obtain⟨d0,d1,d2,d3,d4,d5,d6,d7,d8,d9,bi,be,df⟩:=aY.out.box
     go_wp2
     go_meet
     case rel=>exact⟨S7,q7,z7,n7,rfl,zu4 ac.out hb aU.out,(ay.out.put j.out ..),(ax.out.put (by omega) ..),(j.out.put ..),(z.out.other (by omega) ..),(E.out.put j.out ..)⟩
    |false=>
     cases e3:(n3.toList==[100,101,102,97,117,108,116]) with
     |true=>
      cases ag with
      |false=>
       obtain⟨a0,a1,X,Y,Z,a5,a6,a7,a8,a9,H,I,af⟩:=j.out.box
       go_wp2_with fail
       refine (zd0 C M L D V q3 z3 d _ O.out.tok aj).mono ?_
       rintro e w7 ⟨rfl,J⟩
       replace j:=zc (j.out.below J)
       replace z:=zc (z.out.below J)
       replace N:=zc (N.out.below J)
       have ab:=zc (U.out.below J)
       have aa:=zc (O.out.later J)
       have K:Hid (Row V w7 D w.heap.size r l):=E.out.below J
       clear E
       have E:=zc K
       clear K
       clear J U O
       clear a0 a1 X Y Z a5 a6 a7 a8 a9 H I af
       obtain⟨a0,a1,X,Y,Z,a5,a6,a7,a8,a9,H,I,af⟩:=j.out.box
       unfold pv
       go_wp2
       go_meet
       case rel=>exact⟨V,q3,(zbC C q3.pos z3),n3,rfl,zu5 ac.out hb (by rw[e3];rfl),(aa.out.put j.out ..),(ab.out.put (by omega) ..),(j.out.put ..),(z.out.other (by omega) ..),(E.out.put j.out ..)⟩
      |true=>
       obtain⟨a0,a1,X,Y,Z,a5,a6,a7,a8,a9,H,I,af⟩:=j.out.box
       go_wp2
       go_meet
       case rel=>exact⟨V,q3,z3,n3,rfl,zm1 ac.out hb (by rw[e3];rfl),O.out,U.out,j.out,z.out,E.out⟩
     |false=>
      obtain⟨a0,a1,X,Y,Z,a5,a6,a7,a8,a9,H,I,af⟩:=j.out.box
      go_wp2
      go_meet
      case rel=>exact⟨V,q3,z3,n3,rfl,zm1 ac.out hb (by rw[e3];rfl),O.out,U.out,j.out,z.out,E.out⟩
   case rest=>
    obtain⟨Q,q5,z5,n5,rfl,i5,m5,t5,X0,X1,R0⟩:=hcut
    clear j z N E O U
    have j:=zc X0
    have z:=zc X1
    have ai:=zc m5
    have ak:=zc t5
    have ao:=zc i5
    have E:=zc R0
    clear X0 X1 i5 m5 t5 R0
    go_upto_region 15 with fail
    go_cut [8] (fun s8 wx=>s8= .bool (za2 l||(n3.toList==[100,101,102,97,117,108,116]))∧wx=wc)
    case first=>
     cases ha:za2 l with
     |true=>
      go_wp2
      go_meet
      case rel=>exact⟨by rw[ha];rfl,rfl⟩
     |false=>
      cases e3:(n3.toList==[100,101,102,97,117,108,116]) with
      |true=>
       go_wp2
       go_meet
       case rel=>exact⟨by rw[ha,e3];rfl,rfl⟩
      |false=>
       go_wp2
       go_meet
       case rel=>exact⟨by rw[ha,e3];rfl,rfl⟩
    case rest=>
     obtain⟨rfl,rfl⟩:=hcut
     have ar:=fun o=>E.out.own.alloc o
     have aZ:=ai.out.base
     go_wp2_with (at_builtin;refine zcC _ rfl _ _ 28 rfl D 77 i0 _ 4 56 Tryz.underlying28 hi aF aL aO rfl (by decide) (by decide) r l.length _ (by rfl) (ar _) wc.heap.size (epL ⟨0,n5,n3,sNone⟩) (by rfl) (by exact heap_alloc_new wc _) rfl (by intro u hu;simp[epL] at hu;rcases hu with rfl|rfl|rfl|rfl<;>rfl) (by omega) (by rw[zX];omega) ?_)
     intro r' w6 hr hg az
     obtain⟨R6,m6⟩:=(E.out.alloc _).grow (x:=⟨0,n5,n3,sNone⟩) (ai.out.alloc _) (by rw[zX];have:=ak.out.size;omega) hg hr (by rw[zX];exact az)
     have ad:Hid (Bx M Q w6 _ _):=(E.out.alloc _).bx (j.out.alloc _) hg
     have ae:Hid (Bx M Q w6 _ _):=(E.out.alloc _).bx (z.out.alloc _) hg
     have U:Hid (SB w.heap.size S w Q w6):=(E.out.alloc _).sb (ak.out.alloc _) hg
     have O:=zc m6
     clear j z E hr hg az ar aZ ai ak m6
     have j:=zc ad
     have z:=zc ae
     have E:=zc R6
     clear ad ae R6
     cases hc:(decide (z5<0)&&isT C q5.pos 4 zbv) with
     |true=>
      obtain⟨a0,a1,X,Y,Z,a5,a6,a7,a8,a9,H,I,af⟩:=j.out.box
      go_wp2_with fail
      refine (zj C M L D Q q5 z5 d 4 zbv _ O.out.tok aj (by decide)).mono ?_
      rintro e w7 ⟨rfl,J⟩
      rw[hc]
      replace j:=zc (j.out.below J)
      replace z:=zc (z.out.below J)
      have ab:=zc (U.out.below J)
      have aa:=zc (O.out.later J)
      have K:Hid (Row Q w7 D w.heap.size r' (l++[⟨0,n5,n3,sNone⟩])):=E.out.below J
      clear E
      have E:=zc K
      clear K
      clear J U O
      clear a0 a1 X Y Z a5 a6 a7 a8 a9 H I af
      rw[Bool.and_eq_true,decide_eq_true_eq] at hc
      obtain⟨aD,aA⟩:=hc
      have aI:q5.pos<C.ts.length:=za1 aA (by decide)
      obtain⟨E5,P5⟩:=zu2 (l:=l) ac.out ao.out aD aA
      have HE:=zc E5
      obtain rfl:z5= -1:=(zaF ao.out.fst aD).2
      have aV:Hid ((l++[(⟨0,n5,n3,sNone⟩:Ep)]).length≤q5.pos+1∨l++[(⟨0,n5,n3,sNone⟩:Ep)]=[]):=.inl (by simp only[List.length_append,List.length_singleton];exact aK.out.elim (fun g=>by omega) (fun g=>by rw[g];simp))
      clear E5
      obtain⟨a0,a1,X,Y,Z,a5,a6,a7,a8,a9,H,I,af⟩:=j.out.box
      go_wp2
      go_roundg (gk-1)
      case rel=>exact⟨.ok (adv q5),Q,adv q5,-1,r',l++[⟨0,n5,n3,sNone⟩],zab _,by rw[←av.out];exact HE.out.symm,fun _=>by rw[zz];omega,aV.out,by simp,by rw[zmz],((aa.out.adv aI).set j.out 1 _),(ab.out.set (by omega) 1 _),(j.out.at1 _),(z.out.set_other (by omega) 1 _),(E.out.set j.out 1 _)⟩
      case measure=>omega
     |false=>
      obtain⟨a0,a1,X,Y,Z,a5,a6,a7,a8,a9,H,I,af⟩:=j.out.box
      go_wp2_with fail
      refine (zj C M L D Q q5 z5 d 4 zbv _ O.out.tok aj (by decide)).mono ?_
      rintro e w7 ⟨rfl,J⟩
      rw[hc]
      replace j:=zc (j.out.below J)
      replace z:=zc (z.out.below J)
      have ab:=zc (U.out.below J)
      have aa:=zc (O.out.later J)
      have K:Hid (Row Q w7 D w.heap.size r' (l++[⟨0,n5,n3,sNone⟩])):=E.out.below J
      clear E
      have E:=zc K
      clear K
      clear J U O
      clear a0 a1 X Y Z a5 a6 a7 a8 a9 H I af
      obtain⟨a0,a1,X,Y,Z,a5,a6,a7,a8,a9,H,I,af⟩:=j.out.box
      go_wp2_with fail
      refine (zah C M L D _ Q q5 z5 d zaJ _ ao.out.fst aa.out).mono ?_
      rintro e w8 ⟨S8,q8,z8,rfl,i8,m8,s8⟩
      replace j:=zc (j.out.stp s8)
      replace z:=zc (z.out.stp s8)
      have ax:=zc (ab.out.step s8)
      have K:Hid (Row S8 w8 D w.heap.size r' (l++[⟨0,n5,n3,sNone⟩])):=E.out.stp s8
      clear E
      have E:=zc K
      clear K
      clear ab
      have ay:=zc m8
      have aG:=zc i8
      clear i8 m8 s8 aa
      clear a0 a1 X Y Z a5 a6 a7 a8 a9 H I af
      obtain⟨b0,b1,b2,b3,b4,b5,b6,b7,b8,b9,aJ,aS,bf⟩:=z.out.box
      unfold pv
      go_wp2
      refine bodyPost_ret (zm0 rfl _ _ (w.heap.size+1) 55 _ (0,0) _ rfl ((z.out.put ..)).heap Tryz.underlying55 rfl (by kernel_rfl)) rfl ?_
      exact⟨S8,q8,z8,r',l++[⟨0,n5,n3,sNone⟩],by simp[pv,zmz],by rw[←av.out,zh,zeM];exact zu1 ac.out ao.out hc aG.out,(ay.out.put z.out ..),((ax.out.put (by omega) ..)).done,(E.out.put z.out ..),by simp;omega⟩
  ·skip
   obtain⟨a0,a1,X,Y,Z,a5,a6,a7,a8,a9,H,I,af⟩:=j.out.box
   go_wp2_with fail
   refine (zah C M L D _ S2 q2 z2 d zaJ _ aw.out ap.out).mono ?_
   rintro e w3 ⟨V,q3,z3,rfl,i3,m3,s3⟩
   replace j:=zc (j.out.stp s3)
   replace z:=zc (z.out.stp s3)
   have aq:=zc (am.out.step s3)
   have K:Hid (Row V w3 D w.heap.size r l):=E.out.stp s3
   clear E
   have E:=zc K
   clear K
   clear am
   have al:=zc m3
   have ac:=zc i3
   clear i3 m3 s3 ap
   clear a0 a1 X Y Z a5 a6 a7 a8 a9 H I af
   obtain⟨b0,b1,b2,b3,b4,b5,b6,b7,b8,b9,aJ,aS,bf⟩:=z.out.box
   unfold pv
   go_wp2
   refine bodyPost_ret (zm0 rfl _ _ (w.heap.size+1) 55 _ (0,0) _ rfl ((z.out.put ..)).heap Tryz.underlying55 rfl (by kernel_rfl)) rfl ?_
   exact⟨V,q3,z3,r,l,rfl,by rw[←av.out];exact zu3 aw.out (by omega) ac.out,(al.out.put z.out ..),((aq.out.put (by omega) ..)).done,(E.out.put z.out ..),by omega⟩
def SumOK (C:Cx) (gt cap base m:Nat):Prop:=∀(x:PR) (S:Sv) (q:PS) (z:Int) (d:Nat) (w:World),Is x q z→Mem C gt cap base S q w→(z<0→C.ts.length-q.pos<m)→d≤20→
 Calls Tryz.prog 53 #[pv C gt cap S q z d] w (Out C gt cap base (bd x (pE C .sum d)) d S w)
theorem zhr {C:Cx} {o:Bool} {q q1:PS} {z:Int} {j:ByteArray} (h:Is2 (bd (.ok q) (zk C o)) q1 z j) (D:plainB C q.pos o=true):q1=adv q∧z= -1∧j=(zf C q.pos).text:=by
 rw[zh,zk,if_pos D] at h
 exact h
theorem zhs {C:Cx} {o:Bool} {q q1:PS} {j:Int} {z:ByteArray} (h:Is2 (bd (.ok q) (zk C o)) q1 j z) (D:plainB C q.pos o=false):j=(zu C q.pos:Int):=by
 rw[zh,zk,D] at h
 exact h
theorem zm3 {C:Cx} {n:ByteArray} {y:Except Nat (PS×ByteArray)} {q:PS} {z:Int} {f:ByteArray} (h:Is2 y q z f) (j:(decide (z<0)&&isT C q.pos 4 cOpen)=true):bd (bd (bd (za7 y) (zd C 4 cOpen)) (zd C 4 zU)) (zJ C ⟨5,0,n,f,0,0⟩)=bd y fun a=>za5 C n a.2 a.1:=by
 rw[Bool.and_eq_true,decide_eq_true_eq] at j
 cases y with
 |ok a=>
  obtain⟨rfl,_,rfl⟩:=h
  show _=za5 C n a.2 a.1
  rw[za5,if_pos j.2]
  rfl
 |error e=>rfl
theorem zm4 {C:Cx} {n:ByteArray} {y:Except Nat (PS×ByteArray)} {q:PS} {z:Int} {f:ByteArray} (h:Is2 y q z f) (j:(decide (z<0)&&isT C q.pos 4 cOpen)=false):bd (za7 y) (zJ C ⟨4,0,n,f,0,0⟩)=bd y fun a=>za5 C n a.2 a.1:=by
 cases y with
 |ok a=>
  obtain⟨rfl,rfl,rfl⟩:=h
  rw[Bool.and_eq_false_iff] at j
  show _=za5 C n a.2 a.1
  rw[za5,j.resolve_left (by decide)]
  rfl
 |error e=>rfl
theorem zm5 {C:Cx} {o:Bool} {x:PR} {q:PS} {z:Int} {n:ByteArray} (h:Is2 (bd x (zk C o)) q z n):z<0→1≤q.pos:=by
 intro E
 cases j:bd x (zk C o) with
 |error e=>rw[j] at h;have:z=(e:Int):=h;omega
 |ok a=>
  rw[j] at h
  obtain⟨rfl,_,_⟩:=h
  obtain⟨b,_,D⟩:=ze j
  obtain⟨rfl,_⟩:=zaX D
  simp[adv]
theorem zu6 (C:Cx) (H o j:Nat) (S:Sv) (q:PS) (d:Nat) (w:World) (J:Mem C H o j S q w) (L:((zf C q.pos).kind==2)=true):
  Calls Tryz.prog 128 #[pv C H o S q (-1) d] w (Out C H o j (pE C .part d q) d S w):=by
 have HM:=zc J
 have z:=J.tok
 have V:C.ts.length≤4000:=J.few
 have aa:=(zan J.tok).1
 clear J
 have hp:q.pos<C.ts.length:=zeJ L (by decide)
 have Y:Hid (pE C .part d q=bd (.ok (adv q)) (zJ C ⟨1,(zf C q.pos).num,sNone,sNone,0,0⟩)):=by show pE C .part d q=_;rw[zby,if_pos L];rfl
 obtain⟨Q,_,c2,_⟩:=z.cells hp (d:=⟨0,sNone,0,C.fin⟩)
 change _=some (Value.int .i64 (zf C q.pos).kind) at Q
 change _=some (Value.int .i64 (zf C q.pos).num) at c2
 have I:Hid (Mem C H o j S (adv q) w):=HM.out.adv hp
 generalize (zf C q.pos).kind=kd at Q L
 have HN:Hid (∀n,n=(zf C q.pos).num→pE C .part d q=bd (.ok (adv q)) (zJ C ⟨1,n,sNone,sNone,0,0⟩)):=fun n e=>by rw[e];exact Y.out
 generalize E:(zf C q.pos).num=nm at c2
 have O:Hid (nm=(zf C q.pos).num):=E.symm
 clear E Y z
 unfold pv
 go_enter Tryz.func128,Tryz.ntmps128
 go_wp2_with fail
 refine (zcX C H o j (.ok (adv q)) S (adv q) (-1) d ⟨1,nm,sNone,sNone,0,0⟩ _ (zab _) ((I.out.alloc _).alloc _) (fun _=>by simp[adv])).mono ?_
 rintro e w1 ⟨S1,q1,z1,rfl,i1,U,X⟩
 obtain⟨X0,X1,Z⟩:=I.out.two2 X
 have D:=zc X1
 have M:=zc U
 have N:=zc Z
 have K:=zc i1
 clear X0 X1 i1 U Z X
 obtain⟨b0,b1,b2,b3,b4,b5,b6,b7,b8,b9,ac,ab,bf⟩:=D.out.box
 unfold pv
 go_wp2
 refine bodyPost_ret (results_cell_row rfl _ _ (w.heap.size+1) 55 _ (0,0) _ rfl ((D.out.put ..)).heap Tryz.underlying55 rfl (by kernel_rfl)) rfl ?_
 rw[HN.out nm O.out]
 exact zac rfl K.out (M.out.put D.out ..) (N.out.put (by omega) ..)
theorem zu7 (C:Cx) (K o j:Nat) (S:Sv) (q:PS) (d:Nat) (w:World) (M:Mem C K o j S q w) (hk:((zf C q.pos).kind==2)=false) (U:isT C q.pos 4 cOpen=true) (hd:20≤d) (ad:d≤20):
  Calls Tryz.prog 128 #[pv C K o S q (-1) d] w (Out C K o j (pE C .part d q) d S w):=by
 have HM:=zc M
 have H:=M.tok
 have E:C.ts.length≤4000:=M.few
 have aa:=(zan M.tok).1
 clear M
 have hp:q.pos<C.ts.length:=za1 U (by decide)
 have HV:Hid (pE C .part d q= .error (zu C q.pos)):=by show pE C .part d q=_;rw[zby,hk,U];simp[hd]
 have qd:decide ((20:Int)≤(d:Int))=true:=decide_eq_true (by omega)
 obtain⟨Y,_,_,_⟩:=H.cells hp (d:=⟨0,sNone,0,C.fin⟩)
 change _=some (Value.int .i64 (zf C q.pos).kind) at Y
 generalize (zf C q.pos).kind=kd at Y hk
 unfold pv
 go_enter Tryz.func128,Tryz.ntmps128
 go_wp2_with fail
 refine (zj C K o j S q (-1) d 4 cOpen _ (zv (zv H _) _) E (by decide)).mono ?_
 rintro e w1 ⟨rfl,N⟩
 rw[U]
 obtain⟨X0,X1,Z,t1⟩:=HM.out.two N
 have I:=zc X0
 have z:=zc X1
 have J:=zc Z
 have L:=zc t1
 clear X0 X1 Z t1 N
 obtain⟨a0,a1,a2,a3,a4,a5,a6,a7,a8,a9,V,Q,af⟩:=I.out.box
 go_wp2_with fail
 refine (zd0 C K o j S q (-1) d _ J.out.tok E).mono ?_
 rintro e w2 ⟨rfl,D⟩
 replace I:=zc (I.out.below D)
 replace z:=zc (z.out.below D)
 have O:=zc (L.out.below D)
 have X:=zc (J.out.later D)
 clear D L J
 clear a0 a1 a2 a3 a4 a5 a6 a7 a8 a9 V Q af
 obtain⟨b0,b1,b2,b3,b4,b5,b6,b7,b8,b9,ac,ab,bf⟩:=z.out.box
 unfold pv
 go_wp2
 refine bodyPost_ret (results_cell_row rfl _ _ (w.heap.size+1) 55 _ (0,0) _ rfl ((z.out.put ..)).heap Tryz.underlying55 rfl (by kernel_rfl)) rfl ?_
 rw[HV.out]
 exact zac rfl (show Is (.error (zu C q.pos)) q _ from rfl) (X.out.put z.out ..) (O.out.put (by omega) ..)
theorem zu8 (C:Cx) (I E z:Nat) (S:Sv) (q:PS) (d:Nat) (w:World) (Z:Mem C I E z S q w) (hk:((zf C q.pos).kind==2)=false) (ho:isT C q.pos 4 cOpen=true) (hd:d<20) (hS:SumOK C I E z (C.ts.length-q.pos)):
  Calls Tryz.prog 128 #[pv C I E S q (-1) d] w (Out C I E z (pE C .part d q) d S w):=by
 have HM:=zc Z
 have K:=Z.tok
 have O:C.ts.length≤4000:=Z.few
 have ag:=(zan Z.tok).1
 clear Z
 have hp:q.pos<C.ts.length:=za1 ho (by decide)
 have HV:Hid (pE C .part d q=bd (bd (.ok (adv q)) (pE C .sum (d+1))) (zd C 4 zU)):=by show pE C .part d q=_;rw[zby,hk,ho,if_neg (by decide),if_pos rfl,if_neg (by omega)];rfl
 have HS:=zc hS
 clear hS
 have qd:decide ((20:Int)≤(d:Int))=false:=decide_eq_false (by omega)
 obtain⟨c0,_,_,_⟩:=K.cells hp (d:=⟨0,sNone,0,C.fin⟩)
 change _=some (Value.int .i64 (zf C q.pos).kind) at c0
 generalize (zf C q.pos).kind=kd at c0 hk
 unfold pv
 go_enter Tryz.func128,Tryz.ntmps128
 go_wp2_with fail
 refine (zj C I E z S q (-1) d 4 cOpen _ (zv (zv K _) _) O (by decide)).mono ?_
 rintro e w1 ⟨rfl,M⟩
 rw[ho]
 obtain⟨V,Q,m1,t1⟩:=HM.out.two M
 have j:=zc V
 have o:=zc Q
 have X:=zc m1
 have Y:=zc t1
 clear V Q m1 t1 M
 obtain⟨a0,a1,a2,a3,a4,a5,a6,a7,a8,a9,H,J,af⟩:=j.out.box
 go_wp2_with fail
 refine (HS.out (.ok (adv q)) S (adv q) (-1) (d+1) _ (zab _) (((X.out.adv hp).set j.out 1 _).set (j.out.at1 _) 11 _) (fun _=>by show C.ts.length-(q.pos+1)<_;omega) (by omega)).mono ?_
 rintro e w2 ⟨S2,q2,z2,rfl,i2,m2,s2⟩
 replace j:=zc (((j.out.at1 _).at11 _).stp s2)
 replace o:=zc (((o.out.set_other (by omega) 1 _).set_other (by omega) 11 _).stp s2)
 have L:Hid (SB w.heap.size S w S2 w2):=((Y.out.set (by omega) 1 _).set (by omega) 11 _).step s2
 clear Y
 have aa:=zc m2
 have ab:=zc i2
 clear i2 m2 s2 X
 clear a0 a1 a2 a3 a4 a5 a6 a7 a8 a9 H J af
 go_wp2_with fail
 refine (zah C I E z _ S2 q2 z2 (d+1) zU _ ab.out aa.out).mono ?_
 rintro e w3 ⟨S3,q3,z3,rfl,i3,m3,s3⟩
 replace j:=zc (j.out.stp s3)
 replace o:=zc (o.out.stp s3)
 have U:=zc (L.out.step s3)
 clear L
 have N:=zc m3
 have ac:=zc i3
 clear i3 m3 s3 aa
 obtain⟨a0,a1,a2,a3,a4,a5,a6,a7,a8,a9,H,J,af⟩:=j.out.box
 obtain⟨D,hD⟩: ∃D:Nat,D=d+1:=⟨_,rfl⟩
 rw[←hD]
 have ak:(D:Int)-1=d:=by omega
 have ai:D≤20:=by omega
 clear hD hd qd
 unfold pv
 go_upto_region 11 with fail
 refine zQ (R:=fun W=>Bx I S3 W (w.heap.size) _∧Bx I S3 W (w.heap.size+1) _∧Mem C I E z S3 q3 W∧SB w.heap.size S w S3 W) ⟨(j.out.put ..),(o.out.other (by omega) ..),(N.out.put j.out ..),(U.out.put (by omega) ..)⟩ ?_
 clear a0 a1 a2 a3 a4 a5 a6 a7 a8 a9 H J af
 clear j o U N
 rintro w4 ⟨V,Q,m4,t4⟩
 have j:=zc V
 have o:=zc Q
 have ad:=zc m4
 have ae:=zc t4
 clear m4 t4 V Q
 obtain⟨a0,a1,a2,a3,a4,a5,a6,a7,a8,a9,H,J,af⟩:=j.out.box
 obtain⟨b0,b1,b2,b3,b4,b5,b6,b7,b8,b9,ah,aj,bf⟩:=o.out.box
 go_wp2
 refine bodyPost_ret (results_cell_row rfl _ _ (w.heap.size+1) 55 _ (0,0) _ rfl (((o.out.set_other (by omega) 11 _).put ..)).heap Tryz.underlying55 rfl (by kernel_rfl)) rfl ?_
 rw[HV.out]
 exact zac rfl ac.out ((ad.out.set j.out 11 _).put (o.out.set_other (by omega) 11 _) ..) ((ae.out.set (by omega) 11 _).put (by omega) ..)
theorem zu9 (z:List Tk) (j:Nat) (J H D:Nat) (S:Sv) (q:PS) (d:Nat) (w:World) (hm:Mem (Cx.mk z j true) J H D S q w) (hp: ¬q.pos<(Cx.mk z j true).ts.length):
  Calls Tryz.prog 128 #[pv (Cx.mk z j true) J H S q (-1) d] w (Out (Cx.mk z j true) J H D (pE (Cx.mk z j true) .part d q) d S w):=by
 have HM:=zc hm
 have V:=hm.tok
 have K:(Cx.mk z j true).ts.length≤4000:=hm.few
 have ah:=(zan hm.tok).1
 clear hm
 have hk:((zf (Cx.mk z j true) q.pos).kind==2)=false:=by rw[zcT (by omega)];rfl
 have ho:isT (Cx.mk z j true) q.pos 4 cOpen=false:=zfA hp (by decide)
 have hu:isT (Cx.mk z j true) q.pos 1 sUndef=false:=zfA hp (by decide)
 have hn:plainB (Cx.mk z j true) q.pos false=false:=zhN hp
 have HV:Hid (pE (Cx.mk z j true) .part d q= .error (zu (Cx.mk z j true) q.pos)):=by show pE (Cx.mk z j true) .part d q=_;rw[zby,hk,ho,hu,zk,hn];rfl
 have an: ¬q.pos<z.length:=hp
 unfold pv
 go_enter Tryz.func128,Tryz.ntmps128
 go_wp2_with fail
 refine (zj (Cx.mk z j true) J H D S q (-1) d 4 cOpen _ (zv (zv V _) _) K (by decide)).mono ?_
 rintro e w1 ⟨rfl,U⟩
 rw[ho]
 obtain⟨X0,Y,m1,t1⟩:=HM.out.two U
 have E:=zc X0
 have o:=zc Y
 have O:=zc m1
 have aa:=zc t1
 clear X0 Y m1 t1 U
 obtain⟨a0,a1,a2,a3,a4,a5,a6,a7,a8,a9,L,N,af⟩:=E.out.box
 go_wp2_with fail
 refine (zj (Cx.mk z j true) J H D S q (-1) d 1 sUndef _ O.out.tok K (by decide)).mono ?_
 rintro e w2 ⟨rfl,I⟩
 rw[hu]
 replace E:=zc (E.out.below I)
 replace o:=zc (o.out.below I)
 have Q:=zc (aa.out.below I)
 have ab:=zc (O.out.later I)
 clear I aa O
 clear a0 a1 a2 a3 a4 a5 a6 a7 a8 a9 L N af
 obtain⟨a0,a1,a2,a3,a4,a5,a6,a7,a8,a9,L,N,af⟩:=E.out.box
 go_wp2_with fail
 refine (zbz (Cx.mk z j true) J H D (.ok q) S q (-1) d false _ (zab q) ab.out).mono ?_
 rintro e w3 ⟨X,q3,z3,n3,rfl,i3,m3,s3⟩
 replace E:=zc (E.out.stp s3)
 replace o:=zc (o.out.stp s3)
 have Z:=zc (Q.out.step s3)
 clear Q
 have M:=zc m3
 have ad:=zc i3
 clear i3 m3 s3 ab
 clear a0 a1 a2 a3 a4 a5 a6 a7 a8 a9 L N af
 obtain rfl:=zhs ad.out hn
 have dz:decide ((0:Int)≤(zu (Cx.mk z j true) q.pos:Int))=true:=decide_eq_true (by omega)
 have ai:w.heap.size+1<w3.heap.size:=o.out.lt
 unfold pv
 go_upto_region 17 with fail
 refine zQ (R:=fun W=>Bx J X W (w.heap.size) _∧Bx J X W (w.heap.size+1) _∧Bx J X W (w3.heap.size) _∧Mem (Cx.mk z j true) J H D X q3 W∧SB w.heap.size S w X W) ⟨(E.out.alloc _),(o.out.alloc _),(Bx.new M.out _),(M.out.alloc _),(Z.out.alloc _)⟩ ?_
 clear E o Z M
 rintro w4 ⟨X0,Y,X2,m4,t4⟩
 have E:=zc X0
 have o:=zc Y
 have ac:=zc X2
 have ae:=zc m4
 have ag:=zc t4
 clear m4 t4 X0 Y X2
 obtain⟨b0,b1,b2,b3,b4,b5,b6,b7,b8,b9,aj,al,bf⟩:=o.out.box
 obtain⟨c0,c1,c2,c3,c4,c5,c6,c7,c8,c9,am,ak,cf⟩:=ac.out.box
 go_wp2
 refine bodyPost_ret (results_cell_row rfl _ _ (w.heap.size+1) 55 _ (0,0) _ rfl ((o.out.put ..)).heap Tryz.underlying55 rfl (by kernel_rfl)) rfl ?_
 rw[HV.out]
 exact zac rfl (show Is (.error (zu (Cx.mk z j true) q.pos)) q3 _ from rfl) (ae.out.put o.out ..) (ag.out.put (by omega) ..)
theorem zuA (o:List Tk) (j:Nat) (J H D:Nat) (S:Sv) (q:PS) (d:Nat) (w:World) (hm:Mem (Cx.mk o j true) J H D S q w) (hk:((zf (Cx.mk o j true) q.pos).kind==2)=false) (ho:isT (Cx.mk o j true) q.pos 4 cOpen=false) (hp:q.pos<(Cx.mk o j true).ts.length) (hu:isT (Cx.mk o j true) q.pos 1 sUndef=false) (hn:plainB (Cx.mk o j true) q.pos false=false):
  Calls Tryz.prog 128 #[pv (Cx.mk o j true) J H S q (-1) d] w (Out (Cx.mk o j true) J H D (pE (Cx.mk o j true) .part d q) d S w):=by
 have HM:=zc hm
 have K:=hm.tok
 have L:(Cx.mk o j true).ts.length≤4000:=hm.few
 have ah:=(zan hm.tok).1
 clear hm
 have HV:Hid (pE (Cx.mk o j true) .part d q= .error (zu (Cx.mk o j true) q.pos)):=by show pE (Cx.mk o j true) .part d q=_;rw[zby,hk,ho,hu,zk,hn];rfl
 have an:q.pos<o.length:=hp
 obtain⟨c0,_,_,_⟩:=K.cells hp (d:=⟨0,sNone,0,(Cx.mk o j true).fin⟩)
 change _=some (Value.int .i64 (zf (Cx.mk o j true) q.pos).kind) at c0
 generalize (zf (Cx.mk o j true) q.pos).kind=kd at c0 hk
 unfold pv
 go_enter Tryz.func128,Tryz.ntmps128
 go_wp2_with fail
 refine (zj (Cx.mk o j true) J H D S q (-1) d 4 cOpen _ (zv (zv K _) _) L (by decide)).mono ?_
 rintro e w1 ⟨rfl,V⟩
 rw[ho]
 obtain⟨X0,Y,m1,t1⟩:=HM.out.two V
 have E:=zc X0
 have z:=zc Y
 have Q:=zc m1
 have aa:=zc t1
 clear X0 Y m1 t1 V
 obtain⟨a0,a1,a2,a3,a4,a5,a6,a7,a8,a9,M,O,af⟩:=E.out.box
 go_wp2_with fail
 refine (zj (Cx.mk o j true) J H D S q (-1) d 1 sUndef _ Q.out.tok L (by decide)).mono ?_
 rintro e w2 ⟨rfl,I⟩
 rw[hu]
 replace E:=zc (E.out.below I)
 replace z:=zc (z.out.below I)
 have U:=zc (aa.out.below I)
 have ab:=zc (Q.out.later I)
 clear I aa Q
 clear a0 a1 a2 a3 a4 a5 a6 a7 a8 a9 M O af
 obtain⟨a0,a1,a2,a3,a4,a5,a6,a7,a8,a9,M,O,af⟩:=E.out.box
 go_wp2_with fail
 refine (zbz (Cx.mk o j true) J H D (.ok q) S q (-1) d false _ (zab q) ab.out).mono ?_
 rintro e w3 ⟨X,q3,z3,n3,rfl,i3,m3,s3⟩
 replace E:=zc (E.out.stp s3)
 replace z:=zc (z.out.stp s3)
 have Z:=zc (U.out.step s3)
 clear U
 have N:=zc m3
 have ad:=zc i3
 clear i3 m3 s3 ab
 clear a0 a1 a2 a3 a4 a5 a6 a7 a8 a9 M O af
 obtain rfl:=zhs ad.out hn
 have dz:decide ((0:Int)≤(zu (Cx.mk o j true) q.pos:Int))=true:=decide_eq_true (by omega)
 have ai:w.heap.size+1<w3.heap.size:=z.out.lt
 unfold pv
 go_upto_region 17 with fail
 refine zQ (R:=fun W=>Bx J X W (w.heap.size) _∧Bx J X W (w.heap.size+1) _∧Bx J X W (w3.heap.size) _∧Mem (Cx.mk o j true) J H D X q3 W∧SB w.heap.size S w X W) ⟨(E.out.alloc _),(z.out.alloc _),(Bx.new N.out _),(N.out.alloc _),(Z.out.alloc _)⟩ ?_
 clear E z Z N
 rintro w4 ⟨X0,Y,X2,m4,t4⟩
 have E:=zc X0
 have z:=zc Y
 have ac:=zc X2
 have ae:=zc m4
 have ag:=zc t4
 clear m4 t4 X0 Y X2
 obtain⟨b0,b1,b2,b3,b4,b5,b6,b7,b8,b9,aj,al,bf⟩:=z.out.box
 obtain⟨c0,c1,c2,c3,c4,c5,c6,c7,c8,c9,am,ak,cf⟩:=ac.out.box
 go_wp2
 refine bodyPost_ret (results_cell_row rfl _ _ (w.heap.size+1) 55 _ (0,0) _ rfl ((z.out.put ..)).heap Tryz.underlying55 rfl (by kernel_rfl)) rfl ?_
 rw[HV.out]
 exact zac rfl (show Is (.error (zu (Cx.mk o j true) q.pos)) q3 _ from rfl) (ae.out.put z.out ..) (ag.out.put (by omega) ..)
theorem zm6 (K:List Tk) (D:Nat) (J E o:Nat) (S:Sv) (q:PS) (d:Nat) (w:World) (hm:Mem (Cx.mk K D true) J E o S q w) (H:Nat):
  Calls Tryz.prog 128 #[pv (Cx.mk K D true) J E S q (H:Int) d] w (Out (Cx.mk K D true) J E o (.error H) d S w):=by
 have HM:=zc hm
 have X:=hm.tok
 have L:(Cx.mk K D true).ts.length≤4000:=hm.few
 have ai:=(zan hm.tok).1
 clear hm
 have hz: ¬(H:Int)<0:=by omega
 have hs: ∀k s,(decide ((H:Int)<0)&&isT (Cx.mk K D true) q.pos k s)=false:=fun k s=>by rw[decide_eq_false hz];rfl
 unfold pv
 go_enter Tryz.func128,Tryz.ntmps128
 go_wp2_with fail
 refine (zj (Cx.mk K D true) J E o S q (H:Int) d 4 cOpen _ (zv (zv X _) _) L (by decide)).mono ?_
 rintro e w1 ⟨rfl,V⟩
 rw[hs]
 obtain⟨X0,Z,m1,t1⟩:=HM.out.two V
 have z:=zc X0
 have j:=zc Z
 have Q:=zc m1
 have ab:=zc t1
 clear X0 Z m1 t1 V
 obtain⟨a0,a1,a2,a3,a4,a5,a6,a7,a8,a9,M,O,af⟩:=z.out.box
 go_wp2_with fail
 refine (zj (Cx.mk K D true) J E o S q (H:Int) d 1 sUndef _ Q.out.tok L (by decide)).mono ?_
 rintro e w2 ⟨rfl,I⟩
 rw[hs]
 replace z:=zc (z.out.below I)
 replace j:=zc (j.out.below I)
 have U:=zc (ab.out.below I)
 have ac:=zc (Q.out.later I)
 clear I ab Q
 clear a0 a1 a2 a3 a4 a5 a6 a7 a8 a9 M O af
 obtain⟨a0,a1,a2,a3,a4,a5,a6,a7,a8,a9,M,O,af⟩:=z.out.box
 go_wp2_with fail
 refine (zbz (Cx.mk K D true) J E o (.error H) S q (H:Int) d false _ (show Is (.error H) q _ from rfl) ac.out).mono ?_
 rintro e w3 ⟨Y,q3,z3,n3,rfl,i3,m3,s3⟩
 replace z:=zc (z.out.stp s3)
 replace j:=zc (j.out.stp s3)
 have aa:=zc (U.out.step s3)
 clear U
 have N:=zc m3
 have ae:=zc i3
 clear i3 m3 s3 ac
 clear a0 a1 a2 a3 a4 a5 a6 a7 a8 a9 M O af
 obtain rfl:z3=(H:Int):=ae.out
 have dz:decide ((0:Int)≤(H:Int))=true:=decide_eq_true (by omega)
 have aj:w.heap.size+1<w3.heap.size:=j.out.lt
 unfold pv
 go_upto_region 17 with fail
 refine zQ (R:=fun W=>Bx J Y W (w.heap.size) _∧Bx J Y W (w.heap.size+1) _∧Bx J Y W (w3.heap.size) _∧Mem (Cx.mk K D true) J E o Y q3 W∧SB w.heap.size S w Y W) ⟨(z.out.alloc _),(j.out.alloc _),(Bx.new N.out _),(N.out.alloc _),(aa.out.alloc _)⟩ ?_
 clear z j aa N
 rintro w4 ⟨X0,Z,X2,m4,t4⟩
 have z:=zc X0
 have j:=zc Z
 have ad:=zc X2
 have ag:=zc m4
 have ah:=zc t4
 clear m4 t4 X0 Z X2
 obtain⟨b0,b1,b2,b3,b4,b5,b6,b7,b8,b9,ak,am,bf⟩:=j.out.box
 obtain⟨c0,c1,c2,c3,c4,c5,c6,c7,c8,c9,an,al,cf⟩:=ad.out.box
 go_wp2
 refine bodyPost_ret (results_cell_row rfl _ _ (w.heap.size+1) 55 _ (0,0) _ rfl ((j.out.put ..)).heap Tryz.underlying55 rfl (by kernel_rfl)) rfl ?_
 exact zac rfl (show Is (.error H) q3 _ from rfl) (ag.out.put j.out ..) (ah.out.put (by omega) ..)
theorem zuB (o:List Tk) (j:Nat) (O H z:Nat) (S:Sv) (q:PS) (d:Nat) (w:World) (V:Mem (Cx.mk o j true) O H z S q w) (hk:((zf (Cx.mk o j true) q.pos).kind==2)=false) (ho:isT (Cx.mk o j true) q.pos 4 cOpen=false) (hp:q.pos<(Cx.mk o j true).ts.length) (hu:isT (Cx.mk o j true) q.pos 1 sUndef=true):
  Calls Tryz.prog 128 #[pv (Cx.mk o j true) O H S q (-1) d] w (Out (Cx.mk o j true) O H z (pE (Cx.mk o j true) .part d q) d S w):=by
 have HM:=zc V
 have K:=V.tok
 have J:(Cx.mk o j true).ts.length≤4000:=V.few
 have ad:=(zan V.tok).1
 clear V
 have HV:Hid (pE (Cx.mk o j true) .part d q=zau (Cx.mk o j true) sUndef (adv q)):=by show pE (Cx.mk o j true) .part d q=_;rw[zby,hk,ho,hu];rfl
 have ah:q.pos<o.length:=hp
 obtain⟨c0,_,_,_⟩:=K.cells hp (d:=⟨0,sNone,0,(Cx.mk o j true).fin⟩)
 change _=some (Value.int .i64 (zf (Cx.mk o j true) q.pos).kind) at c0
 generalize (zf (Cx.mk o j true) q.pos).kind=kd at c0 hk
 unfold pv
 go_enter Tryz.func128,Tryz.ntmps128
 go_wp2_with fail
 refine (zj (Cx.mk o j true) O H z S q (-1) d 4 cOpen _ (zv (zv K _) _) J (by decide)).mono ?_
 rintro e w1 ⟨rfl,X⟩
 rw[ho]
 obtain⟨X0,X1,m1,t1⟩:=HM.out.two X
 have D:=zc X0
 have E:=zc X1
 have N:=zc m1
 have U:=zc t1
 clear X0 X1 m1 t1 X
 obtain⟨a0,a1,a2,a3,a4,a5,a6,a7,a8,a9,M,L,af⟩:=D.out.box
 go_wp2_with fail
 refine (zj (Cx.mk o j true) O H z S q (-1) d 1 sUndef _ N.out.tok J (by decide)).mono ?_
 rintro e w2 ⟨rfl,I⟩
 rw[hu]
 replace D:=zc (D.out.below I)
 replace E:=zc (E.out.below I)
 have Q:=zc (U.out.below I)
 have Y:=zc (N.out.later I)
 clear I U N
 clear a0 a1 a2 a3 a4 a5 a6 a7 a8 a9 M L af
 obtain⟨a0,a1,a2,a3,a4,a5,a6,a7,a8,a9,M,L,af⟩:=D.out.box
 go_wp2_with fail
 refine (zjf (Cx.mk o j true) O H z S (adv q) d sUndef _ ((Y.out.adv hp).set D.out 1 _) (by simp[adv])).mono ?_
 rintro e w3 ⟨S3,q3,z3,rfl,i3,m3,Z⟩
 replace D:=zc ((D.out.at1 _).stp Z)
 replace E:=zc ((E.out.set_other (by omega) 1 _).stp Z)
 have aa:Hid (SB w.heap.size S w S3 w3):=(Q.out.set (by omega) 1 _).step Z
 clear Q
 have ac:=zc m3
 have ab:=zc i3
 clear i3 m3 Z Y
 clear a0 a1 a2 a3 a4 a5 a6 a7 a8 a9 M L af
 obtain⟨b0,b1,b2,b3,b4,b5,b6,b7,b8,b9,ag,ae,bf⟩:=E.out.box
 unfold pv
 go_wp2
 refine bodyPost_ret (results_cell_row rfl _ _ (w.heap.size+1) 55 _ (0,0) _ rfl ((E.out.put ..)).heap Tryz.underlying55 rfl (by kernel_rfl)) rfl ?_
 rw[HV.out]
 exact zac rfl ab.out (ac.out.put E.out ..) (aa.out.put (by omega) ..)
theorem zuC (o:List Tk) (j:Nat) (L H z:Nat) (S:Sv) (q:PS) (d:Nat) (w:World) (hm:Mem (Cx.mk o j true) L H z S q w) (hk:((zf (Cx.mk o j true) q.pos).kind==2)=false) (ho:isT (Cx.mk o j true) q.pos 4 cOpen=false) (hp:q.pos<(Cx.mk o j true).ts.length) (hu:isT (Cx.mk o j true) q.pos 1 sUndef=false) (hn:plainB (Cx.mk o j true) q.pos false=true) (hd:isT (Cx.mk o j true) (q.pos+1) 4 cPoint=false):
  Calls Tryz.prog 128 #[pv (Cx.mk o j true) L H S q (-1) d] w (Out (Cx.mk o j true) L H z (pE (Cx.mk o j true) .part d q) d S w):=by
 have HM:=zc hm
 have N:=hm.tok
 have J:(Cx.mk o j true).ts.length≤4000:=hm.few
 have ar:=(zan hm.tok).1
 clear hm
 have HV:Hid (pE (Cx.mk o j true) .part d q=zau (Cx.mk o j true) (zf (Cx.mk o j true) q.pos).text (adv q)):=by show pE (Cx.mk o j true) .part d q=_;rw[zby,hk,ho,hu,zk,hn];show (if isT (Cx.mk o j true) (adv q).pos 4 cPoint then _ else _)=_;rw[zz,hd];rfl
 have ax:q.pos<o.length:=hp
 obtain⟨c0,_,_,_⟩:=N.cells hp (d:=⟨0,sNone,0,(Cx.mk o j true).fin⟩)
 change _=some (Value.int .i64 (zf (Cx.mk o j true) q.pos).kind) at c0
 generalize (zf (Cx.mk o j true) q.pos).kind=kd at c0 hk
 unfold pv
 go_enter Tryz.func128,Tryz.ntmps128
 go_wp2_with fail
 refine (zj (Cx.mk o j true) L H z S q (-1) d 4 cOpen _ (zv (zv N _) _) J (by decide)).mono ?_
 rintro e w1 ⟨rfl,aa⟩
 rw[ho]
 obtain⟨X0,X1,m1,t1⟩:=HM.out.two aa
 have E:=zc X0
 have D:=zc X1
 have V:=zc m1
 have ai:=zc t1
 clear X0 X1 m1 t1 aa
 obtain⟨a0,a1,a2,a3,a4,a5,a6,a7,a8,a9,Q,U,af⟩:=E.out.box
 go_wp2_with fail
 refine (zj (Cx.mk o j true) L H z S q (-1) d 1 sUndef _ V.out.tok J (by decide)).mono ?_
 rintro e w2 ⟨rfl,K⟩
 rw[hu]
 replace E:=zc (E.out.below K)
 replace D:=zc (D.out.below K)
 have Y:=zc (ai.out.below K)
 have aj:=zc (V.out.later K)
 clear K ai V
 clear a0 a1 a2 a3 a4 a5 a6 a7 a8 a9 Q U af
 obtain⟨a0,a1,a2,a3,a4,a5,a6,a7,a8,a9,Q,U,af⟩:=E.out.box
 go_wp2_with fail
 refine (zbz (Cx.mk o j true) L H z (.ok q) S q (-1) d false _ (zab q) aj.out).mono ?_
 rintro e w3 ⟨S3,X,z3,n3,rfl,i3,m3,s3⟩
 replace E:=zc (E.out.stp s3)
 replace D:=zc (D.out.stp s3)
 have ad:=zc (Y.out.step s3)
 clear Y
 have M:=zc m3
 have ac:=zc i3
 clear i3 m3 s3 aj
 clear a0 a1 a2 a3 a4 a5 a6 a7 a8 a9 Q U af
 obtain⟨hq,rfl,ah⟩:=zhr ac.out hn
 have HQ:=zc hq
 have am:=zc ah
 have ab:X.pos=q.pos+1:=by rw[hq];rfl
 have al:isT (Cx.mk o j true) X.pos 4 cPoint=false:=by rw[ab];exact hd
 clear hq ah ac
 have au:w.heap.size+1<w3.heap.size:=D.out.lt
 unfold pv
 clear ab
 go_wp2_with fail
 refine (zj (Cx.mk o j true) L H z S3 X (-1) d 4 cPoint _ (M.out.alloc _).tok J (by decide)).mono ?_
 rintro e w4 ⟨rfl,I⟩
 rw[al]
 replace E:=zc ((E.out.alloc _).below I)
 replace D:=zc ((D.out.alloc _).below I)
 replace O:=zc ((Bx.new M.out _).below I)
 have ag:Hid (SB w.heap.size S w S3 w4):=(ad.out.alloc _).below I
 have ae:Hid (Mem (Cx.mk o j true) L H z S3 X w4):=(M.out.alloc _).later I
 clear I ad M
 obtain⟨c0,c1,c2,c3,c4,c5,c6,c7,c8,c9,ap,ao,cf⟩:=O.out.box
 go_wp2_with fail
 refine (zjf (Cx.mk o j true) L H z S3 X d n3 _ ae.out (by rw[HQ.out];simp[adv])).mono ?_
 rintro e w5 ⟨S5,q5,z5,rfl,i5,m5,Z⟩
 replace E:=zc (E.out.stp Z)
 replace D:=zc (D.out.stp Z)
 replace O:=zc (O.out.stp Z)
 have ak:=zc (ag.out.step Z)
 clear ag
 have aq:=zc m5
 have an:=zc i5
 clear i5 m5 Z ae
 clear c0 c1 c2 c3 c4 c5 c6 c7 c8 c9 ap ao cf
 obtain⟨b0,b1,b2,b3,b4,b5,b6,b7,b8,b9,av,aw,bf⟩:=D.out.box
 unfold pv
 go_wp2
 refine bodyPost_ret (results_cell_row rfl _ _ (w.heap.size+1) 55 _ (0,0) _ rfl ((D.out.put ..)).heap Tryz.underlying55 rfl (by kernel_rfl)) rfl ?_
 rw[HV.out,←HQ.out,←am.out]
 exact zac rfl an.out (aq.out.put D.out ..) (ak.out.put (by omega) ..)
theorem zuD (E:List Tk) (j:Nat) (L H z:Nat) (S:Sv) (q:PS) (d:Nat) (w:World) (hm:Mem (Cx.mk E j true) L H z S q w) (hk:((zf (Cx.mk E j true) q.pos).kind==2)=false) (ho:isT (Cx.mk E j true) q.pos 4 cOpen=false) (hp:q.pos<(Cx.mk E j true).ts.length) (hu:isT (Cx.mk E j true) q.pos 1 sUndef=false) (hn:plainB (Cx.mk E j true) q.pos false=true) (hd:isT (Cx.mk E j true) (q.pos+1) 4 cPoint=true):
  Calls Tryz.prog 128 #[pv (Cx.mk E j true) L H S q (-1) d] w (Out (Cx.mk E j true) L H z (pE (Cx.mk E j true) .part d q) d S w):=by
 have HM:=zc hm
 have ag:=hm.tok
 have M:(Cx.mk E j true).ts.length≤4000:=hm.few
 have aN:=(zan hm.tok).1
 clear hm
 have HV:Hid (pE (Cx.mk E j true) .part d q=bd (bd (.ok (adv (adv q))) (zk (Cx.mk E j true) true)) fun y=>za5 (Cx.mk E j true) (zf (Cx.mk E j true) q.pos).text y.2 y.1):=by show pE (Cx.mk E j true) .part d q=_;rw[zby,hk,ho,hu,zk,hn];show (if isT (Cx.mk E j true) (adv q).pos 4 cPoint then _ else _)=_;rw[zz,hd];rfl
 have aP:q.pos<E.length:=hp
 obtain⟨c0,_,_,_⟩:=ag.cells hp (d:=⟨0,sNone,0,(Cx.mk E j true).fin⟩)
 change _=some (Value.int .i64 (zf (Cx.mk E j true) q.pos).kind) at c0
 generalize (zf (Cx.mk E j true) q.pos).kind=kd at c0 hk
 unfold pv
 go_enter Tryz.func128,Tryz.ntmps128
 go_wp2_with fail
 refine (zj (Cx.mk E j true) L H z S q (-1) d 4 cOpen _ (zv (zv ag _) _) M (by decide)).mono ?_
 rintro e w1 ⟨rfl,ap⟩
 rw[ho]
 obtain⟨X0,X1,m1,t1⟩:=HM.out.two ap
 have D:=zc X0
 have o:=zc X1
 have ak:=zc m1
 have aB:=zc t1
 clear X0 X1 m1 t1 ap
 obtain⟨a0,a1,a2,a3,a4,a5,a6,a7,a8,a9,ah,ai,af⟩:=D.out.box
 go_wp2_with fail
 refine (zj (Cx.mk E j true) L H z S q (-1) d 1 sUndef _ ak.out.tok M (by decide)).mono ?_
 rintro e w2 ⟨rfl,Z⟩
 rw[hu]
 replace D:=zc (D.out.below Z)
 replace o:=zc (o.out.below Z)
 have ao:=zc (aB.out.below Z)
 have aC:=zc (ak.out.later Z)
 clear Z aB ak
 clear a0 a1 a2 a3 a4 a5 a6 a7 a8 a9 ah ai af
 obtain⟨a0,a1,a2,a3,a4,a5,a6,a7,a8,a9,ah,ai,af⟩:=D.out.box
 go_wp2_with fail
 refine (zbz (Cx.mk E j true) L H z (.ok q) S q (-1) d false _ (zab q) aC.out).mono ?_
 rintro e w3 ⟨S3,q3,z3,n3,rfl,i3,m3,s3⟩
 replace D:=zc (D.out.stp s3)
 replace o:=zc (o.out.stp s3)
 have aw:=zc (ao.out.step s3)
 clear ao
 have ae:=zc m3
 have au:=zc i3
 clear i3 m3 s3 aC
 clear a0 a1 a2 a3 a4 a5 a6 a7 a8 a9 ah ai af
 obtain⟨hq,rfl,aA⟩:=zhr au.out hn
 have HQ:=zc hq
 have an:=zc aA
 have aq:q3.pos=q.pos+1:=by rw[hq];rfl
 have am:isT (Cx.mk E j true) q3.pos 4 cPoint=true:=by rw[aq];exact hd
 clear hq aA au
 have aO:w.heap.size+1<w3.heap.size:=o.out.lt
 unfold pv
 clear aq
 go_wp2_with fail
 refine (zj (Cx.mk E j true) L H z S3 q3 (-1) d 4 cPoint _ (ae.out.alloc _).tok M (by decide)).mono ?_
 rintro e w4 ⟨rfl,O⟩
 rw[am]
 replace D:=zc ((D.out.alloc _).below O)
 replace o:=zc ((o.out.alloc _).below O)
 replace I:=zc ((Bx.new ae.out _).below O)
 have az:Hid (SB w.heap.size S w S3 w4):=(aw.out.alloc _).below O
 have ax:Hid (Mem (Cx.mk E j true) L H z S3 q3 w4):=(ae.out.alloc _).later O
 clear O aw ae
 obtain⟨c0,c1,c2,c3,c4,c5,c6,c7,c8,c9,aI,aF,cf⟩:=I.out.box
 have ar:q3.pos<(Cx.mk E j true).ts.length:=za1 am (by decide)
 have aM:q3.pos<E.length:=ar
 go_wp2_with fail
 refine (zbz (Cx.mk E j true) L H z (.ok (adv q3)) S3 (adv q3) (-1) d true _ (zab _) ((ax.out.adv ar).set I.out 1 _)).mono ?_
 rintro e w5 ⟨S5,q5,z5,n5,rfl,i5,m5,s5⟩
 replace D:=zc ((D.out.set_other (by omega) 1 _).stp s5)
 replace o:=zc ((o.out.set_other (by omega) 1 _).stp s5)
 replace I:=zc ((I.out.at1 _).stp s5)
 have ac:Hid (SB w.heap.size S w S5 w5):=(az.out.set (by omega) 1 _).step s5
 clear az
 have N:=zc m5
 have U:=zc i5
 clear i5 m5 s5 ax
 clear c0 c1 c2 c3 c4 c5 c6 c7 c8 c9 aI aF cf
 have aL:w.heap.size+1<w5.heap.size:=o.out.lt
 have aD:w3.heap.size<w5.heap.size:=I.out.lt
 cases hc:(decide (z5<0)&&isT (Cx.mk E j true) q5.pos 4 cOpen) with
 |true=>
  unfold pv
  go_wp2_with fail
  refine (zj (Cx.mk E j true) L H z S5 q5 z5 d 4 cOpen _ (N.out.alloc _).tok M (by decide)).mono ?_
  rintro e w6 ⟨rfl,J⟩
  rw[hc]
  replace D:=zc ((D.out.alloc _).below J)
  replace o:=zc ((o.out.alloc _).below J)
  replace I:=zc ((I.out.alloc _).below J)
  replace K:=zc ((Bx.new N.out _).below J)
  have Y:Hid (SB w.heap.size S w S5 w6):=(ac.out.alloc _).below J
  have V:Hid (Mem (Cx.mk E j true) L H z S5 q5 w6):=(N.out.alloc _).later J
  clear J ac N
  obtain⟨d0,d1,d2,d3,d4,d5,d6,d7,d8,d9,aa,X,df⟩:=K.out.box
  go_wp2_with fail
  refine (zah (Cx.mk E j true) L H z _ S5 q5 z5 d cOpen _ U.out.fst V.out).mono ?_
  rintro e w7 ⟨S7,q7,z7,rfl,i7,m7,Q⟩
  replace D:=zc (D.out.stp Q)
  replace o:=zc (o.out.stp Q)
  replace I:=zc (I.out.stp Q)
  replace K:=zc (K.out.stp Q)
  have ab:=zc (Y.out.step Q)
  clear Y
  have ad:=zc m7
  have aj:=zc i7
  clear i7 m7 Q V
  clear d0 d1 d2 d3 d4 d5 d6 d7 d8 d9 aa X df
  go_wp2_with fail
  refine (zah (Cx.mk E j true) L H z _ S7 q7 z7 d zU _ aj.out ad.out).mono ?_
  rintro e w8 ⟨S8,q8,z8,rfl,i8,m8,s8⟩
  replace D:=zc (D.out.stp s8)
  replace o:=zc (o.out.stp s8)
  replace I:=zc (I.out.stp s8)
  replace K:=zc (K.out.stp s8)
  have av:=zc (ab.out.step s8)
  clear ab
  have ay:=zc m8
  have al:=zc i8
  clear i8 m8 s8 ad
  obtain⟨d0,d1,d2,d3,d4,d5,d6,d7,d8,d9,aa,X,df⟩:=K.out.box
  unfold pv
  go_wp2_with fail
  refine (zcX (Cx.mk E j true) L H z _ S8 q8 z8 d ⟨5,0,n3,n5,0,0⟩ _ al.out (ay.out.put K.out ..) (zb5 al.out)).mono ?_
  rintro e w9 ⟨S9,q9,z9,rfl,i9,m9,s9⟩
  replace D:=zc ((D.out.other (by omega) ..).stp s9)
  replace o:=zc ((o.out.other (by omega) ..).stp s9)
  replace I:=zc ((I.out.other (by omega) ..).stp s9)
  replace K:=zc ((K.out.put ..).stp s9)
  have aH:Hid (SB w.heap.size S w S9 w9):=(av.out.put (by omega) ..).step s9
  clear av
  have aJ:=zc m9
  have aK:=zc i9
  clear i9 m9 s9 ay
  clear d0 d1 d2 d3 d4 d5 d6 d7 d8 d9 aa X df
  obtain⟨b0,b1,b2,b3,b4,b5,b6,b7,b8,b9,aE,aG,bf⟩:=o.out.box
  unfold pv
  go_wp2
  refine bodyPost_ret (results_cell_row rfl _ _ (w.heap.size+1) 55 _ (0,0) _ rfl ((o.out.put ..)).heap Tryz.underlying55 rfl (by kernel_rfl)) rfl ?_
  rw[HV.out,←HQ.out,←an.out,←zm3 U.out hc]
  exact zac rfl aK.out (aJ.out.put o.out ..) (aH.out.put (by omega) ..)
 |false=>
  unfold pv
  go_wp2_with fail
  refine (zj (Cx.mk E j true) L H z S5 q5 z5 d 4 cOpen _ (N.out.alloc _).tok M (by decide)).mono ?_
  rintro e w6 ⟨rfl,J⟩
  rw[hc]
  replace D:=zc ((D.out.alloc _).below J)
  replace o:=zc ((o.out.alloc _).below J)
  replace I:=zc ((I.out.alloc _).below J)
  replace K:=zc ((Bx.new N.out _).below J)
  have Y:Hid (SB w.heap.size S w S5 w6):=(ac.out.alloc _).below J
  have V:Hid (Mem (Cx.mk E j true) L H z S5 q5 w6):=(N.out.alloc _).later J
  clear J ac N
  obtain⟨d0,d1,d2,d3,d4,d5,d6,d7,d8,d9,aa,X,df⟩:=K.out.box
  go_wp2_with fail
  refine (zcX (Cx.mk E j true) L H z _ S5 q5 z5 d ⟨4,0,n3,n5,0,0⟩ _ U.out.fst V.out (zm5 U.out)).mono ?_
  rintro e w7 ⟨S7,q7,z7,rfl,i7,m7,Q⟩
  replace D:=zc (D.out.stp Q)
  replace o:=zc (o.out.stp Q)
  replace I:=zc (I.out.stp Q)
  replace K:=zc (K.out.stp Q)
  have ab:=zc (Y.out.step Q)
  clear Y
  have ad:=zc m7
  have aj:=zc i7
  clear i7 m7 Q V
  clear d0 d1 d2 d3 d4 d5 d6 d7 d8 d9 aa X df
  obtain⟨b0,b1,b2,b3,b4,b5,b6,b7,b8,b9,aE,aG,bf⟩:=o.out.box
  unfold pv
  go_wp2
  refine bodyPost_ret (results_cell_row rfl _ _ (w.heap.size+1) 55 _ (0,0) _ rfl ((o.out.put ..)).heap Tryz.underlying55 rfl (by kernel_rfl)) rfl ?_
  rw[HV.out,←HQ.out,←an.out,←zm4 U.out hc]
  exact zac rfl aj.out (ad.out.put o.out ..) (ab.out.put (by omega) ..)
theorem zuE (o:List Tk) (j:Nat) (I E D:Nat) (S:Sv) (q:PS) (d:Nat) (w:World) (Y:Mem (Cx.mk o j false) I E D S q w) (Z: ¬q.pos<(Cx.mk o j false).ts.length):
  Calls Tryz.prog 128 #[pv (Cx.mk o j false) I E S q (-1) d] w (Out (Cx.mk o j false) I E D (pE (Cx.mk o j false) .part d q) d S w):=by
 have HM:=zc Y
 have N:=Y.tok
 have O:(Cx.mk o j false).ts.length≤4000:=Y.few
 have ah:=(zan Y.tok).1
 clear Y
 have hk:((zf (Cx.mk o j false) q.pos).kind==2)=false:=by rw[zcT (by omega)];rfl
 have ho:isT (Cx.mk o j false) q.pos 4 cOpen=false:=zfA Z (by decide)
 have hu:isT (Cx.mk o j false) q.pos 1 sUndef=false:=zfA Z (by decide)
 have hn:plainB (Cx.mk o j false) q.pos false=false:=zhN Z
 have HV:Hid (pE (Cx.mk o j false) .part d q= .error (zu (Cx.mk o j false) q.pos)):=by show pE (Cx.mk o j false) .part d q=_;rw[zby,hk,ho,zk,hn];rfl
 have an: ¬q.pos<o.length:=Z
 unfold pv
 go_enter Tryz.func128,Tryz.ntmps128
 go_wp2_with fail
 refine (zj (Cx.mk o j false) I E D S q (-1) d 4 cOpen _ (zv (zv N _) _) O (by decide)).mono ?_
 rintro e w1 ⟨rfl,M⟩
 rw[ho]
 obtain⟨U,Q,m1,t1⟩:=HM.out.two M
 have H:=zc U
 have z:=zc Q
 have V:=zc m1
 have X:=zc t1
 clear U Q m1 t1 M
 obtain⟨a0,a1,a2,a3,a4,a5,a6,a7,a8,a9,ac,ae,af⟩:=H.out.box
 go_wp2_with fail
 refine (zbz (Cx.mk o j false) I E D (.ok q) S q (-1) d false _ (zab q) V.out).mono ?_
 rintro e w2 ⟨K,q2,z2,n2,rfl,i2,m2,s2⟩
 replace H:=zc (H.out.stp s2)
 replace z:=zc (z.out.stp s2)
 have L:=zc (X.out.step s2)
 clear X
 have J:=zc m2
 have aa:=zc i2
 clear i2 m2 s2 V
 clear a0 a1 a2 a3 a4 a5 a6 a7 a8 a9 ac ae af
 obtain rfl:=zhs aa.out hn
 have dz:decide ((0:Int)≤(zu (Cx.mk o j false) q.pos:Int))=true:=decide_eq_true (by omega)
 have ai:w.heap.size+1<w2.heap.size:=z.out.lt
 unfold pv
 go_upto_region 17 with fail
 refine zQ (R:=fun W=>Bx I K W (w.heap.size) _∧Bx I K W (w.heap.size+1) _∧Bx I K W (w2.heap.size) _∧Mem (Cx.mk o j false) I E D K q2 W∧SB w.heap.size S w K W) ⟨(H.out.alloc _),(z.out.alloc _),(Bx.new J.out _),(J.out.alloc _),(L.out.alloc _)⟩ ?_
 clear H z L J
 rintro w3 ⟨U,Q,X2,m3,t3⟩
 have H:=zc U
 have z:=zc Q
 have ab:=zc X2
 have ad:=zc m3
 have ag:=zc t3
 clear m3 t3 U Q X2
 obtain⟨b0,b1,b2,b3,b4,b5,b6,b7,b8,b9,aj,al,bf⟩:=z.out.box
 obtain⟨c0,c1,c2,c3,c4,c5,c6,c7,c8,c9,am,ak,cf⟩:=ab.out.box
 go_wp2
 refine bodyPost_ret (results_cell_row rfl _ _ (w.heap.size+1) 55 _ (0,0) _ rfl ((z.out.put ..)).heap Tryz.underlying55 rfl (by kernel_rfl)) rfl ?_
 rw[HV.out]
 exact zac rfl (show Is (.error (zu (Cx.mk o j false) q.pos)) q2 _ from rfl) (ad.out.put z.out ..) (ag.out.put (by omega) ..)
theorem zuF (o:List Tk) (j:Nat) (I E D:Nat) (S:Sv) (q:PS) (d:Nat) (w:World) (Y:Mem (Cx.mk o j false) I E D S q w) (hk:((zf (Cx.mk o j false) q.pos).kind==2)=false) (ho:isT (Cx.mk o j false) q.pos 4 cOpen=false) (hp:q.pos<(Cx.mk o j false).ts.length) (hn:plainB (Cx.mk o j false) q.pos false=false):
  Calls Tryz.prog 128 #[pv (Cx.mk o j false) I E S q (-1) d] w (Out (Cx.mk o j false) I E D (pE (Cx.mk o j false) .part d q) d S w):=by
 have HM:=zc Y
 have J:=Y.tok
 have O:(Cx.mk o j false).ts.length≤4000:=Y.few
 have ah:=(zan Y.tok).1
 clear Y
 have HV:Hid (pE (Cx.mk o j false) .part d q= .error (zu (Cx.mk o j false) q.pos)):=by show pE (Cx.mk o j false) .part d q=_;rw[zby,hk,ho,zk,hn];rfl
 have an:q.pos<o.length:=hp
 obtain⟨c0,_,_,_⟩:=J.cells hp (d:=⟨0,sNone,0,(Cx.mk o j false).fin⟩)
 change _=some (Value.int .i64 (zf (Cx.mk o j false) q.pos).kind) at c0
 generalize (zf (Cx.mk o j false) q.pos).kind=kd at c0 hk
 unfold pv
 go_enter Tryz.func128,Tryz.ntmps128
 go_wp2_with fail
 refine (zj (Cx.mk o j false) I E D S q (-1) d 4 cOpen _ (zv (zv J _) _) O (by decide)).mono ?_
 rintro e w1 ⟨rfl,N⟩
 rw[ho]
 obtain⟨U,Q,m1,t1⟩:=HM.out.two N
 have H:=zc U
 have z:=zc Q
 have V:=zc m1
 have X:=zc t1
 clear U Q m1 t1 N
 obtain⟨a0,a1,a2,a3,a4,a5,a6,a7,a8,a9,ac,ae,af⟩:=H.out.box
 go_wp2_with fail
 refine (zbz (Cx.mk o j false) I E D (.ok q) S q (-1) d false _ (zab q) V.out).mono ?_
 rintro e w2 ⟨L,q2,z2,n2,rfl,i2,m2,Z⟩
 replace H:=zc (H.out.stp Z)
 replace z:=zc (z.out.stp Z)
 have M:=zc (X.out.step Z)
 clear X
 have K:=zc m2
 have aa:=zc i2
 clear i2 m2 Z V
 clear a0 a1 a2 a3 a4 a5 a6 a7 a8 a9 ac ae af
 obtain rfl:=zhs aa.out hn
 have dz:decide ((0:Int)≤(zu (Cx.mk o j false) q.pos:Int))=true:=decide_eq_true (by omega)
 have ai:w.heap.size+1<w2.heap.size:=z.out.lt
 unfold pv
 go_upto_region 17 with fail
 refine zQ (R:=fun W=>Bx I L W (w.heap.size) _∧Bx I L W (w.heap.size+1) _∧Bx I L W (w2.heap.size) _∧Mem (Cx.mk o j false) I E D L q2 W∧SB w.heap.size S w L W) ⟨(H.out.alloc _),(z.out.alloc _),(Bx.new K.out _),(K.out.alloc _),(M.out.alloc _)⟩ ?_
 clear H z M K
 rintro w3 ⟨U,Q,X2,m3,t3⟩
 have H:=zc U
 have z:=zc Q
 have ab:=zc X2
 have ad:=zc m3
 have ag:=zc t3
 clear m3 t3 U Q X2
 obtain⟨b0,b1,b2,b3,b4,b5,b6,b7,b8,b9,aj,al,bf⟩:=z.out.box
 obtain⟨c0,c1,c2,c3,c4,c5,c6,c7,c8,c9,am,ak,cf⟩:=ab.out.box
 go_wp2
 refine bodyPost_ret (results_cell_row rfl _ _ (w.heap.size+1) 55 _ (0,0) _ rfl ((z.out.put ..)).heap Tryz.underlying55 rfl (by kernel_rfl)) rfl ?_
 rw[HV.out]
 exact zac rfl (show Is (.error (zu (Cx.mk o j false) q.pos)) q2 _ from rfl) (ad.out.put z.out ..) (ag.out.put (by omega) ..)
theorem zm7 (J:List Tk) (o:Nat) (I D z:Nat) (S:Sv) (q:PS) (d:Nat) (w:World) (Z:Mem (Cx.mk J o false) I D z S q w) (H:Nat):
  Calls Tryz.prog 128 #[pv (Cx.mk J o false) I D S q (H:Int) d] w (Out (Cx.mk J o false) I D z (.error H) d S w):=by
 have HM:=zc Z
 have O:=Z.tok
 have Q:(Cx.mk J o false).ts.length≤4000:=Z.few
 have ah:=(zan Z.tok).1
 clear Z
 have hz: ¬(H:Int)<0:=by omega
 have hs: ∀k s,(decide ((H:Int)<0)&&isT (Cx.mk J o false) q.pos k s)=false:=fun k s=>by rw[decide_eq_false hz];rfl
 unfold pv
 go_enter Tryz.func128,Tryz.ntmps128
 go_wp2_with fail
 refine (zj (Cx.mk J o false) I D z S q (H:Int) d 4 cOpen _ (zv (zv O _) _) Q (by decide)).mono ?_
 rintro e w1 ⟨rfl,N⟩
 rw[hs]
 obtain⟨V,U,m1,t1⟩:=HM.out.two N
 have E:=zc V
 have j:=zc U
 have X:=zc m1
 have Y:=zc t1
 clear V U m1 t1 N
 obtain⟨a0,a1,a2,a3,a4,a5,a6,a7,a8,a9,ac,ae,af⟩:=E.out.box
 go_wp2_with fail
 refine (zbz (Cx.mk J o false) I D z (.error H) S q (H:Int) d false _ (show Is (.error H) q _ from rfl) X.out).mono ?_
 rintro e w2 ⟨L,q2,z2,n2,rfl,i2,m2,s2⟩
 replace E:=zc (E.out.stp s2)
 replace j:=zc (j.out.stp s2)
 have M:=zc (Y.out.step s2)
 clear Y
 have K:=zc m2
 have aa:=zc i2
 clear i2 m2 s2 X
 clear a0 a1 a2 a3 a4 a5 a6 a7 a8 a9 ac ae af
 obtain rfl:z2=(H:Int):=aa.out
 have dz:decide ((0:Int)≤(H:Int))=true:=decide_eq_true (by omega)
 have ai:w.heap.size+1<w2.heap.size:=j.out.lt
 unfold pv
 go_upto_region 17 with fail
 refine zQ (R:=fun W=>Bx I L W (w.heap.size) _∧Bx I L W (w.heap.size+1) _∧Bx I L W (w2.heap.size) _∧Mem (Cx.mk J o false) I D z L q2 W∧SB w.heap.size S w L W) ⟨(E.out.alloc _),(j.out.alloc _),(Bx.new K.out _),(K.out.alloc _),(M.out.alloc _)⟩ ?_
 clear E j M K
 rintro w3 ⟨V,U,X2,m3,t3⟩
 have E:=zc V
 have j:=zc U
 have ab:=zc X2
 have ad:=zc m3
 have ag:=zc t3
 clear m3 t3 V U X2
 obtain⟨b0,b1,b2,b3,b4,b5,b6,b7,b8,b9,aj,al,bf⟩:=j.out.box
 obtain⟨c0,c1,c2,c3,c4,c5,c6,c7,c8,c9,am,ak,cf⟩:=ab.out.box
 go_wp2
 refine bodyPost_ret (results_cell_row rfl _ _ (w.heap.size+1) 55 _ (0,0) _ rfl ((j.out.put ..)).heap Tryz.underlying55 rfl (by kernel_rfl)) rfl ?_
 exact zac rfl (show Is (.error H) q2 _ from rfl) (ad.out.put j.out ..) (ag.out.put (by omega) ..)
theorem zuG (o:List Tk) (j:Nat) (K E z:Nat) (S:Sv) (q:PS) (d:Nat) (w:World) (hm:Mem (Cx.mk o j false) K E z S q w) (hk:((zf (Cx.mk o j false) q.pos).kind==2)=false) (ho:isT (Cx.mk o j false) q.pos 4 cOpen=false) (hp:q.pos<(Cx.mk o j false).ts.length) (hn:plainB (Cx.mk o j false) q.pos false=true) (hd:isT (Cx.mk o j false) (q.pos+1) 4 cPoint=false):
  Calls Tryz.prog 128 #[pv (Cx.mk o j false) K E S q (-1) d] w (Out (Cx.mk o j false) K E z (pE (Cx.mk o j false) .part d q) d S w):=by
 have HM:=zc hm
 have L:=hm.tok
 have M:(Cx.mk o j false).ts.length≤4000:=hm.few
 have an:=(zan hm.tok).1
 clear hm
 have HV:Hid (pE (Cx.mk o j false) .part d q=zau (Cx.mk o j false) (zf (Cx.mk o j false) q.pos).text (adv q)):=by show pE (Cx.mk o j false) .part d q=_;rw[zby,hk,ho,zk,hn];show (if isT (Cx.mk o j false) (adv q).pos 4 cPoint then _ else _)=_;rw[zz,hd];rfl
 have ar:q.pos<o.length:=hp
 obtain⟨c0,_,_,_⟩:=L.cells hp (d:=⟨0,sNone,0,(Cx.mk o j false).fin⟩)
 change _=some (Value.int .i64 (zf (Cx.mk o j false) q.pos).kind) at c0
 generalize (zf (Cx.mk o j false) q.pos).kind=kd at c0 hk
 unfold pv
 go_enter Tryz.func128,Tryz.ntmps128
 go_wp2_with fail
 refine (zj (Cx.mk o j false) K E z S q (-1) d 4 cOpen _ (zv (zv L _) _) M (by decide)).mono ?_
 rintro e w1 ⟨rfl,V⟩
 rw[ho]
 obtain⟨X0,X1,m1,t1⟩:=HM.out.two V
 have H:=zc X0
 have D:=zc X1
 have ab:=zc m1
 have ac:=zc t1
 clear X0 X1 m1 t1 V
 obtain⟨a0,a1,a2,a3,a4,a5,a6,a7,a8,a9,ah,ai,af⟩:=H.out.box
 go_wp2_with fail
 refine (zbz (Cx.mk o j false) K E z (.ok q) S q (-1) d false _ (zab q) ab.out).mono ?_
 rintro e w2 ⟨S2,q2,z2,n2,rfl,i2,m2,s2⟩
 replace H:=zc (H.out.stp s2)
 replace D:=zc (D.out.stp s2)
 have Q:=zc (ac.out.step s2)
 clear ac
 have J:=zc m2
 have O:=zc i2
 clear i2 m2 s2 ab
 clear a0 a1 a2 a3 a4 a5 a6 a7 a8 a9 ah ai af
 obtain⟨hq,rfl,aa⟩:=zhr O.out hn
 have HQ:=zc hq
 have ae:=zc aa
 have Y:q2.pos=q.pos+1:=by rw[hq];rfl
 have ad:isT (Cx.mk o j false) q2.pos 4 cPoint=false:=by rw[Y];exact hd
 clear hq aa O
 have ao:w.heap.size+1<w2.heap.size:=D.out.lt
 unfold pv
 clear Y
 go_wp2_with fail
 refine (zj (Cx.mk o j false) K E z S2 q2 (-1) d 4 cPoint _ (J.out.alloc _).tok M (by decide)).mono ?_
 rintro e w3 ⟨rfl,I⟩
 rw[ad]
 replace H:=zc ((H.out.alloc _).below I)
 replace D:=zc ((D.out.alloc _).below I)
 replace N:=zc ((Bx.new J.out _).below I)
 have Z:Hid (SB w.heap.size S w S2 w3):=(Q.out.alloc _).below I
 have X:Hid (Mem (Cx.mk o j false) K E z S2 q2 w3):=(J.out.alloc _).later I
 clear I Q J
 obtain⟨c0,c1,c2,c3,c4,c5,c6,c7,c8,c9,aj,ag,cf⟩:=N.out.box
 go_wp2_with fail
 refine (zjf (Cx.mk o j false) K E z S2 q2 d n2 _ X.out (by rw[HQ.out];simp[adv])).mono ?_
 rintro e w4 ⟨S4,q4,z4,rfl,i4,m4,U⟩
 replace H:=zc (H.out.stp U)
 replace D:=zc (D.out.stp U)
 replace N:=zc (N.out.stp U)
 have am:=zc (Z.out.step U)
 clear Z
 have ak:=zc m4
 have al:=zc i4
 clear i4 m4 U X
 clear c0 c1 c2 c3 c4 c5 c6 c7 c8 c9 aj ag cf
 obtain⟨b0,b1,b2,b3,b4,b5,b6,b7,b8,b9,ap,aq,bf⟩:=D.out.box
 unfold pv
 go_wp2
 refine bodyPost_ret (results_cell_row rfl _ _ (w.heap.size+1) 55 _ (0,0) _ rfl ((D.out.put ..)).heap Tryz.underlying55 rfl (by kernel_rfl)) rfl ?_
 rw[HV.out,←HQ.out,←ae.out]
 exact zac rfl al.out (ak.out.put D.out ..) (am.out.put (by omega) ..)
theorem zuH (E:List Tk) (j:Nat) (M I z:Nat) (S:Sv) (q:PS) (d:Nat) (w:World) (hm:Mem (Cx.mk E j false) M I z S q w) (hk:((zf (Cx.mk E j false) q.pos).kind==2)=false) (ho:isT (Cx.mk E j false) q.pos 4 cOpen=false) (hp:q.pos<(Cx.mk E j false).ts.length) (hn:plainB (Cx.mk E j false) q.pos false=true) (hd:isT (Cx.mk E j false) (q.pos+1) 4 cPoint=true):
  Calls Tryz.prog 128 #[pv (Cx.mk E j false) M I S q (-1) d] w (Out (Cx.mk E j false) M I z (pE (Cx.mk E j false) .part d q) d S w):=by
 have HM:=zc hm
 have ae:=hm.tok
 have N:(Cx.mk E j false).ts.length≤4000:=hm.few
 have aK:=(zan hm.tok).1
 clear hm
 have HV:Hid (pE (Cx.mk E j false) .part d q=bd (bd (.ok (adv (adv q))) (zk (Cx.mk E j false) true)) fun y=>za5 (Cx.mk E j false) (zf (Cx.mk E j false) q.pos).text y.2 y.1):=by show pE (Cx.mk E j false) .part d q=_;rw[zby,hk,ho,zk,hn];show (if isT (Cx.mk E j false) (adv q).pos 4 cPoint then _ else _)=_;rw[zz,hd];rfl
 have aM:q.pos<E.length:=hp
 obtain⟨c0,_,_,_⟩:=ae.cells hp (d:=⟨0,sNone,0,(Cx.mk E j false).fin⟩)
 change _=some (Value.int .i64 (zf (Cx.mk E j false) q.pos).kind) at c0
 generalize (zf (Cx.mk E j false) q.pos).kind=kd at c0 hk
 unfold pv
 go_enter Tryz.func128,Tryz.ntmps128
 go_wp2_with fail
 refine (zj (Cx.mk E j false) M I z S q (-1) d 4 cOpen _ (zv (zv ae _) _) N (by decide)).mono ?_
 rintro e w1 ⟨rfl,an⟩
 rw[ho]
 obtain⟨X0,X1,m1,t1⟩:=HM.out.two an
 have D:=zc X0
 have o:=zc X1
 have aw:=zc m1
 have ax:=zc t1
 clear X0 X1 m1 t1 an
 obtain⟨a0,a1,a2,a3,a4,a5,a6,a7,a8,a9,aC,aE,af⟩:=D.out.box
 go_wp2_with fail
 refine (zbz (Cx.mk E j false) M I z (.ok q) S q (-1) d false _ (zab q) aw.out).mono ?_
 rintro e w2 ⟨S2,q2,z2,n2,rfl,i2,m2,s2⟩
 replace D:=zc (D.out.stp s2)
 replace o:=zc (o.out.stp s2)
 have am:=zc (ax.out.step s2)
 clear ax
 have ad:=zc m2
 have al:=zc i2
 clear i2 m2 s2 aw
 clear a0 a1 a2 a3 a4 a5 a6 a7 a8 a9 aC aE af
 obtain⟨hq,rfl,av⟩:=zhr al.out hn
 have HQ:=zc hq
 have ak:=zc av
 have ap:q2.pos=q.pos+1:=by rw[hq];rfl
 have aj:isT (Cx.mk E j false) q2.pos 4 cPoint=true:=by rw[ap];exact hd
 clear hq av al
 have aL:w.heap.size+1<w2.heap.size:=o.out.lt
 unfold pv
 clear ap
 go_wp2_with fail
 refine (zj (Cx.mk E j false) M I z S2 q2 (-1) d 4 cPoint _ (ad.out.alloc _).tok N (by decide)).mono ?_
 rintro e w3 ⟨rfl,O⟩
 rw[aj]
 replace D:=zc ((D.out.alloc _).below O)
 replace o:=zc ((o.out.alloc _).below O)
 replace H:=zc ((Bx.new ad.out _).below O)
 have au:Hid (SB w.heap.size S w S2 w3):=(am.out.alloc _).below O
 have ao:Hid (Mem (Cx.mk E j false) M I z S2 q2 w3):=(ad.out.alloc _).later O
 clear O am ad
 obtain⟨c0,c1,c2,c3,c4,c5,c6,c7,c8,c9,aF,aB,cf⟩:=H.out.box
 have aq:q2.pos<(Cx.mk E j false).ts.length:=za1 aj (by decide)
 have aJ:q2.pos<E.length:=aq
 go_wp2_with fail
 refine (zbz (Cx.mk E j false) M I z (.ok (adv q2)) S2 (adv q2) (-1) d true _ (zab _) ((ao.out.adv aq).set H.out 1 _)).mono ?_
 rintro e w4 ⟨S4,q4,z4,n4,rfl,i4,m4,s4⟩
 replace D:=zc ((D.out.set_other (by omega) 1 _).stp s4)
 replace o:=zc ((o.out.set_other (by omega) 1 _).stp s4)
 replace H:=zc ((H.out.at1 _).stp s4)
 have ac:Hid (SB w.heap.size S w S4 w4):=(au.out.set (by omega) 1 _).step s4
 clear au
 have L:=zc m4
 have Z:=zc i4
 clear i4 m4 s4 ao
 clear c0 c1 c2 c3 c4 c5 c6 c7 c8 c9 aF aB cf
 have aI:w.heap.size+1<w4.heap.size:=o.out.lt
 have ay:w2.heap.size<w4.heap.size:=H.out.lt
 cases hc:(decide (z4<0)&&isT (Cx.mk E j false) q4.pos 4 cOpen) with
 |true=>
  unfold pv
  go_wp2_with fail
  refine (zj (Cx.mk E j false) M I z S4 q4 z4 d 4 cOpen _ (L.out.alloc _).tok N (by decide)).mono ?_
  rintro e w5 ⟨rfl,J⟩
  rw[hc]
  replace D:=zc ((D.out.alloc _).below J)
  replace o:=zc ((o.out.alloc _).below J)
  replace H:=zc ((H.out.alloc _).below J)
  replace K:=zc ((Bx.new L.out _).below J)
  have U:Hid (SB w.heap.size S w S4 w5):=(ac.out.alloc _).below J
  have X:Hid (Mem (Cx.mk E j false) M I z S4 q4 w5):=(L.out.alloc _).later J
  clear J ac L
  obtain⟨d0,d1,d2,d3,d4,d5,d6,d7,d8,d9,Y,V,df⟩:=K.out.box
  go_wp2_with fail
  refine (zah (Cx.mk E j false) M I z _ S4 q4 z4 d cOpen _ Z.out.fst X.out).mono ?_
  rintro e w6 ⟨S6,q6,z6,rfl,i6,m6,Q⟩
  replace D:=zc (D.out.stp Q)
  replace o:=zc (o.out.stp Q)
  replace H:=zc (H.out.stp Q)
  replace K:=zc (K.out.stp Q)
  have ab:=zc (U.out.step Q)
  clear U
  have aa:=zc m6
  have ag:=zc i6
  clear i6 m6 Q X
  clear d0 d1 d2 d3 d4 d5 d6 d7 d8 d9 Y V df
  go_wp2_with fail
  refine (zah (Cx.mk E j false) M I z _ S6 q6 z6 d zU _ ag.out aa.out).mono ?_
  rintro e w7 ⟨S7,q7,z7,rfl,i7,m7,s7⟩
  replace D:=zc (D.out.stp s7)
  replace o:=zc (o.out.stp s7)
  replace H:=zc (H.out.stp s7)
  replace K:=zc (K.out.stp s7)
  have ah:=zc (ab.out.step s7)
  clear ab
  have ai:=zc m7
  have ar:=zc i7
  clear i7 m7 s7 aa
  obtain⟨d0,d1,d2,d3,d4,d5,d6,d7,d8,d9,Y,V,df⟩:=K.out.box
  unfold pv
  go_wp2_with fail
  refine (zcX (Cx.mk E j false) M I z _ S7 q7 z7 d ⟨5,0,n2,n4,0,0⟩ _ ar.out (ai.out.put K.out ..) (zb5 ar.out)).mono ?_
  rintro e w8 ⟨S8,q8,z8,rfl,i8,m8,s8⟩
  replace D:=zc ((D.out.other (by omega) ..).stp s8)
  replace o:=zc ((o.out.other (by omega) ..).stp s8)
  replace H:=zc ((H.out.other (by omega) ..).stp s8)
  replace K:=zc ((K.out.put ..).stp s8)
  have aG:Hid (SB w.heap.size S w S8 w8):=(ah.out.put (by omega) ..).step s8
  clear ah
  have aH:=zc m8
  have az:=zc i8
  clear i8 m8 s8 ai
  clear d0 d1 d2 d3 d4 d5 d6 d7 d8 d9 Y V df
  obtain⟨b0,b1,b2,b3,b4,b5,b6,b7,b8,b9,aA,aD,bf⟩:=o.out.box
  unfold pv
  go_wp2
  refine bodyPost_ret (results_cell_row rfl _ _ (w.heap.size+1) 55 _ (0,0) _ rfl ((o.out.put ..)).heap Tryz.underlying55 rfl (by kernel_rfl)) rfl ?_
  rw[HV.out,←HQ.out,←ak.out,←zm3 Z.out hc]
  exact zac rfl az.out (aH.out.put o.out ..) (aG.out.put (by omega) ..)
 |false=>
  unfold pv
  go_wp2_with fail
  refine (zj (Cx.mk E j false) M I z S4 q4 z4 d 4 cOpen _ (L.out.alloc _).tok N (by decide)).mono ?_
  rintro e w5 ⟨rfl,J⟩
  rw[hc]
  replace D:=zc ((D.out.alloc _).below J)
  replace o:=zc ((o.out.alloc _).below J)
  replace H:=zc ((H.out.alloc _).below J)
  replace K:=zc ((Bx.new L.out _).below J)
  have U:Hid (SB w.heap.size S w S4 w5):=(ac.out.alloc _).below J
  have X:Hid (Mem (Cx.mk E j false) M I z S4 q4 w5):=(L.out.alloc _).later J
  clear J ac L
  obtain⟨d0,d1,d2,d3,d4,d5,d6,d7,d8,d9,Y,V,df⟩:=K.out.box
  go_wp2_with fail
  refine (zcX (Cx.mk E j false) M I z _ S4 q4 z4 d ⟨4,0,n2,n4,0,0⟩ _ Z.out.fst X.out (zm5 Z.out)).mono ?_
  rintro e w6 ⟨S6,q6,z6,rfl,i6,m6,Q⟩
  replace D:=zc (D.out.stp Q)
  replace o:=zc (o.out.stp Q)
  replace H:=zc (H.out.stp Q)
  replace K:=zc (K.out.stp Q)
  have ab:=zc (U.out.step Q)
  clear U
  have aa:=zc m6
  have ag:=zc i6
  clear i6 m6 Q X
  clear d0 d1 d2 d3 d4 d5 d6 d7 d8 d9 Y V df
  obtain⟨b0,b1,b2,b3,b4,b5,b6,b7,b8,b9,aA,aD,bf⟩:=o.out.box
  unfold pv
  go_wp2
  refine bodyPost_ret (results_cell_row rfl _ _ (w.heap.size+1) 55 _ (0,0) _ rfl ((o.out.put ..)).heap Tryz.underlying55 rfl (by kernel_rfl)) rfl ?_
  rw[HV.out,←HQ.out,←ak.out,←zm4 Z.out hc]
  exact zac rfl ag.out (aa.out.put o.out ..) (ab.out.put (by omega) ..)
def zjg (C:Cx) (gt cap base m:Nat):Prop:=∀(x:PR) (S:Sv) (q:PS) (z:Int) (d:Nat) (w:World),Is x q z→Mem C gt cap base S q w→(z<0→C.ts.length-q.pos<m)→d≤20→
 Calls Tryz.prog 128 #[pv C gt cap S q z d] w (Out C gt cap base (bd x (pE C .part d)) d S w)
def zm8 (C:Cx) (gt cap base m:Nat):Prop:=∀(x:PR) (S:Sv) (q:PS) (z:Int) (d:Nat) (w:World),Is x q z→Mem C gt cap base S q w→(z<0→C.ts.length-q.pos<m)→d≤20→
 Calls Tryz.prog 102 #[pv C gt cap S q z d] w (Out C gt cap base (bd x (pE C .prod d)) d S w)
theorem SumOK.mono {C:Cx} {D o j m k:Nat} (h:SumOK C D o j m) (J:k≤m):SumOK C D o j k:=fun x S q z d w E I H K=>h x S q z d w E I (fun g=>Nat.lt_of_lt_of_le (H g) J) K
theorem zuI {C:Cx} {H o j m:Nat} (Z:SumOK C H o j m):zjg C H o j (m+1):=by
 intro x S q z d w X I Y hd
 by_cases V:z<0
 ·obtain⟨rfl,rfl⟩:=zaF X V
  rw[zh]
  have U:SumOK C H o j (C.ts.length-q.pos):=Z.mono (by have:=Y V;omega)
  cases J:((zf C q.pos).kind==2) with
  |true=>exact zu6 C H o j S q d w I J
  |false=>
   cases L:isT C q.pos 4 cOpen with
   |true=>
    by_cases Q:20≤d
    ·exact zu7 C H o j S q d w I J L Q hd
    ·exact zu8 C H o j S q d w I J L (by omega) U
   |false=>
    obtain⟨E,D,M⟩:=C
    cases M with
    |true=>
     by_cases K:q.pos<E.length
     ·cases O:isT (Cx.mk E D true) q.pos 1 sUndef with
      |true=>exact zuB E D H o j S q d w I J L K O
      |false=>
       cases N:plainB (Cx.mk E D true) q.pos false with
       |false=>exact zuA E D H o j S q d w I J L K O N
       |true=>
        cases hd:isT (Cx.mk E D true) (q.pos+1) 4 cPoint with
        |false=>exact zuC E D H o j S q d w I J L K O N hd
        |true=>exact zuD E D H o j S q d w I J L K O N hd
     ·exact zu9 E D H o j S q d w I K
    |false=>
     by_cases K:q.pos<E.length
     ·cases N:plainB (Cx.mk E D false) q.pos false with
      |false=>exact zuF E D H o j S q d w I J L K N
      |true=>
       cases hd:isT (Cx.mk E D false) (q.pos+1) 4 cPoint with
       |false=>exact zuG E D H o j S q d w I J L K N hd
       |true=>exact zuH E D H o j S q d w I J L K N hd
     ·exact zuE E D H o j S q d w I K
 ·obtain⟨e,rfl,rfl⟩:=zd2 X V
  rw[zec]
  obtain⟨E,D,M⟩:=C
  cases M with
  |true=>exact zm6 E D H o j S q d w I e
  |false=>exact zm7 E D H o j S q d w I e
theorem zjh {C:Cx} {x:PR} {q:PS} {z:Int} (h:Is x q z) (F:PS→Ex):bd x (zJ C (F q))=bd x fun q'=>zJ C (F q') q':=by
 cases x with
 |ok a=>obtain⟨rfl,_⟩:=h;rfl
 |error e=>rfl
theorem zm9 {C:Cx} {y:PS→Ex} {x:PR} {q:PS} {n:Nat} (j: ∀a,x= .ok a→n≤a.pos) (h:(bd x fun q'=>zJ C (y q') q')= .ok q):n≤q.pos:=by
 obtain⟨a,o,z⟩:=ze h
 obtain⟨rfl,_⟩:=zbx z
 exact j a o
theorem zuJ {C:Cx} {d m:Nat} {x:PR} {q q1:PS} {z j:Int} (D:Is x q z) (o:Is (bd x (pE C .part d)) q1 j) (I:z<0→C.ts.length-q.pos<m) (J:j<0):C.ts.length-q1.pos<m:=by
 obtain⟨e,_⟩:=zaF o J
 obtain⟨a,H,E⟩:=ze e
 subst H
 obtain⟨rfl,rfl⟩:=D
 have:=zbr E
 have:=I (by decide)
 omega
theorem zuK {C:Cx} {d m:Nat} {x:PR} {q q1:PS} {z j:Int} (D:Is x q z) (o:Is (bd x (pE C .prod d)) q1 j) (I:z<0→C.ts.length-q.pos<m) (J:j<0):C.ts.length-q1.pos<m:=by
 obtain⟨e,_⟩:=zaF o J
 obtain⟨a,H,E⟩:=ze e
 subst H
 obtain⟨rfl,rfl⟩:=D
 have:=zbr E
 have:=I (by decide)
 omega
theorem zuL {C:Cx} {d:Nat} {j q:PS} {z:Int} (h:Is (bd (.ok (adv j)) (pE C .part d)) q z) (o:z<0):1≤q.pos:=by
 obtain⟨e,_⟩:=zaF h o
 have:=zbr (show pE C .part d (adv j)= .ok q from e)
 rw[zz] at this
 omega
theorem zmA {C:Cx} {d:Nat} {j q:PS} {z:Int} (h:Is (bd (.ok (adv j)) (pE C .prod d)) q z) (o:z<0):1≤q.pos:=by
 obtain⟨e,_⟩:=zaF h o
 have:=zbr (show pE C .prod d (adv j)= .ok q from e)
 rw[zz] at this
 omega
theorem zuM {C:Cx} {d:Nat} {F:PS→Ex} {j q:PS} {z:Int} (h:Is (bd (bd (.ok (adv j)) (pE C .part d)) fun q'=>zJ C (F q') q') q z) (D:z<0):j.pos+1≤q.pos:=by
 obtain⟨e,_⟩:=zaF h D
 exact zm9 (fun a o=>by have:=zbr (show pE C .part d (adv j)= .ok a from o);rw[zz] at this;exact this) e
theorem zmB {C:Cx} {d:Nat} {F:PS→Ex} {j q:PS} {z:Int} (h:Is (bd (bd (.ok (adv j)) (pE C .prod d)) fun q'=>zJ C (F q') q') q z) (D:z<0):j.pos+1≤q.pos:=by
 obtain⟨e,_⟩:=zaF h D
 exact zm9 (fun a o=>by have:=zbr (show pE C .prod d (adv j)= .ok a from o);rw[zz] at this;exact this) e
theorem zuN {C:Cx} {d:Nat} {q:PS} (j:isT C q.pos 4 zp=true) (_:q.pos<C.ts.length):
  bd (.ok q) (pE C .prodT d)=bd (bd (bd (.ok (adv q)) (pE C .part d)) fun q'=>zJ C ⟨8,0,sNone,sNone,(q.ex.length:Int)-1,(q'.ex.length:Int)-1⟩ q') (pE C .prodT d):=by
 show pE C .prodT d q=_
 rw[zeK,if_pos j]
 rfl
theorem zmC {C:Cx} {d:Nat} {q:PS} {k:Int} (j:(isT C q.pos 4 zbq||isT C q.pos 4 zaI)=true) (o:zbw C q.pos=k) (_:q.pos<C.ts.length):
  bd (.ok q) (pE C .sumT d)=bd (bd (bd (.ok (adv q)) (pE C .prod d)) fun q'=>zJ C ⟨k,0,sNone,sNone,(q.ex.length:Int)-1,(q'.ex.length:Int)-1⟩ q') (pE C .sumT d):=by
 show pE C .sumT d q=_
 rw[zee,if_pos j,o]
 rfl
theorem zuO {C:Cx} {d:Nat} {x:PR} {q:PS} {z:Int} (o:Is x q z) (j:(decide (z<0)&&isT C q.pos 4 zp)=false):Is (bd x (pE C .prodT d)) q z:=by
 cases x with
 |ok a=>
  obtain⟨rfl,rfl⟩:=o
  rw[Bool.and_eq_false_iff] at j
  rw[zh,zeK,j.resolve_left (by decide)]
  exact⟨rfl,rfl⟩
 |error e=>exact o
theorem zuP {C:Cx} {d:Nat} {x:PR} {q:PS} {z:Int} (D:Is x q z) (o:(decide (z<0)&&isT C q.pos 4 zbq)=false) (j:(decide (z<0)&&isT C q.pos 4 zaI)=false):Is (bd x (pE C .sumT d)) q z:=by
 cases x with
 |ok a=>
  obtain⟨rfl,rfl⟩:=D
  rw[Bool.and_eq_false_iff] at o j
  rw[zh,zee,o.resolve_left (by decide),j.resolve_left (by decide)]
  exact⟨rfl,rfl⟩
 |error e=>exact D
theorem zuQ {C:Cx} {i:Nat} (h:isT C i 4 zbq=true):isT C i 4 zaI=false:=by
 simp only[isT,Bool.and_eq_true,beq_iff_eq] at h
 simp only[isT,h.2]
 rw[Bool.and_eq_false_iff]
 exact .inr (by simp)
theorem zmD {C:Cx} {U J I m:Nat} (hP:zjg C U J I m):zm8 C U J I m:=by
 intro x S q z d w hx hm hl ad
 have HP:=zc hP
 have HM:=zc hm
 have HX:=zc hx
 have HL:=zc hl
 have ag:=hm.few
 clear hP hm hx hl
 unfold pv
 go_enter Tryz.func102,Tryz.ntmps102
 go_wp2_with fail
 refine (HP.out x S q z d _ HX.out ((HM.out.alloc _).alloc _) HL.out ad).mono ?_
 rintro e w1 ⟨S1,q1,z1,rfl,i1,m1,s1⟩
 obtain⟨X0,X1,t1⟩:=HM.out.two2 s1
 have j:=zc X0
 have o:=zc X1
 have aw:=zc m1
 have ax:=zc t1
 have am:=zc i1
 clear X0 X1 i1 m1 t1 s1
 obtain⟨Y,a1,N,O,Q,Z,a6,V,X,a9,D,E,af⟩:=j.out.box
 unfold pv
 go_wp2
 go_loopg [] (C.ts.length+1) (fun k wr=>∃(x':PR) (L:Sv) (K:PS) (z':Int),Is x' K z'∧bd x' (pE C .prodT d)=bd x (pE C .prod d)∧(z'<0→C.ts.length-K.pos<k)∧(z'<0→C.ts.length-K.pos<m)∧Mem C U J I L K wr∧SB w.heap.size S w L wr∧Bx U L wr w.heap.size #[.slice (some ⟨U,0,none⟩) C.ts.length J,.int .i64 K.pos,.int .i64 C.fin,.bool C.scr,.slice L.rq.a K.rq.length L.rq.cap,.slice L.im.a K.im.length L.im.cap,.slice L.ep.a K.ep.length L.ep.cap,.slice L.st.a K.st.length L.st.cap,.slice L.ex.a K.ex.length L.ex.cap,.slice L.la.a K.la.length L.la.cap,.int .i64 z',.int .i64 d]∧Bx U L wr (w.heap.size+1) #[.slice none 0 0,.int .i64 0,.int .i64 0,.bool false,.slice none 0 0,.slice none 0 0,.slice none 0 0,.slice none 0 0,.slice none 0 0,.slice none 0 0,.int .i64 0,.int .i64 0])
 case atStart=>exact⟨_,S1,q1,z1,am.out,by rw[zR];exact zaf fun a _=>(zf4 C d a).symm,fun _=>by omega,fun hz=>zuJ HX.out am.out HL.out hz,(aw.out.put j.out ..),(ax.out.put (by omega) ..),(j.out.put ..),(o.out.other (by omega) ..)⟩
 case round=>
  obtain⟨x2,S2,q2,z2,i2,e2,l2,b2,m2,t2,X0,X1⟩:=hrel
  have j:=zc X0
  have o:=zc X1
  have M:=zc m2
  have aa:=zc t2
  have al:=zc i2
  have ak:=zc e2
  have aq:=zc l2
  have av:=zc b2
  have aA:=m2.inv.ex
  clear X0 X1 i2 m2 t2 e2 l2 b2
  cases hc:(decide (z2<0)&&isT C q2.pos 4 zp) with
  |true=>
   obtain⟨Y,a1,N,O,Q,Z,a6,V,X,a9,D,E,af⟩:=j.out.box
   go_wp2_with fail
   refine (zj C U J I S2 q2 z2 d 4 zp _ M.out.tok ag (by decide)).mono ?_
   rintro e w3 ⟨rfl,H⟩
   rw[hc]
   replace j:=zc (j.out.below H)
   replace o:=zc (o.out.below H)
   have ac:=zc (aa.out.below H)
   have ab:=zc (M.out.later H)
   clear H aa M
   clear Y a1 N O Q Z a6 V X a9 D E af
   rw[Bool.and_eq_true,decide_eq_true_eq] at hc
   obtain⟨hz,hs⟩:=hc
   have hp:q2.pos<C.ts.length:=za1 hs (by decide)
   obtain⟨rfl,rfl⟩:=zaF al.out hz
   have az:=aq.out hz
   have aB:=av.out hz
   skip
   obtain⟨Y,a1,N,O,Q,Z,a6,V,X,a9,D,E,af⟩:=j.out.box
   go_wp2_with fail
   refine (HP.out (.ok (adv q2)) S2 (adv q2) (-1) d _ (zab _) ((ab.out.adv hp).set j.out 1 _) (fun _=>by rw[zz];omega) ad).mono ?_
   rintro e w4 ⟨S4,q4,z4,rfl,i4,m4,s4⟩
   replace j:=zc ((j.out.at1 _).stp s4)
   replace o:=zc ((o.out.set_other (by omega) 1 _).stp s4)
   have ao:Hid (SB w.heap.size S w S4 w4):=(ac.out.set (by omega) 1 _).step s4
   clear ac
   have an:=zc m4
   have ai:=zc i4
   clear i4 m4 s4 ab
   clear Y a1 N O Q Z a6 V X a9 D E af
   obtain⟨Y,a1,N,O,Q,Z,a6,V,X,a9,D,E,af⟩:=j.out.box
   unfold pv
   go_upto_region 6 with fail
   refine zQ (R:=fun W=>Bx U S4 W (w.heap.size) _∧Bx U S4 W (w.heap.size+1) _∧Mem C U J I S4 q4 W∧SB w.heap.size S w S4 W) ⟨(j.out.put ..),(o.out.other (by omega) ..),(an.out.put j.out ..),(ao.out.put (by omega) ..)⟩ ?_
   clear Y a1 N O Q Z a6 V X a9 D E af
   clear j o ao an
   rintro w5 ⟨X0,X1,m5,t5⟩
   have j:=zc X0
   have o:=zc X1
   have ah:=zc m5
   have aj:=zc t5
   clear m5 t5 X0 X1
   obtain⟨Y,a1,N,O,Q,Z,a6,V,X,a9,D,E,af⟩:=j.out.box
   have ay:=ah.out.inv.ex
   go_wp2_with fail
   refine (zcX C U J I _ S4 q4 z4 d ⟨8,0,sNone,sNone,(q2.ex.length:Int)-1,(q4.ex.length:Int)-1⟩ _ ai.out ah.out (fun h=>zuL ai.out h)).mono ?_
   rintro e w6 ⟨S6,q6,z6,rfl,i6,m6,s6⟩
   replace j:=zc (j.out.stp s6)
   replace o:=zc (o.out.stp s6)
   have au:=zc (aj.out.step s6)
   clear aj
   have ap:=zc m6
   have ar:=zc i6
   clear i6 m6 s6 ah
   clear Y a1 N O Q Z a6 V X a9 D E af
   have HI:Hid (Is (bd (bd (.ok (adv q2)) (pE C .part d)) fun K=>zJ C ⟨8,0,sNone,sNone,(q2.ex.length:Int)-1,(K.ex.length:Int)-1⟩ K) q6 z6):=by rw[←zjh ai.out (fun K=>⟨8,0,sNone,sNone,(q2.ex.length:Int)-1,(K.ex.length:Int)-1⟩)];exact ar.out
   have ae:Hid (z6<0→q2.pos+1≤q6.pos):=fun h=>zuM HI.out h
   obtain⟨Y,a1,N,O,Q,Z,a6,V,X,a9,D,E,af⟩:=j.out.box
   unfold pv
   go_wp2
   go_roundg (gk-1)
   case rel=>exact⟨_,S6,q6,z6,HI.out,by rw[←ak.out];exact (zuN (d:=d) hs hp).symm,fun h=>by have:=ae.out h;omega,fun h=>by have:=ae.out h;omega,(ap.out.put j.out ..),(au.out.put (by omega) ..),(j.out.put ..),(o.out.other (by omega) ..)⟩
   case measure=>omega
  |false=>
   obtain⟨Y,a1,N,O,Q,Z,a6,V,X,a9,D,E,af⟩:=j.out.box
   go_wp2_with fail
   refine (zj C U J I S2 q2 z2 d 4 zp _ M.out.tok ag (by decide)).mono ?_
   rintro e w3 ⟨rfl,H⟩
   rw[hc]
   replace j:=zc (j.out.below H)
   replace o:=zc (o.out.below H)
   have ac:=zc (aa.out.below H)
   have ab:=zc (M.out.later H)
   clear H aa M
   clear Y a1 N O Q Z a6 V X a9 D E af
   obtain⟨Y,a1,N,O,Q,Z,a6,V,X,a9,D,E,af⟩:=j.out.box
   obtain⟨b0,b1,b2,b3,b4,b5,b6,b7,b8,b9,aC,aD,bf⟩:=o.out.box
   go_wp2
   refine bodyPost_ret (results_cell_row rfl _ _ (w.heap.size+1) 55 _ (0,0) _ rfl ((o.out.put ..)).heap Tryz.underlying55 rfl (by kernel_rfl)) rfl ?_
   exact zac rfl (show Is (bd x (pE C .prod d)) q2 z2 from by rw[←ak.out];exact zuO al.out hc) (ab.out.put o.out ..) (ac.out.put (by omega) ..)
theorem zmE {C:Cx} {gt J H m:Nat} (hP:zm8 C gt J H m):SumOK C gt J H m:=by
 intro x S q z d w hx hm hl al
 have HP:=zc hP
 have HM:=zc hm
 have HX:=zc hx
 have HL:=zc hl
 have ac:=hm.few
 clear hP hm hx hl
 unfold pv
 go_enter Tryz.func53,Tryz.ntmps53
 go_wp2_with fail
 refine (HP.out x S q z d _ HX.out ((HM.out.alloc _).alloc _) HL.out al).mono ?_
 rintro e w1 ⟨S1,q1,z1,rfl,i1,m1,s1⟩
 obtain⟨X0,X1,t1⟩:=HM.out.two2 s1
 have j:=zc X0
 have o:=zc X1
 have aK:=zc m1
 have aL:=zc t1
 have aB:=zc i1
 clear X0 X1 i1 m1 t1 s1
 obtain⟨U,Z,L,M,N,V,a6,O,Q,Y,D,E,X⟩:=j.out.box
 unfold pv
 go_wp2
 go_loopg [] (C.ts.length+1) (fun k wr=>∃(x':PR) (S':Sv) (q':PS) (z':Int),Is x' q' z'∧bd x' (pE C .sumT d)=bd x (pE C .sum d)∧(z'<0→C.ts.length-q'.pos<k)∧(z'<0→C.ts.length-q'.pos<m)∧Mem C gt J H S' q' wr∧SB w.heap.size S w S' wr∧Bx gt S' wr w.heap.size #[.slice (some ⟨gt,0,none⟩) C.ts.length J,.int .i64 q'.pos,.int .i64 C.fin,.bool C.scr,.slice S'.rq.a q'.rq.length S'.rq.cap,.slice S'.im.a q'.im.length S'.im.cap,.slice S'.ep.a q'.ep.length S'.ep.cap,.slice S'.st.a q'.st.length S'.st.cap,.slice S'.ex.a q'.ex.length S'.ex.cap,.slice S'.la.a q'.la.length S'.la.cap,.int .i64 z',.int .i64 d]∧Bx gt S' wr (w.heap.size+1) #[.slice none 0 0,.int .i64 0,.int .i64 0,.bool false,.slice none 0 0,.slice none 0 0,.slice none 0 0,.slice none 0 0,.slice none 0 0,.slice none 0 0,.int .i64 0,.int .i64 0])
 case atStart=>exact⟨_,S1,q1,z1,aB.out,by rw[zR];exact zaf fun a _=>(zh9 C d a).symm,fun _=>by omega,fun hz=>zuK HX.out aB.out HL.out hz,(aK.out.put j.out ..),(aL.out.put (by omega) ..),(j.out.put ..),(o.out.other (by omega) ..)⟩
 case round=>
  obtain⟨x2,S2,K,z2,i2,e2,l2,b2,m2,t2,X0,X1⟩:=hrel
  have j:=zc X0
  have o:=zc X1
  have ak:=zc m2
  have au:=zc t2
  have aw:=zc i2
  have av:=zc e2
  have aC:=zc l2
  have aD:=zc b2
  have aM:=m2.inv.ex
  clear X0 X1 i2 m2 t2 e2 l2 b2
  cases hc:(decide (z2<0)&&isT C K.pos 4 zbq) with
  |true=>
   obtain⟨U,Z,L,M,N,V,a6,O,Q,Y,D,E,X⟩:=j.out.box
   go_wp2_with fail
   refine (zj C gt J H S2 K z2 d 4 zbq _ ak.out.tok ac (by decide)).mono ?_
   rintro e w3 ⟨rfl,aa⟩
   rw[hc]
   replace j:=zc (j.out.below aa)
   replace o:=zc (o.out.below aa)
   have ah:=zc (au.out.below aa)
   have ab:=zc (ak.out.later aa)
   clear aa au ak
   clear U Z L M N V a6 O Q Y D E X
   rw[Bool.and_eq_true,decide_eq_true_eq] at hc
   obtain⟨hz,hs⟩:=hc
   have aA:isT C K.pos 4 zaI=false:=zuQ hs
   have ad:(decide (z2<0)&&isT C K.pos 4 zaI)=false:=by rw[aA,Bool.and_false]
   obtain⟨U,Z,L,M,N,V,a6,O,Q,Y,D,E,X⟩:=j.out.box
   go_wp2_with fail
   refine (zj C gt J H S2 K z2 d 4 zaI _ ab.out.tok ac (by decide)).mono ?_
   rintro e w4 ⟨rfl,I⟩
   rw[ad]
   replace j:=zc (j.out.below I)
   replace o:=zc (o.out.below I)
   have ai:=zc (ah.out.below I)
   have ag:=zc (ab.out.later I)
   clear I ah ab
   clear U Z L M N V a6 O Q Y D E X
   clear ad
   have hp:K.pos<C.ts.length:=za1 hs (by decide)
   obtain⟨rfl,rfl⟩:=zaF aw.out hz
   have aE:=aC.out hz
   have aG:=aD.out hz
   skip
   obtain⟨U,Z,L,M,N,V,a6,O,Q,Y,D,E,X⟩:=j.out.box
   go_wp2_with fail
   refine (HP.out (.ok (adv K)) S2 (adv K) (-1) d _ (zab _) ((ag.out.adv hp).set j.out 1 _) (fun _=>by rw[zz];omega) al).mono ?_
   rintro e w5 ⟨S5,q5,z5,rfl,i5,m5,s5⟩
   replace j:=zc ((j.out.at1 _).stp s5)
   replace o:=zc ((o.out.set_other (by omega) 1 _).stp s5)
   have am:Hid (SB w.heap.size S w S5 w5):=(ai.out.set (by omega) 1 _).step s5
   clear ai
   have aq:=zc m5
   have ax:=zc i5
   clear i5 m5 s5 ag
   clear U Z L M N V a6 O Q Y D E X
   obtain⟨U,Z,L,M,N,V,a6,O,Q,Y,D,E,X⟩:=j.out.box
   unfold pv
   go_upto_region 9 with fail
   refine zQ (R:=fun W=>Bx gt S5 W (w.heap.size) _∧Bx gt S5 W (w.heap.size+1) _∧Mem C gt J H S5 q5 W∧SB w.heap.size S w S5 W) ⟨(j.out.put ..),(o.out.other (by omega) ..),(aq.out.put j.out ..),(am.out.put (by omega) ..)⟩ ?_
   clear U Z L M N V a6 O Q Y D E X
   clear j o am aq
   rintro w6 ⟨X0,X1,m6,t6⟩
   have j:=zc X0
   have o:=zc X1
   have aj:=zc m6
   have ap:=zc t6
   clear m6 t6 X0 X1
   obtain⟨U,Z,L,M,N,V,a6,O,Q,Y,D,E,X⟩:=j.out.box
   have az:=aj.out.inv.ex
   go_wp2_with fail
   refine (zcX C gt J H _ S5 q5 z5 d ⟨6,0,sNone,sNone,(K.ex.length:Int)-1,(q5.ex.length:Int)-1⟩ _ ax.out aj.out (fun h=>zmA ax.out h)).mono ?_
   rintro e w7 ⟨S7,q7,z7,rfl,i7,m7,s7⟩
   replace j:=zc (j.out.stp s7)
   replace o:=zc (o.out.stp s7)
   have ar:=zc (ap.out.step s7)
   clear ap
   have an:=zc m7
   have aH:=zc i7
   clear i7 m7 s7 aj
   clear U Z L M N V a6 O Q Y D E X
   have HI:Hid (Is (bd (bd (.ok (adv K)) (pE C .prod d)) fun q'=>zJ C ⟨6,0,sNone,sNone,(K.ex.length:Int)-1,(q'.ex.length:Int)-1⟩ q') q7 z7):=by rw[←zjh ax.out (fun q'=>⟨6,0,sNone,sNone,(K.ex.length:Int)-1,(q'.ex.length:Int)-1⟩)];exact aH.out
   have ae:Hid (z7<0→K.pos+1≤q7.pos):=fun h=>zmB HI.out h
   obtain⟨U,Z,L,M,N,V,a6,O,Q,Y,D,E,X⟩:=j.out.box
   unfold pv
   go_wp2
   go_roundg (gk-1)
   case rel=>exact⟨_,S7,q7,z7,HI.out,by rw[←av.out];exact (zmC (d:=d) (by rw[hs];rfl) (show zbw C K.pos=6 by rw[zbw,aA];rfl) hp).symm,fun h=>by have:=ae.out h;omega,fun h=>by have:=ae.out h;omega,(an.out.put j.out ..),(ar.out.put (by omega) ..),(j.out.put ..),(o.out.other (by omega) ..)⟩
   case measure=>omega
  |false=>
   obtain⟨U,Z,L,M,N,V,a6,O,Q,Y,D,E,X⟩:=j.out.box
   go_wp2_with fail
   refine (zj C gt J H S2 K z2 d 4 zbq _ ak.out.tok ac (by decide)).mono ?_
   rintro e w3 ⟨rfl,aa⟩
   rw[hc]
   replace j:=zc (j.out.below aa)
   replace o:=zc (o.out.below aa)
   have ah:=zc (au.out.below aa)
   have ab:=zc (ak.out.later aa)
   clear aa au ak
   clear U Z L M N V a6 O Q Y D E X
   cases ad:(decide (z2<0)&&isT C K.pos 4 zaI) with
   |true=>
    obtain⟨U,Z,L,M,N,V,a6,O,Q,Y,D,E,X⟩:=j.out.box
    go_wp2_with fail
    refine (zj C gt J H S2 K z2 d 4 zaI _ ab.out.tok ac (by decide)).mono ?_
    rintro e w4 ⟨rfl,I⟩
    rw[ad]
    replace j:=zc (j.out.below I)
    replace o:=zc (o.out.below I)
    have ai:=zc (ah.out.below I)
    have ag:=zc (ab.out.later I)
    clear I ah ab
    clear U Z L M N V a6 O Q Y D E X
    obtain⟨U,Z,L,M,N,V,a6,O,Q,Y,D,E,X⟩:=j.out.box
    go_wp2_with fail
    refine (zj C gt J H S2 K z2 d 4 zaI _ ag.out.tok ac (by decide)).mono ?_
    rintro e w5 ⟨rfl,ao⟩
    rw[ad]
    replace j:=zc (j.out.below ao)
    replace o:=zc (o.out.below ao)
    have am:=zc (ai.out.below ao)
    have aq:=zc (ag.out.later ao)
    clear ao ai ag
    clear U Z L M N V a6 O Q Y D E X
    rw[Bool.and_eq_true,decide_eq_true_eq] at ad
    obtain⟨hz,hs⟩:=ad
    have hp:K.pos<C.ts.length:=za1 hs (by decide)
    obtain⟨rfl,rfl⟩:=zaF aw.out hz
    have aE:=aC.out hz
    have aG:=aD.out hz
    skip
    obtain⟨U,Z,L,M,N,V,a6,O,Q,Y,D,E,X⟩:=j.out.box
    go_wp2_with fail
    refine (HP.out (.ok (adv K)) S2 (adv K) (-1) d _ (zab _) ((aq.out.adv hp).set j.out 1 _) (fun _=>by rw[zz];omega) al).mono ?_
    rintro e w6 ⟨S6,q6,z6,rfl,i6,m6,s6⟩
    replace j:=zc ((j.out.at1 _).stp s6)
    replace o:=zc ((o.out.set_other (by omega) 1 _).stp s6)
    have ap:Hid (SB w.heap.size S w S6 w6):=(am.out.set (by omega) 1 _).step s6
    clear am
    have aj:=zc m6
    have ay:=zc i6
    clear i6 m6 s6 aq
    clear U Z L M N V a6 O Q Y D E X
    obtain⟨U,Z,L,M,N,V,a6,O,Q,Y,D,E,X⟩:=j.out.box
    unfold pv
    go_upto_region 9 with fail
    refine zQ (R:=fun W=>Bx gt S6 W (w.heap.size) _∧Bx gt S6 W (w.heap.size+1) _∧Mem C gt J H S6 q6 W∧SB w.heap.size S w S6 W) ⟨(j.out.put ..),(o.out.other (by omega) ..),(aj.out.put j.out ..),(ap.out.put (by omega) ..)⟩ ?_
    clear U Z L M N V a6 O Q Y D E X
    clear j o ap aj
    rintro w7 ⟨X0,X1,m7,t7⟩
    have j:=zc X0
    have o:=zc X1
    have an:=zc m7
    have ar:=zc t7
    clear m7 t7 X0 X1
    obtain⟨U,Z,L,M,N,V,a6,O,Q,Y,D,E,X⟩:=j.out.box
    have az:=an.out.inv.ex
    go_wp2_with fail
    refine (zcX C gt J H _ S6 q6 z6 d ⟨7,0,sNone,sNone,(K.ex.length:Int)-1,(q6.ex.length:Int)-1⟩ _ ay.out an.out (fun h=>zmA ay.out h)).mono ?_
    rintro e w8 ⟨S8,q8,z8,rfl,i8,m8,s8⟩
    replace j:=zc (j.out.stp s8)
    replace o:=zc (o.out.stp s8)
    have aI:=zc (ar.out.step s8)
    clear ar
    have aJ:=zc m8
    have aF:=zc i8
    clear i8 m8 s8 an
    clear U Z L M N V a6 O Q Y D E X
    have HI:Hid (Is (bd (bd (.ok (adv K)) (pE C .prod d)) fun q'=>zJ C ⟨7,0,sNone,sNone,(K.ex.length:Int)-1,(q'.ex.length:Int)-1⟩ q') q8 z8):=by rw[←zjh ay.out (fun q'=>⟨7,0,sNone,sNone,(K.ex.length:Int)-1,(q'.ex.length:Int)-1⟩)];exact aF.out
    have ae:Hid (z8<0→K.pos+1≤q8.pos):=fun h=>zmB HI.out h
    obtain⟨U,Z,L,M,N,V,a6,O,Q,Y,D,E,X⟩:=j.out.box
    unfold pv
    go_wp2
    go_roundg (gk-1)
    case rel=>exact⟨_,S8,q8,z8,HI.out,by rw[←av.out];exact (zmC (d:=d) (by rw[hs,Bool.or_true]) (show zbw C K.pos=7 by rw[zbw,hs];rfl) hp).symm,fun h=>by have:=ae.out h;omega,fun h=>by have:=ae.out h;omega,(aJ.out.put j.out ..),(aI.out.put (by omega) ..),(j.out.put ..),(o.out.other (by omega) ..)⟩
    case measure=>omega
   |false=>
    obtain⟨U,Z,L,M,N,V,a6,O,Q,Y,D,E,X⟩:=j.out.box
    go_wp2_with fail
    refine (zj C gt J H S2 K z2 d 4 zaI _ ab.out.tok ac (by decide)).mono ?_
    rintro e w4 ⟨rfl,I⟩
    rw[ad]
    replace j:=zc (j.out.below I)
    replace o:=zc (o.out.below I)
    have ai:=zc (ah.out.below I)
    have ag:=zc (ab.out.later I)
    clear I ah ab
    clear U Z L M N V a6 O Q Y D E X
    obtain⟨U,Z,L,M,N,V,a6,O,Q,Y,D,E,X⟩:=j.out.box
    obtain⟨b0,b1,b2,b3,b4,b5,b6,b7,b8,b9,aN,aO,bf⟩:=o.out.box
    go_wp2
    refine bodyPost_ret (results_cell_row rfl _ _ (w.heap.size+1) 55 _ (0,0) _ rfl ((o.out.put ..)).heap Tryz.underlying55 rfl (by kernel_rfl)) rfl ?_
    exact zac rfl (show Is (bd x (pE C .sum d)) K z2 from by rw[←av.out];exact zuP aw.out hc ad) (ag.out.put o.out ..) (ai.out.put (by omega) ..)
theorem zuR (C:Cx) (H o j:Nat):zjg C H o j 0:=by
 intro x S q z d w L I M hd
 by_cases K:z<0
 ·have:=M K
  omega
 ·obtain⟨e,rfl,rfl⟩:=zd2 L K
  rw[zec]
  obtain⟨J,D,E⟩:=C
  cases E with
  |true=>exact zm6 J D H o j S q d w I e
  |false=>exact zm7 J D H o j S q d w I e
theorem zuS (C:Cx) (z o j:Nat) (m:Nat):SumOK C z o j m:=by
 induction m with
 |zero=>exact zmE (zmD (zuR C z o j))
 |succ m D=>exact zmE (zmD (zuI D))
theorem zdp (C:Cx) (D o j:Nat) (x:PR) (S:Sv) (q:PS) (z:Int) (w:World) (H:Is x q z) (E:Mem C D o j S q w):
  Calls Tryz.prog 53 #[pv C D o S q z 0] w (Out C D o j (bd x (pE C .sum 0)) 0 S w):=
 zuS C D o j (C.ts.length+1) x S q z 0 w H E (fun _=>by omega) (by omega)
end Go.Proofs.YthfeoomfiafldaaGreat
