/-
  A row of pairs of names beside a program under way. No program is spoken of but for the numbers of its types.
  What spec's l4Tail answers: the walk.
  What spec's l4List answers: the walk.
  What spec's l4Part answers,if l4Sum answers so behind it: the walks.
  What spec's l4Part answers where no number and no bracket stands,in a script: the walks.
  What spec's l4Part answers where no number and no bracket stands: the walks.
  What spec's l4Part,l4Product and l4Sum answer: the walks of the two loops,and the three together.
-/
import Derived.Deep.DeepCutAuto
import Derived.Test.YthfeoomfiafldaaGreatCdModOkImplToSpecBox
namespace Go.Proofs.YthfeoomfiafldaaGreat
set_option maxRecDepth 100000
set_option maxHeartbeats 6400000
open Go.RowKit Go.PlainAid
structure Row (S:Sv) (w:World) (base B:Nat) (r:Rw) (l:List Ep):Prop where
 own:OwnR w base 77 4 r l.length (l.flatMap epL)
 free: ∀k,r.blk=some k→¬S.has k
 new: ∀k,r.blk=some k→B≤k
 addr: ∃g,r.a=some ⟨g,0,none⟩
theorem Row.ne {z b:Nat} {S:Sv} {w:World} {j B:Nat} {r:Rw} {l:List Ep} {cs:Array Value} (h:Row S w j B r l) (D:Bx z S w b cs): ∀k,r.blk=some k→k≠b:=by
 rintro k o rfl
 obtain⟨_,_,c,g⟩:=h.own.typed o
 rw[D.heap] at g
 simp only[Option.some.injEq,Obj.cells.injEq] at g
 exact absurd g.2.1 (by decide)
theorem Row.stp {S z:Sv} {w D:World} {j B:Nat} {r:Rw} {l:List Ep} (h:Row S w j B r l) (s:Stp S w z D):Row z D j B r l:=
 ⟨h.own.keep fun k o=>s.block k (h.own.typed o).2.1 (h.free k o),fun k o g=>(s.sub k g).elim (h.free k o) fun E=>by have:=(h.own.typed o).2.1;omega,h.new,h.addr⟩
theorem Row.below {S:Sv} {w o:World} {j B:Nat} {r:Rw} {l:List Ep} (h:Row S w j B r l) (s:Below w.heap.size w o):Row S o j B r l:=h.stp (Stp.below s)
theorem Row.alloc {S:Sv} {w:World} {j B:Nat} {r:Rw} {l:List Ep} (h:Row S w j B r l) (o:Obj):Row S (w.alloc o) j B r l:=h.below ((Below.refl _ _).alloc (Nat.le_refl _) _)
theorem Row.drew {S:Sv} {w:World} {j B:Nat} {r:Rw} {l:List Ep} (h:Row S w j B r l):Row S w.drew j B r l:=⟨h.own,h.free,h.new,h.addr⟩
theorem Row.set {z b:Nat} {S:Sv} {w:World} {j B:Nat} {r:Rw} {l:List Ep} {cs:Array Value} (h:Row S w j B r l) (D:Bx z S w b cs) (i:Nat) (u:Value):Row S (w.setCell ⟨b,i,none⟩ u) j B r l:=
 ⟨h.own.keep fun k o=>zx (h.ne D k o),h.free,h.new,h.addr⟩
theorem Row.put {M b:Nat} {S:Sv} {w:World} {j B:Nat} {r:Rw} {l:List Ep} {cs:Array Value} (h:Row S w j B r l) (K:Bx M S w b cs) (Q I H U E N D V L O o z:Value):Row S (set12 w b Q I H U E N D V L O o z) j B r l:=
 ⟨h.own.keep fun k J=>zgi (h.ne K k J) _ _ _ _ _ _ _ _ _ _ _ _,h.free,h.new,h.addr⟩
theorem Row.nil {C:Cx} {D z j B:Nat} {S:Sv} {q:PS} {w:World} (h:Mem C D z j S q w) (E:B≤w.heap.size):Row S (w.alloc (.cells #[] 77 (0,0))) j B ⟨some ⟨w.heap.size,0,none⟩,0⟩ []:=by
 refine⟨World.ownsRow_lit w #[] 0 h.base (by unfold maxLen;omega) rfl,fun k o g=>?_,fun k o=>?_,⟨_,rfl⟩⟩
 ·simp only[Rw.blk,Value.ownBlock,Option.some.injEq] at o
  have:=(h.own.has g).2
  omega
 ·simp only[Rw.blk,Value.ownBlock,Option.some.injEq] at o
  omega
theorem Row.grow {C:Cx} {M I j B:Nat} {S:Sv} {q:PS} {W E:World} {r J:Rw} {l:List Ep} {x:Ep} (h:Row S W j B r l) (D:Mem C M I j S q W) (U:B≤W.heap.size) (O:W.grownBy E r.blk) (N:OwnR E j 77 4 J (l.length+1) (l.flatMap epL++epL x)) (H:J.blk=r.blk∨J.blk=some W.heap.size):
  Row S E j B J (l++[x])∧Mem C M I j S q E:=by
 refine⟨⟨?_,fun k z g=>?_,fun k z=>?_,N.addr.resolve_left (by omega)⟩,?_⟩
 ·have e:(l++[x]).length=l.length+1:=by simp
  rw[e]
  simpa using N
 ·rcases H with e|e
  ·exact h.free k (by rw[←e];exact z) g
  ·have Q:W.heap.size=k:=Option.some.inj (e.symm.trans z)
   have:=(D.own.has g).2
   omega
 ·rcases H with e|e
  ·exact h.new k (by rw[←e];exact z)
  ·have Q:W.heap.size=k:=Option.some.inj (e.symm.trans z)
   omega
 ·have o: ∀k,k<W.heap.size→r.blk≠some k→E.heap[k]? =W.heap[k]?:=fun k z L=>O.block k z fun e=>L e.symm
  refine⟨D.own.keep fun k z=>o k (D.own.has z).2 fun e=>h.free k e z,D.inv,zbJ D.tok (o M (zan D.tok).1 fun e=>?_),D.few,Nat.le_trans D.base O.size⟩
  obtain⟨_,_,c,g⟩:=h.own.typed e
  obtain⟨V,K⟩:=zgy D.tok
  rw[g] at K
  simp only[Option.some.injEq,Obj.cells.injEq] at K
  exact absurd K.2.1 (by decide)
theorem Row.bx {D b:Nat} {S:Sv} {W z:World} {o B:Nat} {r:Rw} {l:List Ep} {cs:Array Value} (h:Row S W o B r l) (j:Bx D S W b cs) (E:W.grownBy z r.blk):Bx D S z b cs:=
 ⟨(E.block b j.lt fun e=>h.ne j b e.symm rfl).trans j.heap,j.free,j.ne⟩
theorem Row.sb {S S0:Sv} {w W D:World} {z:Nat} {B:Nat} {r:Rw} {l:List Ep} (h:Row S W z B r l) (j:SB B S0 w S W) (o:W.grownBy D r.blk):SB B S0 w S D:=
 ⟨o.os.trans j.os,o.tape.trans j.tape,o.output.trans j.output,Nat.le_trans j.size o.size,j.low,fun k H E=>(o.block k (by have:=j.size;have:=j.low;omega) fun e=>by have:=h.new k e.symm;omega).trans (j.block k H E),j.sub⟩
theorem Mem.list3 {C:Cx} {H E j:Nat} {S o:Sv} {q:PS} {w z:World} {D cb:Array Value} (h:Mem C H E j S q w) (s:Stp S (((w.alloc (.cells D 55 (0,0))).alloc (.cells cb 55 (0,0))).alloc (.cells #[] 77 (0,0))) o z):
  Bx H o z w.heap.size D∧Bx H o z (w.heap.size+1) cb∧Row o z j w.heap.size ⟨some ⟨w.heap.size+1+1,0,none⟩,0⟩ []∧SB w.heap.size S w o z:=by
 refine⟨(((Bx.new h _).alloc _).alloc _).stp s,?_,?_,(SB.start (zcW w _ _ _)).step s⟩
 ·have:=((Bx.new (h.alloc (.cells D 55 (0,0))) cb).alloc (.cells #[] 77 (0,0))).stp s
  rw[zW] at this
  exact this
 ·have:=(Row.nil (B:=w.heap.size) ((h.alloc (.cells D 55 (0,0))).alloc (.cells cb 55 (0,0))) (zcD w _ _).size).stp s
  rw[zcG] at this
  exact this
def Is3 (y:PRL) (q:PS) (z:Int) (l:List Ep):Prop:=
 match y with
 | .ok a=>q=a.1∧z= -1∧l=a.2
 | .error e=>z=(e:Int)
def zuz (C:Cx) (gt cap base:Nat) (y:PRL) (d:Nat) (S:Sv) (w:World) (e:Ending) (w':World):Prop:=
 ∃S' q' z' r l,e= .returned (.tuple #[pv C gt cap S' q' z' d,.slice r.a l.length r.cap,.bool (za2 l)])∧Is3 y q' z' l∧Mem C gt cap base S' q' w'∧Stp S w S' w'∧Row S' w' base w.heap.size r l∧l.length≤4001
theorem zmz (l:List Ep) (x:Ep):za2 (l++[x])=(za2 l||(x.loc.toList==[100,101,102,97,117,108,116])):=by simp[za2]
theorem zu0 {o:Func} {p u v:Tmp} {z:TypeId} (h:o.results= #[.cell p z,.tmp u,.tmp v]) (tmps:Array Value) (P:Program) (w:World):
  (results o tmps).run P w=((asAddr (tmps.getD p undef)).run P w).andThen fun a D=>((loadVar z a).run P D).andThen fun x j=>.ok (.tuple #[x,tmps.getD u undef,tmps.getD v undef]) j:=by
 simp only[results,h]
 simp[Sem.run_bind,Result.andThen]
theorem zm0 {P:Program} {o:Func} {p u v:Tmp} {j:TypeId} (h:o.results= #[.cell p j,.tmp u,.tmp v]) (tmps:Array Value) (w:World) (g:Nat) (t:TypeId) (cs:Array Value) (z:Nat×Nat) (d:TypeDesc)
  (E:tmps.getD p undef= .pointer (some ⟨g,0,none⟩)) (D:w.heap[g]? =some (.cells cs t z))
  (H:P.underlying j=some d) (hd:(match d with| .struct _| .array _ _=>true|_=>false)=true) (I:(P.info? j).map (·.size)=some cs.size):
  (results o tmps).run P w= .ok (.tuple #[.agg cs,tmps.getD u undef,tmps.getD v undef]) w:=by
 rw[zu0 h,E]
 simp[asAddr,Result.andThen,run_loadVar_row w g t j cs z d D H hd I]
theorem zb5 {C:Cx} {x:PR} {k:Int} {s:ByteArray} {q:PS} {z:Int} (h:Is (bd x (zd C k s)) q z):z<0→1≤q.pos:=by
 intro o
 obtain⟨e,_⟩:=zaF h o
 obtain⟨a,_,j⟩:=ze e
 obtain⟨rfl,_⟩:=zbh j
 simp[adv]
theorem zjf (C:Cx) (O D z:Nat) (S:Sv) (q:PS) (d:Nat) (nm:ByteArray) (w:World) (hm:Mem C O D z S q w) (hp:1≤q.pos):
  Calls Tryz.prog 144 #[pv C O D S q (-1) d,.string nm] w (Out C O D z (zau C nm q) d S w):=by
 have HM:=zc hm
 have E:=hm.tok
 have U:=hm.few
 clear hm
 cases hi:isT C q.pos 4 cOpen with
 |true=>
  have HV:Hid (zau C nm q=bd (bd (bd (.ok q) (zd C 4 cOpen)) (zd C 4 zU)) (zJ C ⟨3,0,nm,sNone,0,0⟩)):=if_pos hi
  unfold pv
  go_enter Tryz.func144,Tryz.ntmps144
  go_wp2_with fail
  refine (zj C O D z S q (-1) d 4 cOpen _ (zv (zv E _) _) U (by decide)).mono ?_
  rintro e w1 ⟨rfl,J⟩
  rw[hi]
  obtain⟨X,X1,Z,Y⟩:=HM.out.two J
  have o:=zc X
  have j:=zc X1
  have H:=zc Z
  have I:=zc Y
  clear X X1 Z Y J
  clear E
  obtain⟨a0,a1,a2,a3,a4,a5,a6,a7,a8,a9,K,L,af⟩:=o.out.box
  go_wp2_with fail
  refine (zah C O D z (.ok q) S q (-1) d cOpen _ (zab q) H.out).mono ?_
  rintro e w2 ⟨S2,q2,z2,rfl,i2,m2,N⟩
  replace o:=zc (o.out.stp N)
  replace j:=zc (j.out.stp N)
  have M:=zc (I.out.step N)
  clear I
  have Q:=zc m2
  have V:=zc i2
  clear i2 m2 N H
  clear a0 a1 a2 a3 a4 a5 a6 a7 a8 a9 K L af
  go_wp2_with fail
  refine (zah C O D z _ S2 q2 z2 d zU _ V.out Q.out).mono ?_
  rintro e w3 ⟨S3,q3,z3,rfl,i3,m3,s3⟩
  replace o:=zc (o.out.stp s3)
  replace j:=zc (j.out.stp s3)
  have ac:=zc (M.out.step s3)
  clear M
  have aa:=zc m3
  have ab:=zc i3
  clear i3 m3 s3 Q
  obtain⟨a0,a1,a2,a3,a4,a5,a6,a7,a8,a9,K,L,af⟩:=o.out.box
  unfold pv
  go_wp2_with fail
  refine (zcX C O D z _ S3 q3 z3 d ⟨3,0,nm,sNone,0,0⟩ _ ab.out (aa.out.put o.out ..) (zb5 ab.out)).mono ?_
  rintro e w4 ⟨S4,q4,z4,rfl,i4,m4,s4⟩
  replace o:=zc ((o.out.put ..).stp s4)
  replace j:=zc ((j.out.other (by omega) ..).stp s4)
  have ai:Hid (SB w.heap.size S w S4 w4):=(ac.out.put (by omega) ..).step s4
  clear ac
  have ah:=zc m4
  have ae:=zc i4
  clear i4 m4 s4 aa
  clear a0 a1 a2 a3 a4 a5 a6 a7 a8 a9 K L af
  obtain⟨b0,b1,b2,b3,b4,b5,b6,b7,b8,b9,ag,ad,bf⟩:=j.out.box
  unfold pv
  go_wp2
  refine bodyPost_ret (results_cell_row rfl _ _ (w.heap.size+1) 55 _ (0,0) _ rfl ((j.out.put ..)).heap Tryz.underlying55 rfl (by kernel_rfl)) rfl ?_
  rw[HV.out]
  exact zac rfl ae.out (ah.out.put j.out ..) (ai.out.put (by omega) ..)
 |false=>
  have HV:Hid (zau C nm q=bd (.ok q) (zJ C ⟨2,0,nm,sNone,0,0⟩)):=by show zau C nm q=_;rw[zau,hi];rfl
  unfold pv
  go_enter Tryz.func144,Tryz.ntmps144
  go_wp2_with fail
  refine (zj C O D z S q (-1) d 4 cOpen _ (zv (zv E _) _) U (by decide)).mono ?_
  rintro e w1 ⟨rfl,J⟩
  rw[hi]
  obtain⟨X,X1,Z,Y⟩:=HM.out.two J
  have o:=zc X
  have j:=zc X1
  have H:=zc Z
  have I:=zc Y
  clear X X1 Z Y J
  clear E
  obtain⟨a0,a1,a2,a3,a4,a5,a6,a7,a8,a9,K,L,af⟩:=o.out.box
  go_wp2_with fail
  refine (zcX C O D z (.ok q) S q (-1) d ⟨2,0,nm,sNone,0,0⟩ _ (zab q) H.out (fun _=>hp)).mono ?_
  rintro e w2 ⟨S2,q2,z2,rfl,i2,m2,N⟩
  replace o:=zc (o.out.stp N)
  replace j:=zc (j.out.stp N)
  have M:=zc (I.out.step N)
  clear I
  have Q:=zc m2
  have V:=zc i2
  clear i2 m2 N H
  clear a0 a1 a2 a3 a4 a5 a6 a7 a8 a9 K L af
  obtain⟨b0,b1,b2,b3,b4,b5,b6,b7,b8,b9,ag,ad,bf⟩:=j.out.box
  unfold pv
  go_wp2
  refine bodyPost_ret (results_cell_row rfl _ _ (w.heap.size+1) 55 _ (0,0) _ rfl ((j.out.put ..)).heap Tryz.underlying55 rfl (by kernel_rfl)) rfl ?_
  rw[HV.out]
  exact zac rfl V.out (Q.out.put j.out ..) (M.out.put (by omega) ..)
theorem zu1 {C:Cx} {o:Bool} {l:List Ep} {Y:PRN} {E H:ByteArray} {U J D:PS} {O N M:Int} (Q:Is2 Y U O E) (z:Is2 (bd Y (asP C o)) J N H) (L:(decide (N<0)&&isT C J.pos 4 zbv)=false) (j:Is (bd (za7 (bd Y (asP C o))) (zd C 4 zaJ)) D M):
  Is3 (bd Y fun a=>bd (asP C o a) fun b=>if isT C b.1.pos 4 zbv then zay C o (adv b.1) (l++[⟨0,b.2,a.2,sNone⟩]) else bd (zd C 4 zaJ b.1) fun q'=>.ok (q',l++[⟨0,b.2,a.2,sNone⟩])) D M (l++[⟨0,H,E,sNone⟩]):=by
 cases Y with
 |error e=>exact j
 |ok a=>
  obtain⟨_,_,rfl⟩:=Q
  rw[zh] at z j ⊢
  cases I:asP C o a with
  |error e=>rw[I] at j;exact j
  |ok b=>
   rw[I] at z j
   obtain⟨rfl,rfl,rfl⟩:=z
   rw[Bool.and_eq_false_iff] at L
   rw[zh,L.resolve_left (by decide)]
   have e:bd (za7 (.ok b)) (zd C 4 zaJ)=zd C 4 zaJ b.1:=rfl
   rw[e] at j
   show Is3 (bd (zd C 4 zaJ b.1) _) _ _ _
   cases K:zd C 4 zaJ b.1 with
   |error e=>rw[K] at j;exact j
   |ok c=>rw[K] at j;exact⟨j.1,j.2,rfl⟩
theorem zu2 {C:Cx} {o:Bool} {l:List Ep} {z N D:PS} {K L:ByteArray} {M E:Int} (I:Is2 (bd (.ok z) (zk C true)) N M K) (j:Is2 (bd (bd (.ok z) (zk C true)) (asP C o)) D E L) (Q:E<0) (O:isT C D.pos 4 zbv=true):
  (bd (.ok z) fun q=>zay C o q l)=(bd (.ok (adv D)) fun q=>zay C o q (l++[⟨0,L,K,sNone⟩]))∧z.pos+1≤D.pos:=by
 rw[zh] at I j ⊢
 rw[zh,zeM]
 cases J:zk C true z with
 |error e=>rw[J] at j;have:E=(e:Int):=j;omega
 |ok a=>
  rw[J] at I j
  obtain⟨_,_,rfl⟩:=I
  rw[zh] at j ⊢
  obtain⟨rfl,_⟩:=zaX J
  cases H:asP C o (adv z,(zf C z.pos).text) with
  |error e=>rw[H] at j;have:E=(e:Int):=j;omega
  |ok b=>
   rw[H] at j
   obtain⟨rfl,rfl,rfl⟩:=j
   have:=zf6 H
   rw[zh,O]
   exact⟨rfl,this⟩
theorem zu3 {C:Cx} {j:Bool} {x:PR} {q o:PS} {z D:Int} {l:List Ep} (I:Is x q z) (H: ¬z<0) (E:Is (bd x (zd C 4 zaJ)) o D):Is3 (bd x fun q=>zay C j q l) o D l:=by
 obtain⟨e,rfl,_⟩:=zd2 I H
 exact E
theorem zu4 {C:Cx} {j:Bool} {Y:PRN} {z E:PS} {o J:Int} {K H:ByteArray} (D:Is2 Y z o K) (I:(decide (o<0)&&isT C z.pos 1 sAs)=true) (L:Is2 (bd (.ok (adv z)) (zk C j)) E J H):Is2 (bd Y (asP C j)) E J H:=by
 rw[Bool.and_eq_true,decide_eq_true_eq] at I
 cases Y with
 |error e=>have:o=(e:Int):=D;omega
 |ok a=>
  obtain⟨rfl,_,_⟩:=D
  rw[zh,asP,if_pos I.2]
  exact L
theorem zu5 {C:Cx} {z:Bool} {Y:PRN} {o:PS} {j:Int} {D:ByteArray} (E:Is2 Y o j D) (H:(decide (j<0)&&isT C o.pos 1 sAs)=false) (hd:((D.toList==[100,101,102,97,117,108,116])&& !z)=true):Is2 (bd Y (asP C z)) o (zbC C o.pos j) D:=by
 cases Y with
 |error e=>
  have h:j=(e:Int):=E
  show zbC C o.pos j=(e:Int)
  rw[zbC,if_neg (by omega)]
  exact h
 |ok a=>
  obtain⟨rfl,rfl,rfl⟩:=E
  rw[Bool.and_eq_false_iff] at H
  rw[zh,asP,H.resolve_left (by decide),hd]
  rfl
theorem zm1 {C:Cx} {j:Bool} {Y:PRN} {D:PS} {z:Int} {o:ByteArray} (E:Is2 Y D z o) (H:(decide (z<0)&&isT C D.pos 1 sAs)=false) (hd:((o.toList==[100,101,102,97,117,108,116])&& !j)=false):Is2 (bd Y (asP C j)) D z o:=by
 cases Y with
 |error e=>exact E
 |ok a=>
  obtain⟨rfl,rfl,rfl⟩:=E
  rw[Bool.and_eq_false_iff] at H
  rw[zh,asP,H.resolve_left (by decide),hd]
  exact⟨rfl,rfl,rfl⟩
theorem zm2 (C:Cx) (M L D:Nat) (S:Sv) (q:PS) (d:Nat) (ai:Bool) (w:World) (hm:Mem C M L D S q w):
  Calls Tryz.prog 96 #[pv C M L S q (-1) d,.bool ai] w (zuz C M L D (zbB C ai q) d S w):=by
 obtain⟨i0,hi,aZ,aQ,aS⟩:=info_parts Tryz.infoExp
 have HM:=zc hm
 have aj:=hm.few
 clear hm
 unfold pv
 go_enter Tryz.func96,Tryz.ntmps96
 go_wp2_with fail
 refine (zah C M L D (.ok q) S q (-1) d zF _ (zab q) (((HM.out.alloc _).alloc _).alloc _)).mono ?_
 rintro e w1 ⟨S1,q1,z1,rfl,i1,m1,s1⟩
 obtain⟨X0,X1,R0,t1⟩:=HM.out.list3 s1
 have j:=zc X0
 have z:=zc X1
 have E:=zc R0
 have aL:=zc t1
 have aI:=zc m1
 have aK:=zc i1
 clear i1 m1 s1 X0 X1 R0 t1
 obtain⟨a0,a1,Y,X,a4,a5,a6,a7,Z,a9,H,I,af⟩:=j.out.box
 unfold pv
 go_wp2
 go_loopg [7,8] (C.ts.length+1) (fun k o an wr=>∃(x':PR) (S':Sv) (q':PS) (z':Int) (r:Rw) (l:List Ep),Is x' q' z'∧bd x' (fun q=>zay C ai q l)=zbB C ai q∧(z'<0→C.ts.length-q'.pos<k)∧(l.length≤q'.pos∨l=[])∧o= .slice r.a l.length r.cap∧an= .bool (za2 l)∧Mem C M L D S' q' wr∧SB w.heap.size S w S' wr∧Bx M S' wr w.heap.size #[.slice (some ⟨M,0,none⟩) C.ts.length L,.int .i64 q'.pos,.int .i64 C.fin,.bool C.scr,.slice S'.rq.a q'.rq.length S'.rq.cap,.slice S'.im.a q'.im.length S'.im.cap,.slice S'.ep.a q'.ep.length S'.ep.cap,.slice S'.st.a q'.st.length S'.st.cap,.slice S'.ex.a q'.ex.length S'.ex.cap,.slice S'.la.a q'.la.length S'.la.cap,.int .i64 z',.int .i64 d]∧Bx M S' wr (w.heap.size+1) #[.slice none 0 0,.int .i64 0,.int .i64 0,.bool false,.slice none 0 0,.slice none 0 0,.slice none 0 0,.slice none 0 0,.slice none 0 0,.slice none 0 0,.int .i64 0,.int .i64 0]∧Row S' wr D w.heap.size r l)
 case atStart=>exact⟨_,S1,q1,z1,_,[],aK.out,rfl,fun _=>by omega,.inr rfl,rfl,rfl,(aI.out.put j.out ..),(aL.out.put (by omega) ..),(j.out.put ..),(z.out.other (by omega) ..),(E.out.put j.out ..)⟩
 case round=>
  obtain⟨x2,S2,q2,z2,r,l,i2,e2,l2,n2,rfl,rfl,m2,t2,X0,X1,R0⟩:=hrel
  have j:=zc X0
  have z:=zc X1
  have ao:=zc m2
  have am:=zc t2
  have av:=zc i2
  have ax:=zc e2
  have aN:=zc l2
  have E:=zc R0
  have bg:l.length≤4000:=n2.elim (fun g=>by have:=m2.inv.pos;omega) (fun g=>by rw[g];simp)
  have aX:=zc n2
  clear X0 X1 i2 m2 t2 e2 l2 R0 n2
  by_cases hz:z2<0
  ·skip
   obtain⟨rfl,rfl⟩:=zaF av.out hz
   have bi:=aN.out hz
   obtain⟨a0,a1,Y,X,a4,a5,a6,a7,Z,a9,H,I,af⟩:=j.out.box
   go_wp2_with fail
   refine (zbz C M L D (.ok q2) S2 q2 (-1) d true _ (zab q2) ao.out).mono ?_
   rintro e w3 ⟨V,q3,z3,n3,rfl,i3,m3,s3⟩
   replace j:=zc (j.out.stp s3)
   replace z:=zc (z.out.stp s3)
   have aq:=zc (am.out.step s3)
   have K:Hid (Row V w3 D w.heap.size r l):=E.out.stp s3
   clear E
   have E:=zc K
   clear K
   clear am
   have al:=zc m3
   have ac:=zc i3
   clear i3 m3 s3 ao
   clear a0 a1 Y X a4 a5 a6 a7 Z a9 H I af
   have ba:w.heap.size+1<w3.heap.size:=z.out.lt
   unfold pv
   go_upto_region 6 with fail
   refine zQ (R:=fun W=>Bx M V W (w.heap.size) _∧Bx M V W (w.heap.size+1) _∧Bx M V W (w3.heap.size) _∧Row V W D w.heap.size r l∧Mem C M L D V q3 W∧SB w.heap.size S w V W) ⟨(j.out.alloc _),(z.out.alloc _),(Bx.new al.out _),(E.out.alloc _),(al.out.alloc _),(aq.out.alloc _)⟩ ?_
   clear j z aq al
   clear E
   rintro w4 ⟨X0,X1,X2,R0,m4,t4⟩
   have E:=zc R0
   clear R0
   have j:=zc X0
   have z:=zc X1
   have N:=zc X2
   have aB:=zc m4
   have aD:=zc t4
   clear m4 t4 X0 X1 X2
   obtain⟨a0,a1,Y,X,a4,a5,a6,a7,Z,a9,H,I,af⟩:=j.out.box
   obtain⟨c0,c1,c2,c3,c4,c5,c6,c7,c8,c9,aW,aR,cf⟩:=N.out.box
   go_upto_region 7 with fail
   refine zQ (R:=fun W=>Bx M V W (w.heap.size) _∧Bx M V W (w.heap.size+1) _∧Bx M V W (w3.heap.size) _∧Row V W D w.heap.size r l∧Mem C M L D V q3 W∧SB w.heap.size S w V W) ⟨(j.out.put ..),(z.out.other (by omega) ..),(N.out.other (by omega) ..),(E.out.put j.out ..),(aB.out.put j.out ..),(aD.out.put (by omega) ..)⟩ ?_
   clear a0 a1 Y X a4 a5 a6 a7 Z a9 H I af c0 c1 c2 c3 c4 c5 c6 c7 c8 c9 aW aR cf
   clear j z N aD aB
   clear E
   rintro w5 ⟨X0,X1,X2,R0,m5,t5⟩
   have E:=zc R0
   clear R0
   have j:=zc X0
   have z:=zc X1
   have N:=zc X2
   have ag:=zc m5
   have ak:=zc t5
   clear m5 t5 X0 X1 X2
   skip
   obtain⟨a0,a1,Y,X,a4,a5,a6,a7,Z,a9,H,I,af⟩:=j.out.box
   skip
   go_wp2_with fail
   refine (zj C M L D V q3 z3 d 1 sAs _ ag.out.tok aj (by decide)).mono ?_
   rintro e w6 ⟨rfl,ah⟩
   replace j:=zc (j.out.below ah)
   replace z:=zc (z.out.below ah)
   replace N:=zc (N.out.below ah)
   have U:=zc (ak.out.below ah)
   have O:=zc (ag.out.later ah)
   have K:Hid (Row V w6 D w.heap.size r l):=E.out.below ah
   clear E
   have E:=zc K
   clear K
   clear ah ak ag
   clear a0 a1 Y X a4 a5 a6 a7 Z a9 H I af
   go_upto_if 28 with fail
   go_cut [11] (fun aY wx=>∃(Q:Sv) (q5:PS) (z5:Int) (n5:ByteArray),aY= .string n5∧Is2 (bd (bd (.ok q2) (zk C true)) (asP C ai)) q5 z5 n5∧Mem C M L D Q q5 wx∧SB w.heap.size S w Q wx∧Bx M Q wx w.heap.size #[.slice (some ⟨M,0,none⟩) C.ts.length L,.int .i64 q5.pos,.int .i64 C.fin,.bool C.scr,.slice Q.rq.a q5.rq.length Q.rq.cap,.slice Q.im.a q5.im.length Q.im.cap,.slice Q.ep.a q5.ep.length Q.ep.cap,.slice Q.st.a q5.st.length Q.st.cap,.slice Q.ex.a q5.ex.length Q.ex.cap,.slice Q.la.a q5.la.length Q.la.cap,.int .i64 z5,.int .i64 d]∧Bx M Q wx (w.heap.size+1) #[.slice none 0 0,.int .i64 0,.int .i64 0,.bool false,.slice none 0 0,.slice none 0 0,.slice none 0 0,.slice none 0 0,.slice none 0 0,.slice none 0 0,.int .i64 0,.int .i64 0]∧Row Q wx D w.heap.size r l)
   case first=>
    cases hb:(decide (z3<0)&&isT C q3.pos 1 sAs) with
    |true=>
     have aV:q3.pos<C.ts.length:=by rw[Bool.and_eq_true] at hb;exact za1 hb.2 (by decide)
     obtain⟨a0,a1,Y,X,a4,a5,a6,a7,Z,a9,H,I,af⟩:=j.out.box
     have aJ:z3= -1:=by rw[Bool.and_eq_true,decide_eq_true_eq] at hb;exact (zaF ac.out.fst hb.1).2
     subst aJ
     go_wp2_with fail
     refine (zbz C M L D (.ok (adv q3)) V (adv q3) (-1) d ai _ (zab _) ((O.out.adv aV).set j.out 1 _)).mono ?_
     rintro e w7 ⟨S7,q7,z7,n7,rfl,i7,m7,s7⟩
     have ae:Hid (Bx M S7 w7 _ _):=(j.out.at1 _).stp s7
     have ad:Hid (Bx M S7 w7 _ _):=(z.out.set_other (by omega) 1 _).stp s7
     have ar:Hid (Bx M S7 w7 _ _):=(N.out.set_other (by omega) 1 _).stp s7
     have ab:Hid (SB w.heap.size S w S7 w7):=(U.out.set (by omega) 1 _).step s7
     replace E:=zc ((E.out.set j.out 1 _).stp s7)
     clear j z N U
     have j:=zc ae
     have z:=zc ad
     have N:=zc ar
     clear ae ad ar
     have aa:=zc m7
     have aO:=zc i7
     clear i7 m7 s7 O
     clear a0 a1 Y X a4 a5 a6 a7 Z a9 H I af
     have bb:w.heap.size+1<w7.heap.size:=z.out.lt
     have aE:w3.heap.size<w7.heap.size:=N.out.lt
     unfold pv
     go_upto_region 11 with fail
     refine zQ (R:=fun W=>Bx M S7 W (w.heap.size) _∧Bx M S7 W (w.heap.size+1) _∧Bx M S7 W (w3.heap.size) _∧Bx M S7 W (w7.heap.size) _∧Row S7 W D w.heap.size r l∧Mem C M L D S7 q7 W∧SB w.heap.size S w S7 W) ⟨(j.out.alloc _),(z.out.alloc _),(N.out.alloc _),(Bx.new aa.out _),(E.out.alloc _),(aa.out.alloc _),(ab.out.alloc _)⟩ ?_
     clear j z N ab aa
     clear E
     rintro w8 ⟨X0,X1,X2,X3,R0,m8,t8⟩
     have E:=zc R0
     clear R0
     have j:=zc X0
     have z:=zc X1
     have N:=zc X2
     have aG:=zc X3
     have aw:=zc m8
     have ay:=zc t8
     clear m8 t8 X0 X1 X2 X3
     obtain⟨a0,a1,Y,X,a4,a5,a6,a7,Z,a9,H,I,af⟩:=j.out.box
     obtain⟨d0,d1,d2,d3,d4,d5,d6,d7,d8,d9,be,bc,df⟩:=aG.out.box
     go_wp2
     go_meet
     case rel=>exact⟨S7,q7,z7,n7,rfl,zu4 ac.out hb aO.out,(aw.out.put j.out ..),(ay.out.put (by omega) ..),(j.out.put ..),(z.out.other (by omega) ..),(E.out.put j.out ..)⟩
    |false=>
     cases e3:(n3.toList==[100,101,102,97,117,108,116]) with
     |true=>
      cases ai with
      |false=>
       obtain⟨a0,a1,Y,X,a4,a5,a6,a7,Z,a9,H,I,af⟩:=j.out.box
       go_wp2_with fail
       refine (zd0 C M L D V q3 z3 d _ O.out.tok aj).mono ?_
       rintro e w7 ⟨rfl,J⟩
       replace j:=zc (j.out.below J)
       replace z:=zc (z.out.below J)
       replace N:=zc (N.out.below J)
       have ab:=zc (U.out.below J)
       have aa:=zc (O.out.later J)
       have K:Hid (Row V w7 D w.heap.size r l):=E.out.below J
       clear E
       have E:=zc K
       clear K
       clear J U O
       clear a0 a1 Y X a4 a5 a6 a7 Z a9 H I af
       obtain⟨a0,a1,Y,X,a4,a5,a6,a7,Z,a9,H,I,af⟩:=j.out.box
       unfold pv
       go_wp2
       go_meet
       case rel=>exact⟨V,q3,(zbC C q3.pos z3),n3,rfl,zu5 ac.out hb (by rw[e3];rfl),(aa.out.put j.out ..),(ab.out.put (by omega) ..),(j.out.put ..),(z.out.other (by omega) ..),(E.out.put j.out ..)⟩
      |true=>
       obtain⟨a0,a1,Y,X,a4,a5,a6,a7,Z,a9,H,I,af⟩:=j.out.box
       go_wp2
       go_meet
       case rel=>exact⟨V,q3,z3,n3,rfl,zm1 ac.out hb (by rw[e3];rfl),O.out,U.out,j.out,z.out,E.out⟩
     |false=>
      obtain⟨a0,a1,Y,X,a4,a5,a6,a7,Z,a9,H,I,af⟩:=j.out.box
      go_wp2
      go_meet
      case rel=>exact⟨V,q3,z3,n3,rfl,zm1 ac.out hb (by rw[e3];rfl),O.out,U.out,j.out,z.out,E.out⟩
   case rest=>
    obtain⟨Q,q5,z5,n5,rfl,i5,m5,t5,X0,X1,R0⟩:=hcut
    clear j z N E O U
    have j:=zc X0
    have z:=zc X1
    have ag:=zc m5
    have ak:=zc t5
    have ap:=zc i5
    have E:=zc R0
    clear X0 X1 i5 m5 t5 R0
    go_upto_region 15 with fail
    go_cut [8] (fun s8 wx=>s8= .bool (za2 l||(n3.toList==[100,101,102,97,117,108,116]))∧wx=wc)
    case first=>
     cases ha:za2 l with
     |true=>
      go_wp2
      go_meet
      case rel=>exact⟨by rw[ha];rfl,rfl⟩
     |false=>
      cases e3:(n3.toList==[100,101,102,97,117,108,116]) with
      |true=>
       go_wp2
       go_meet
       case rel=>exact⟨by rw[ha,e3];rfl,rfl⟩
      |false=>
       go_wp2
       go_meet
       case rel=>exact⟨by rw[ha,e3];rfl,rfl⟩
    case rest=>
     obtain⟨rfl,rfl⟩:=hcut
     have au:=fun o=>E.out.own.alloc o
     have aH:=ag.out.base
     go_wp2_with (at_builtin;refine zcC _ rfl _ _ 28 rfl D 77 i0 _ 4 56 Tryz.underlying28 hi aZ aQ aS rfl (by decide) (by decide) r l.length _ (by rfl) (au _) wc.heap.size (epL ⟨0,n5,n3,sNone⟩) (by rfl) (by exact heap_alloc_new wc _) rfl (by intro u hu;simp[epL] at hu;rcases hu with rfl|rfl|rfl|rfl<;>rfl) (by omega) (by rw[zW];omega) ?_)
     intro r' w6 hr hg aA
     obtain⟨R6,m6⟩:=(E.out.alloc _).grow (x:=⟨0,n5,n3,sNone⟩) (ag.out.alloc _) (by rw[zW];have:=ak.out.size;omega) hg hr (by rw[zW];exact aA)
     have ae:Hid (Bx M Q w6 _ _):=(E.out.alloc _).bx (j.out.alloc _) hg
     have ad:Hid (Bx M Q w6 _ _):=(E.out.alloc _).bx (z.out.alloc _) hg
     have U:Hid (SB w.heap.size S w Q w6):=(E.out.alloc _).sb (ak.out.alloc _) hg
     have O:=zc m6
     clear j z E hr hg aA au aH ag ak m6
     have j:=zc ae
     have z:=zc ad
     have E:=zc R6
     clear ae ad R6
     cases hc:(decide (z5<0)&&isT C q5.pos 4 zbv) with
     |true=>
      obtain⟨a0,a1,Y,X,a4,a5,a6,a7,Z,a9,H,I,af⟩:=j.out.box
      go_wp2_with fail
      refine (zj C M L D Q q5 z5 d 4 zbv _ O.out.tok aj (by decide)).mono ?_
      rintro e w7 ⟨rfl,J⟩
      rw[hc]
      replace j:=zc (j.out.below J)
      replace z:=zc (z.out.below J)
      have ab:=zc (U.out.below J)
      have aa:=zc (O.out.later J)
      have K:Hid (Row Q w7 D w.heap.size r' (l++[⟨0,n5,n3,sNone⟩])):=E.out.below J
      clear E
      have E:=zc K
      clear K
      clear J U O
      clear a0 a1 Y X a4 a5 a6 a7 Z a9 H I af
      rw[Bool.and_eq_true,decide_eq_true_eq] at hc
      obtain⟨aC,az⟩:=hc
      have aU:q5.pos<C.ts.length:=za1 az (by decide)
      obtain⟨E5,P5⟩:=zu2 (l:=l) ac.out ap.out aC az
      have HE:=zc E5
      obtain rfl:z5= -1:=(zaF ap.out.fst aC).2
      have aF:Hid ((l++[(⟨0,n5,n3,sNone⟩:Ep)]).length≤q5.pos+1∨l++[(⟨0,n5,n3,sNone⟩:Ep)]=[]):=.inl (by simp only[List.length_append,List.length_singleton];exact aX.out.elim (fun g=>by omega) (fun g=>by rw[g];simp))
      clear E5
      obtain⟨a0,a1,Y,X,a4,a5,a6,a7,Z,a9,H,I,af⟩:=j.out.box
      go_wp2
      go_roundg (gk-1)
      case rel=>exact⟨.ok (adv q5),Q,adv q5,-1,r',l++[⟨0,n5,n3,sNone⟩],zab _,by rw[←ax.out];exact HE.out.symm,fun _=>by rw[zz];omega,aF.out,by simp,by rw[zmz],((aa.out.adv aU).set j.out 1 _),(ab.out.set (by omega) 1 _),(j.out.at1 _),(z.out.set_other (by omega) 1 _),(E.out.set j.out 1 _)⟩
      case measure=>omega
     |false=>
      obtain⟨a0,a1,Y,X,a4,a5,a6,a7,Z,a9,H,I,af⟩:=j.out.box
      go_wp2_with fail
      refine (zj C M L D Q q5 z5 d 4 zbv _ O.out.tok aj (by decide)).mono ?_
      rintro e w7 ⟨rfl,J⟩
      rw[hc]
      replace j:=zc (j.out.below J)
      replace z:=zc (z.out.below J)
      have ab:=zc (U.out.below J)
      have aa:=zc (O.out.later J)
      have K:Hid (Row Q w7 D w.heap.size r' (l++[⟨0,n5,n3,sNone⟩])):=E.out.below J
      clear E
      have E:=zc K
      clear K
      clear J U O
      clear a0 a1 Y X a4 a5 a6 a7 Z a9 H I af
      obtain⟨a0,a1,Y,X,a4,a5,a6,a7,Z,a9,H,I,af⟩:=j.out.box
      go_wp2_with fail
      refine (zah C M L D _ Q q5 z5 d zaJ _ ap.out.fst aa.out).mono ?_
      rintro e w8 ⟨S8,q8,z8,rfl,i8,m8,s8⟩
      replace j:=zc (j.out.stp s8)
      replace z:=zc (z.out.stp s8)
      have ay:=zc (ab.out.step s8)
      have K:Hid (Row S8 w8 D w.heap.size r' (l++[⟨0,n5,n3,sNone⟩])):=E.out.stp s8
      clear E
      have E:=zc K
      clear K
      clear ab
      have aw:=zc m8
      have aM:=zc i8
      clear i8 m8 s8 aa
      clear a0 a1 Y X a4 a5 a6 a7 Z a9 H I af
      obtain⟨b0,b1,b2,b3,b4,b5,b6,b7,b8,b9,aT,aP,bf⟩:=z.out.box
      unfold pv
      go_wp2
      refine bodyPost_ret (zm0 rfl _ _ (w.heap.size+1) 55 _ (0,0) _ rfl ((z.out.put ..)).heap Tryz.underlying55 rfl (by kernel_rfl)) rfl ?_
      exact⟨S8,q8,z8,r',l++[⟨0,n5,n3,sNone⟩],by simp[pv,zmz],by rw[←ax.out,zh,zeM];exact zu1 ac.out ap.out hc aM.out,(aw.out.put z.out ..),((ay.out.put (by omega) ..)).done,(E.out.put z.out ..),by simp;omega⟩
  ·skip
   obtain⟨a0,a1,Y,X,a4,a5,a6,a7,Z,a9,H,I,af⟩:=j.out.box
   go_wp2_with fail
   refine (zah C M L D _ S2 q2 z2 d zaJ _ av.out ao.out).mono ?_
   rintro e w3 ⟨V,q3,z3,rfl,i3,m3,s3⟩
   replace j:=zc (j.out.stp s3)
   replace z:=zc (z.out.stp s3)
   have aq:=zc (am.out.step s3)
   have K:Hid (Row V w3 D w.heap.size r l):=E.out.stp s3
   clear E
   have E:=zc K
   clear K
   clear am
   have al:=zc m3
   have ac:=zc i3
   clear i3 m3 s3 ao
   clear a0 a1 Y X a4 a5 a6 a7 Z a9 H I af
   obtain⟨b0,b1,b2,b3,b4,b5,b6,b7,b8,b9,aT,aP,bf⟩:=z.out.box
   unfold pv
   go_wp2
   refine bodyPost_ret (zm0 rfl _ _ (w.heap.size+1) 55 _ (0,0) _ rfl ((z.out.put ..)).heap Tryz.underlying55 rfl (by kernel_rfl)) rfl ?_
   exact⟨V,q3,z3,r,l,rfl,by rw[←ax.out];exact zu3 av.out (by omega) ac.out,(al.out.put z.out ..),((aq.out.put (by omega) ..)).done,(E.out.put z.out ..),by omega⟩
def SumOK (C:Cx) (gt cap base m:Nat):Prop:=∀(x:PR) (S:Sv) (q:PS) (z:Int) (d:Nat) (w:World),Is x q z→Mem C gt cap base S q w→(z<0→C.ts.length-q.pos<m)→d≤20→
 Calls Tryz.prog 53 #[pv C gt cap S q z d] w (Out C gt cap base (bd x (pE C .sum d)) d S w)
theorem zhr {C:Cx} {o:Bool} {q q1:PS} {z:Int} {j:ByteArray} (h:Is2 (bd (.ok q) (zk C o)) q1 z j) (D:plainB C q.pos o=true):q1=adv q∧z= -1∧j=(zf C q.pos).text:=by
 rw[zh,zk,if_pos D] at h
 exact h
theorem zhs {C:Cx} {o:Bool} {q q1:PS} {j:Int} {z:ByteArray} (h:Is2 (bd (.ok q) (zk C o)) q1 j z) (D:plainB C q.pos o=false):j=(zu C q.pos:Int):=by
 rw[zh,zk,D] at h
 exact h
theorem zm3 {C:Cx} {n:ByteArray} {y:Except Nat (PS×ByteArray)} {q:PS} {z:Int} {f:ByteArray} (h:Is2 y q z f) (j:(decide (z<0)&&isT C q.pos 4 cOpen)=true):bd (bd (bd (za7 y) (zd C 4 cOpen)) (zd C 4 zU)) (zJ C ⟨5,0,n,f,0,0⟩)=bd y fun a=>za5 C n a.2 a.1:=by
 rw[Bool.and_eq_true,decide_eq_true_eq] at j
 cases y with
 |ok a=>
  obtain⟨rfl,_,rfl⟩:=h
  show _=za5 C n a.2 a.1
  rw[za5,if_pos j.2]
  rfl
 |error e=>rfl
theorem zm4 {C:Cx} {n:ByteArray} {y:Except Nat (PS×ByteArray)} {q:PS} {z:Int} {f:ByteArray} (h:Is2 y q z f) (j:(decide (z<0)&&isT C q.pos 4 cOpen)=false):bd (za7 y) (zJ C ⟨4,0,n,f,0,0⟩)=bd y fun a=>za5 C n a.2 a.1:=by
 cases y with
 |ok a=>
  obtain⟨rfl,rfl,rfl⟩:=h
  rw[Bool.and_eq_false_iff] at j
  show _=za5 C n a.2 a.1
  rw[za5,j.resolve_left (by decide)]
  rfl
 |error e=>rfl
theorem zm5 {C:Cx} {o:Bool} {x:PR} {q:PS} {z:Int} {n:ByteArray} (h:Is2 (bd x (zk C o)) q z n):z<0→1≤q.pos:=by
 intro E
 cases j:bd x (zk C o) with
 |error e=>rw[j] at h;have:z=(e:Int):=h;omega
 |ok a=>
  rw[j] at h
  obtain⟨rfl,_,_⟩:=h
  obtain⟨b,_,D⟩:=ze j
  obtain⟨rfl,_⟩:=zaX D
  simp[adv]
theorem zu6 (C:Cx) (E o j:Nat) (S:Sv) (q:PS) (d:Nat) (w:World) (H:Mem C E o j S q w) (K:((zf C q.pos).kind==2)=true):
  Calls Tryz.prog 128 #[pv C E o S q (-1) d] w (Out C E o j (pE C .part d q) d S w):=by
 have HM:=zc H
 have z:=H.tok
 have aa:C.ts.length≤4000:=H.few
 have ab:=(zan H.tok).1
 clear H
 have U:q.pos<C.ts.length:=zeJ K (by decide)
 have Z:Hid (pE C .part d q=bd (.ok (adv q)) (zJ C ⟨1,(zf C q.pos).num,sNone,sNone,0,0⟩)):=by show pE C .part d q=_;rw[zby,if_pos K];rfl
 obtain⟨c0,_,X,_⟩:=z.cells U (d:=⟨0,sNone,0,C.fin⟩)
 change _=some (Value.int .i64 (zf C q.pos).kind) at c0
 change _=some (Value.int .i64 (zf C q.pos).num) at X
 have I:Hid (Mem C E o j S (adv q) w):=HM.out.adv U
 generalize (zf C q.pos).kind=kd at c0 K
 have HN:Hid (∀n,n=(zf C q.pos).num→pE C .part d q=bd (.ok (adv q)) (zJ C ⟨1,n,sNone,sNone,0,0⟩)):=fun n e=>by rw[e];exact Z.out
 generalize J:(zf C q.pos).num=nm at X
 have O:Hid (nm=(zf C q.pos).num):=J.symm
 clear J Z z
 unfold pv
 go_enter Tryz.func128,Tryz.ntmps128
 go_wp2_with fail
 refine (zcX C E o j (.ok (adv q)) S (adv q) (-1) d ⟨1,nm,sNone,sNone,0,0⟩ _ (zab _) ((I.out.alloc _).alloc _) (fun _=>by simp[adv])).mono ?_
 rintro e w1 ⟨S1,q1,z1,rfl,V,Q,s1⟩
 obtain⟨X0,Y,t1⟩:=I.out.two2 s1
 have D:=zc Y
 have N:=zc Q
 have M:=zc t1
 have L:=zc V
 clear X0 Y V Q t1 s1
 obtain⟨b0,b1,b2,b3,b4,b5,b6,b7,b8,b9,ad,ac,bf⟩:=D.out.box
 unfold pv
 go_wp2
 refine bodyPost_ret (results_cell_row rfl _ _ (w.heap.size+1) 55 _ (0,0) _ rfl ((D.out.put ..)).heap Tryz.underlying55 rfl (by kernel_rfl)) rfl ?_
 rw[HN.out nm O.out]
 exact zac rfl L.out (N.out.put D.out ..) (M.out.put (by omega) ..)
theorem zu7 (C:Cx) (K z j:Nat) (S:Sv) (q:PS) (d:Nat) (w:World) (L:Mem C K z j S q w) (hk:((zf C q.pos).kind==2)=false) (Q:isT C q.pos 4 cOpen=true) (hd:20≤d) (ac:d≤20):
  Calls Tryz.prog 128 #[pv C K z S q (-1) d] w (Out C K z j (pE C .part d q) d S w):=by
 have HM:=zc L
 have H:=L.tok
 have E:C.ts.length≤4000:=L.few
 have aa:=(zan L.tok).1
 clear L
 have hp:q.pos<C.ts.length:=za1 Q (by decide)
 have HV:Hid (pE C .part d q= .error (zu C q.pos)):=by show pE C .part d q=_;rw[zby,hk,Q];simp[hd]
 have qd:decide ((20:Int)≤(d:Int))=true:=decide_eq_true (by omega)
 obtain⟨c0,_,_,_⟩:=H.cells hp (d:=⟨0,sNone,0,C.fin⟩)
 change _=some (Value.int .i64 (zf C q.pos).kind) at c0
 generalize (zf C q.pos).kind=kd at c0 hk
 unfold pv
 go_enter Tryz.func128,Tryz.ntmps128
 go_wp2_with fail
 refine (zj C K z j S q (-1) d 4 cOpen _ (zv (zv H _) _) E (by decide)).mono ?_
 rintro e w1 ⟨rfl,N⟩
 rw[Q]
 obtain⟨Y,X1,Z,t1⟩:=HM.out.two N
 have J:=zc Y
 have o:=zc X1
 have I:=zc Z
 have M:=zc t1
 clear Y X1 Z t1 N
 obtain⟨a0,a1,a2,a3,a4,a5,a6,a7,a8,a9,O,V,af⟩:=J.out.box
 go_wp2_with fail
 refine (zd0 C K z j S q (-1) d _ I.out.tok E).mono ?_
 rintro e w2 ⟨rfl,D⟩
 replace J:=zc (J.out.below D)
 replace o:=zc (o.out.below D)
 have X:=zc (M.out.below D)
 have U:=zc (I.out.later D)
 clear D M I
 clear a0 a1 a2 a3 a4 a5 a6 a7 a8 a9 O V af
 obtain⟨b0,b1,b2,b3,b4,b5,b6,b7,b8,b9,ad,ab,bf⟩:=o.out.box
 unfold pv
 go_wp2
 refine bodyPost_ret (results_cell_row rfl _ _ (w.heap.size+1) 55 _ (0,0) _ rfl ((o.out.put ..)).heap Tryz.underlying55 rfl (by kernel_rfl)) rfl ?_
 rw[HV.out]
 exact zac rfl (show Is (.error (zu C q.pos)) q _ from rfl) (U.out.put o.out ..) (X.out.put (by omega) ..)
theorem zu8 (C:Cx) (H E z:Nat) (S:Sv) (q:PS) (d:Nat) (w:World) (Q:Mem C H E z S q w) (hk:((zf C q.pos).kind==2)=false) (ho:isT C q.pos 4 cOpen=true) (hd:d<20) (hS:SumOK C H E z (C.ts.length-q.pos)):
  Calls Tryz.prog 128 #[pv C H E S q (-1) d] w (Out C H E z (pE C .part d q) d S w):=by
 have HM:=zc Q
 have K:=Q.tok
 have M:C.ts.length≤4000:=Q.few
 have ag:=(zan Q.tok).1
 clear Q
 have hp:q.pos<C.ts.length:=za1 ho (by decide)
 have HV:Hid (pE C .part d q=bd (bd (.ok (adv q)) (pE C .sum (d+1))) (zd C 4 zU)):=by show pE C .part d q=_;rw[zby,hk,ho,if_neg (by decide),if_pos rfl,if_neg (by omega)];rfl
 have HS:=zc hS
 clear hS
 have qd:decide ((20:Int)≤(d:Int))=false:=decide_eq_false (by omega)
 obtain⟨c0,_,_,_⟩:=K.cells hp (d:=⟨0,sNone,0,C.fin⟩)
 change _=some (Value.int .i64 (zf C q.pos).kind) at c0
 generalize (zf C q.pos).kind=kd at c0 hk
 unfold pv
 go_enter Tryz.func128,Tryz.ntmps128
 go_wp2_with fail
 refine (zj C H E z S q (-1) d 4 cOpen _ (zv (zv K _) _) M (by decide)).mono ?_
 rintro e w1 ⟨rfl,Y⟩
 rw[ho]
 obtain⟨L,U,m1,t1⟩:=HM.out.two Y
 have j:=zc L
 have o:=zc U
 have N:=zc m1
 have X:=zc t1
 clear L U m1 t1 Y
 obtain⟨a0,a1,a2,a3,a4,a5,a6,a7,a8,a9,I,J,af⟩:=j.out.box
 go_wp2_with fail
 refine (HS.out (.ok (adv q)) S (adv q) (-1) (d+1) _ (zab _) (((N.out.adv hp).set j.out 1 _).set (j.out.at1 _) 11 _) (fun _=>by show C.ts.length-(q.pos+1)<_;omega) (by omega)).mono ?_
 rintro e w2 ⟨S2,q2,z2,rfl,i2,m2,s2⟩
 replace j:=zc (((j.out.at1 _).at11 _).stp s2)
 replace o:=zc (((o.out.set_other (by omega) 1 _).set_other (by omega) 11 _).stp s2)
 have O:Hid (SB w.heap.size S w S2 w2):=((X.out.set (by omega) 1 _).set (by omega) 11 _).step s2
 clear X
 have V:=zc m2
 have ab:=zc i2
 clear i2 m2 s2 N
 clear a0 a1 a2 a3 a4 a5 a6 a7 a8 a9 I J af
 go_wp2_with fail
 refine (zah C H E z _ S2 q2 z2 (d+1) zU _ ab.out V.out).mono ?_
 rintro e w3 ⟨S3,q3,z3,rfl,i3,m3,s3⟩
 replace j:=zc (j.out.stp s3)
 replace o:=zc (o.out.stp s3)
 have aa:=zc (O.out.step s3)
 clear O
 have Z:=zc m3
 have ac:=zc i3
 clear i3 m3 s3 V
 obtain⟨a0,a1,a2,a3,a4,a5,a6,a7,a8,a9,I,J,af⟩:=j.out.box
 obtain⟨D,hD⟩: ∃D:Nat,D=d+1:=⟨_,rfl⟩
 rw[←hD]
 have ak:(D:Int)-1=d:=by omega
 have ah:D≤20:=by omega
 clear hD hd qd
 unfold pv
 go_upto_region 11 with fail
 refine zQ (R:=fun W=>Bx H S3 W (w.heap.size) _∧Bx H S3 W (w.heap.size+1) _∧Mem C H E z S3 q3 W∧SB w.heap.size S w S3 W) ⟨(j.out.put ..),(o.out.other (by omega) ..),(Z.out.put j.out ..),(aa.out.put (by omega) ..)⟩ ?_
 clear a0 a1 a2 a3 a4 a5 a6 a7 a8 a9 I J af
 clear j o aa Z
 rintro w4 ⟨L,U,m4,t4⟩
 have j:=zc L
 have o:=zc U
 have ad:=zc m4
 have ae:=zc t4
 clear m4 t4 L U
 obtain⟨a0,a1,a2,a3,a4,a5,a6,a7,a8,a9,I,J,af⟩:=j.out.box
 obtain⟨b0,b1,b2,b3,b4,b5,b6,b7,b8,b9,aj,ai,bf⟩:=o.out.box
 go_wp2
 refine bodyPost_ret (results_cell_row rfl _ _ (w.heap.size+1) 55 _ (0,0) _ rfl (((o.out.set_other (by omega) 11 _).put ..)).heap Tryz.underlying55 rfl (by kernel_rfl)) rfl ?_
 rw[HV.out]
 exact zac rfl ac.out ((ad.out.set j.out 11 _).put (o.out.set_other (by omega) 11 _) ..) ((ae.out.set (by omega) 11 _).put (by omega) ..)
theorem zu9 (z:List Tk) (j:Nat) (J H D:Nat) (S:Sv) (q:PS) (d:Nat) (w:World) (V:Mem (Cx.mk z j true) J H D S q w) (hp: ¬q.pos<(Cx.mk z j true).ts.length):
  Calls Tryz.prog 128 #[pv (Cx.mk z j true) J H S q (-1) d] w (Out (Cx.mk z j true) J H D (pE (Cx.mk z j true) .part d q) d S w):=by
 have HM:=zc V
 have ac:=V.tok
 have K:(Cx.mk z j true).ts.length≤4000:=V.few
 have aj:=(zan V.tok).1
 clear V
 have hk:((zf (Cx.mk z j true) q.pos).kind==2)=false:=by rw[zcT (by omega)];rfl
 have ho:isT (Cx.mk z j true) q.pos 4 cOpen=false:=zfA hp (by decide)
 have hu:isT (Cx.mk z j true) q.pos 1 sUndef=false:=zfA hp (by decide)
 have hn:plainB (Cx.mk z j true) q.pos false=false:=zhP hp
 have HV:Hid (pE (Cx.mk z j true) .part d q= .error (zu (Cx.mk z j true) q.pos)):=by show pE (Cx.mk z j true) .part d q=_;rw[zby,hk,ho,hu,zk,hn];rfl
 have am: ¬q.pos<z.length:=hp
 unfold pv
 go_enter Tryz.func128,Tryz.ntmps128
 go_wp2_with fail
 refine (zj (Cx.mk z j true) J H D S q (-1) d 4 cOpen _ (zv (zv ac _) _) K (by decide)).mono ?_
 rintro e w1 ⟨rfl,aa⟩
 rw[ho]
 obtain⟨Q,X,m1,t1⟩:=HM.out.two aa
 have E:=zc Q
 have o:=zc X
 have L:=zc m1
 have Z:=zc t1
 clear Q X m1 t1 aa
 obtain⟨a0,a1,a2,a3,a4,a5,a6,a7,a8,a9,N,O,af⟩:=E.out.box
 go_wp2_with fail
 refine (zj (Cx.mk z j true) J H D S q (-1) d 1 sUndef _ L.out.tok K (by decide)).mono ?_
 rintro e w2 ⟨rfl,I⟩
 rw[hu]
 replace E:=zc (E.out.below I)
 replace o:=zc (o.out.below I)
 have U:=zc (Z.out.below I)
 have Y:=zc (L.out.later I)
 clear I Z L
 clear a0 a1 a2 a3 a4 a5 a6 a7 a8 a9 N O af
 obtain⟨a0,a1,a2,a3,a4,a5,a6,a7,a8,a9,N,O,af⟩:=E.out.box
 go_wp2_with fail
 refine (zbz (Cx.mk z j true) J H D (.ok q) S q (-1) d false _ (zab q) Y.out).mono ?_
 rintro e w3 ⟨S3,q3,z3,n3,rfl,i3,m3,s3⟩
 replace E:=zc (E.out.stp s3)
 replace o:=zc (o.out.stp s3)
 have ab:=zc (U.out.step s3)
 clear U
 have M:=zc m3
 have ad:=zc i3
 clear i3 m3 s3 Y
 clear a0 a1 a2 a3 a4 a5 a6 a7 a8 a9 N O af
 obtain rfl:=zhs ad.out hn
 have dz:decide ((0:Int)≤(zu (Cx.mk z j true) q.pos:Int))=true:=decide_eq_true (by omega)
 have ai:w.heap.size+1<w3.heap.size:=o.out.lt
 unfold pv
 go_upto_region 17 with fail
 refine zQ (R:=fun W=>Bx J S3 W (w.heap.size) _∧Bx J S3 W (w.heap.size+1) _∧Bx J S3 W (w3.heap.size) _∧Mem (Cx.mk z j true) J H D S3 q3 W∧SB w.heap.size S w S3 W) ⟨(E.out.alloc _),(o.out.alloc _),(Bx.new M.out _),(M.out.alloc _),(ab.out.alloc _)⟩ ?_
 clear E o ab M
 rintro w4 ⟨Q,X,X2,m4,t4⟩
 have E:=zc Q
 have o:=zc X
 have ah:=zc X2
 have ae:=zc m4
 have ag:=zc t4
 clear m4 t4 Q X X2
 obtain⟨b0,b1,b2,b3,b4,b5,b6,b7,b8,b9,an,ak,bf⟩:=o.out.box
 obtain⟨c0,c1,c2,c3,c4,c5,c6,c7,c8,c9,ao,al,cf⟩:=ah.out.box
 go_wp2
 refine bodyPost_ret (results_cell_row rfl _ _ (w.heap.size+1) 55 _ (0,0) _ rfl ((o.out.put ..)).heap Tryz.underlying55 rfl (by kernel_rfl)) rfl ?_
 rw[HV.out]
 exact zac rfl (show Is (.error (zu (Cx.mk z j true) q.pos)) q3 _ from rfl) (ae.out.put o.out ..) (ag.out.put (by omega) ..)
theorem zuA (o:List Tk) (j:Nat) (J H D:Nat) (S:Sv) (q:PS) (d:Nat) (w:World) (X:Mem (Cx.mk o j true) J H D S q w) (hk:((zf (Cx.mk o j true) q.pos).kind==2)=false) (ho:isT (Cx.mk o j true) q.pos 4 cOpen=false) (hp:q.pos<(Cx.mk o j true).ts.length) (hu:isT (Cx.mk o j true) q.pos 1 sUndef=false) (hn:plainB (Cx.mk o j true) q.pos false=false):
  Calls Tryz.prog 128 #[pv (Cx.mk o j true) J H S q (-1) d] w (Out (Cx.mk o j true) J H D (pE (Cx.mk o j true) .part d q) d S w):=by
 have HM:=zc X
 have L:=X.tok
 have K:(Cx.mk o j true).ts.length≤4000:=X.few
 have aj:=(zan X.tok).1
 clear X
 have HV:Hid (pE (Cx.mk o j true) .part d q= .error (zu (Cx.mk o j true) q.pos)):=by show pE (Cx.mk o j true) .part d q=_;rw[zby,hk,ho,hu,zk,hn];rfl
 have am:q.pos<o.length:=hp
 obtain⟨c0,_,_,_⟩:=L.cells hp (d:=⟨0,sNone,0,(Cx.mk o j true).fin⟩)
 change _=some (Value.int .i64 (zf (Cx.mk o j true) q.pos).kind) at c0
 generalize (zf (Cx.mk o j true) q.pos).kind=kd at c0 hk
 unfold pv
 go_enter Tryz.func128,Tryz.ntmps128
 go_wp2_with fail
 refine (zj (Cx.mk o j true) J H D S q (-1) d 4 cOpen _ (zv (zv L _) _) K (by decide)).mono ?_
 rintro e w1 ⟨rfl,ab⟩
 rw[ho]
 obtain⟨U,Y,m1,t1⟩:=HM.out.two ab
 have E:=zc U
 have z:=zc Y
 have M:=zc m1
 have aa:=zc t1
 clear U Y m1 t1 ab
 obtain⟨a0,a1,a2,a3,a4,a5,a6,a7,a8,a9,O,Q,af⟩:=E.out.box
 go_wp2_with fail
 refine (zj (Cx.mk o j true) J H D S q (-1) d 1 sUndef _ M.out.tok K (by decide)).mono ?_
 rintro e w2 ⟨rfl,I⟩
 rw[hu]
 replace E:=zc (E.out.below I)
 replace z:=zc (z.out.below I)
 have V:=zc (aa.out.below I)
 have Z:=zc (M.out.later I)
 clear I aa M
 clear a0 a1 a2 a3 a4 a5 a6 a7 a8 a9 O Q af
 obtain⟨a0,a1,a2,a3,a4,a5,a6,a7,a8,a9,O,Q,af⟩:=E.out.box
 go_wp2_with fail
 refine (zbz (Cx.mk o j true) J H D (.ok q) S q (-1) d false _ (zab q) Z.out).mono ?_
 rintro e w3 ⟨S3,q3,z3,n3,rfl,i3,m3,s3⟩
 replace E:=zc (E.out.stp s3)
 replace z:=zc (z.out.stp s3)
 have ac:=zc (V.out.step s3)
 clear V
 have N:=zc m3
 have ad:=zc i3
 clear i3 m3 s3 Z
 clear a0 a1 a2 a3 a4 a5 a6 a7 a8 a9 O Q af
 obtain rfl:=zhs ad.out hn
 have dz:decide ((0:Int)≤(zu (Cx.mk o j true) q.pos:Int))=true:=decide_eq_true (by omega)
 have ai:w.heap.size+1<w3.heap.size:=z.out.lt
 unfold pv
 go_upto_region 17 with fail
 refine zQ (R:=fun W=>Bx J S3 W (w.heap.size) _∧Bx J S3 W (w.heap.size+1) _∧Bx J S3 W (w3.heap.size) _∧Mem (Cx.mk o j true) J H D S3 q3 W∧SB w.heap.size S w S3 W) ⟨(E.out.alloc _),(z.out.alloc _),(Bx.new N.out _),(N.out.alloc _),(ac.out.alloc _)⟩ ?_
 clear E z ac N
 rintro w4 ⟨U,Y,X2,m4,t4⟩
 have E:=zc U
 have z:=zc Y
 have ah:=zc X2
 have ae:=zc m4
 have ag:=zc t4
 clear m4 t4 U Y X2
 obtain⟨b0,b1,b2,b3,b4,b5,b6,b7,b8,b9,an,ak,bf⟩:=z.out.box
 obtain⟨c0,c1,c2,c3,c4,c5,c6,c7,c8,c9,ao,al,cf⟩:=ah.out.box
 go_wp2
 refine bodyPost_ret (results_cell_row rfl _ _ (w.heap.size+1) 55 _ (0,0) _ rfl ((z.out.put ..)).heap Tryz.underlying55 rfl (by kernel_rfl)) rfl ?_
 rw[HV.out]
 exact zac rfl (show Is (.error (zu (Cx.mk o j true) q.pos)) q3 _ from rfl) (ae.out.put z.out ..) (ag.out.put (by omega) ..)
theorem zm6 (K:List Tk) (z:Nat) (J E o:Nat) (S:Sv) (q:PS) (d:Nat) (w:World) (X:Mem (Cx.mk K z true) J E o S q w) (H:Nat):
  Calls Tryz.prog 128 #[pv (Cx.mk K z true) J E S q (H:Int) d] w (Out (Cx.mk K z true) J E o (.error H) d S w):=by
 have HM:=zc X
 have ad:=X.tok
 have L:(Cx.mk K z true).ts.length≤4000:=X.few
 have ak:=(zan X.tok).1
 clear X
 have hz: ¬(H:Int)<0:=by omega
 have hs: ∀k s,(decide ((H:Int)<0)&&isT (Cx.mk K z true) q.pos k s)=false:=fun k s=>by rw[decide_eq_false hz];rfl
 unfold pv
 go_enter Tryz.func128,Tryz.ntmps128
 go_wp2_with fail
 refine (zj (Cx.mk K z true) J E o S q (H:Int) d 4 cOpen _ (zv (zv ad _) _) L (by decide)).mono ?_
 rintro e w1 ⟨rfl,ab⟩
 rw[hs]
 obtain⟨U,Y,m1,t1⟩:=HM.out.two ab
 have D:=zc U
 have j:=zc Y
 have M:=zc m1
 have aa:=zc t1
 clear U Y m1 t1 ab
 obtain⟨a0,a1,a2,a3,a4,a5,a6,a7,a8,a9,O,Q,af⟩:=D.out.box
 go_wp2_with fail
 refine (zj (Cx.mk K z true) J E o S q (H:Int) d 1 sUndef _ M.out.tok L (by decide)).mono ?_
 rintro e w2 ⟨rfl,I⟩
 rw[hs]
 replace D:=zc (D.out.below I)
 replace j:=zc (j.out.below I)
 have V:=zc (aa.out.below I)
 have Z:=zc (M.out.later I)
 clear I aa M
 clear a0 a1 a2 a3 a4 a5 a6 a7 a8 a9 O Q af
 obtain⟨a0,a1,a2,a3,a4,a5,a6,a7,a8,a9,O,Q,af⟩:=D.out.box
 go_wp2_with fail
 refine (zbz (Cx.mk K z true) J E o (.error H) S q (H:Int) d false _ (show Is (.error H) q _ from rfl) Z.out).mono ?_
 rintro e w3 ⟨S3,q3,z3,n3,rfl,i3,m3,s3⟩
 replace D:=zc (D.out.stp s3)
 replace j:=zc (j.out.stp s3)
 have ac:=zc (V.out.step s3)
 clear V
 have N:=zc m3
 have ae:=zc i3
 clear i3 m3 s3 Z
 clear a0 a1 a2 a3 a4 a5 a6 a7 a8 a9 O Q af
 obtain rfl:z3=(H:Int):=ae.out
 have dz:decide ((0:Int)≤(H:Int))=true:=decide_eq_true (by omega)
 have aj:w.heap.size+1<w3.heap.size:=j.out.lt
 unfold pv
 go_upto_region 17 with fail
 refine zQ (R:=fun W=>Bx J S3 W (w.heap.size) _∧Bx J S3 W (w.heap.size+1) _∧Bx J S3 W (w3.heap.size) _∧Mem (Cx.mk K z true) J E o S3 q3 W∧SB w.heap.size S w S3 W) ⟨(D.out.alloc _),(j.out.alloc _),(Bx.new N.out _),(N.out.alloc _),(ac.out.alloc _)⟩ ?_
 clear D j ac N
 rintro w4 ⟨U,Y,X2,m4,t4⟩
 have D:=zc U
 have j:=zc Y
 have ai:=zc X2
 have ag:=zc m4
 have ah:=zc t4
 clear m4 t4 U Y X2
 obtain⟨b0,b1,b2,b3,b4,b5,b6,b7,b8,b9,an,al,bf⟩:=j.out.box
 obtain⟨c0,c1,c2,c3,c4,c5,c6,c7,c8,c9,ao,am,cf⟩:=ai.out.box
 go_wp2
 refine bodyPost_ret (results_cell_row rfl _ _ (w.heap.size+1) 55 _ (0,0) _ rfl ((j.out.put ..)).heap Tryz.underlying55 rfl (by kernel_rfl)) rfl ?_
 exact zac rfl (show Is (.error H) q3 _ from rfl) (ag.out.put j.out ..) (ah.out.put (by omega) ..)
theorem zuB (o:List Tk) (j:Nat) (O H z:Nat) (S:Sv) (q:PS) (d:Nat) (w:World) (Q:Mem (Cx.mk o j true) O H z S q w) (hk:((zf (Cx.mk o j true) q.pos).kind==2)=false) (ho:isT (Cx.mk o j true) q.pos 4 cOpen=false) (hp:q.pos<(Cx.mk o j true).ts.length) (hu:isT (Cx.mk o j true) q.pos 1 sUndef=true):
  Calls Tryz.prog 128 #[pv (Cx.mk o j true) O H S q (-1) d] w (Out (Cx.mk o j true) O H z (pE (Cx.mk o j true) .part d q) d S w):=by
 have HM:=zc Q
 have K:=Q.tok
 have J:(Cx.mk o j true).ts.length≤4000:=Q.few
 have ad:=(zan Q.tok).1
 clear Q
 have HV:Hid (pE (Cx.mk o j true) .part d q=zau (Cx.mk o j true) sUndef (adv q)):=by show pE (Cx.mk o j true) .part d q=_;rw[zby,hk,ho,hu];rfl
 have ag:q.pos<o.length:=hp
 obtain⟨c0,_,_,_⟩:=K.cells hp (d:=⟨0,sNone,0,(Cx.mk o j true).fin⟩)
 change _=some (Value.int .i64 (zf (Cx.mk o j true) q.pos).kind) at c0
 generalize (zf (Cx.mk o j true) q.pos).kind=kd at c0 hk
 unfold pv
 go_enter Tryz.func128,Tryz.ntmps128
 go_wp2_with fail
 refine (zj (Cx.mk o j true) O H z S q (-1) d 4 cOpen _ (zv (zv K _) _) J (by decide)).mono ?_
 rintro e w1 ⟨rfl,Y⟩
 rw[ho]
 obtain⟨X0,X1,m1,t1⟩:=HM.out.two Y
 have E:=zc X0
 have D:=zc X1
 have N:=zc m1
 have V:=zc t1
 clear X0 X1 m1 t1 Y
 obtain⟨a0,a1,a2,a3,a4,a5,a6,a7,a8,a9,L,M,af⟩:=E.out.box
 go_wp2_with fail
 refine (zj (Cx.mk o j true) O H z S q (-1) d 1 sUndef _ N.out.tok J (by decide)).mono ?_
 rintro e w2 ⟨rfl,I⟩
 rw[hu]
 replace E:=zc (E.out.below I)
 replace D:=zc (D.out.below I)
 have X:=zc (V.out.below I)
 have U:=zc (N.out.later I)
 clear I V N
 clear a0 a1 a2 a3 a4 a5 a6 a7 a8 a9 L M af
 obtain⟨a0,a1,a2,a3,a4,a5,a6,a7,a8,a9,L,M,af⟩:=E.out.box
 go_wp2_with fail
 refine (zjf (Cx.mk o j true) O H z S (adv q) d sUndef _ ((U.out.adv hp).set E.out 1 _) (by simp[adv])).mono ?_
 rintro e w3 ⟨S3,q3,z3,rfl,i3,m3,Z⟩
 replace E:=zc ((E.out.at1 _).stp Z)
 replace D:=zc ((D.out.set_other (by omega) 1 _).stp Z)
 have aa:Hid (SB w.heap.size S w S3 w3):=(X.out.set (by omega) 1 _).step Z
 clear X
 have ab:=zc m3
 have ac:=zc i3
 clear i3 m3 Z U
 clear a0 a1 a2 a3 a4 a5 a6 a7 a8 a9 L M af
 obtain⟨b0,b1,b2,b3,b4,b5,b6,b7,b8,b9,ah,ae,bf⟩:=D.out.box
 unfold pv
 go_wp2
 refine bodyPost_ret (results_cell_row rfl _ _ (w.heap.size+1) 55 _ (0,0) _ rfl ((D.out.put ..)).heap Tryz.underlying55 rfl (by kernel_rfl)) rfl ?_
 rw[HV.out]
 exact zac rfl ac.out (ab.out.put D.out ..) (aa.out.put (by omega) ..)
theorem zuC (o:List Tk) (j:Nat) (L H z:Nat) (S:Sv) (q:PS) (d:Nat) (w:World) (hm:Mem (Cx.mk o j true) L H z S q w) (hk:((zf (Cx.mk o j true) q.pos).kind==2)=false) (ho:isT (Cx.mk o j true) q.pos 4 cOpen=false) (hp:q.pos<(Cx.mk o j true).ts.length) (hu:isT (Cx.mk o j true) q.pos 1 sUndef=false) (hn:plainB (Cx.mk o j true) q.pos false=true) (hd:isT (Cx.mk o j true) (q.pos+1) 4 cPoint=false):
  Calls Tryz.prog 128 #[pv (Cx.mk o j true) L H S q (-1) d] w (Out (Cx.mk o j true) L H z (pE (Cx.mk o j true) .part d q) d S w):=by
 have HM:=zc hm
 have N:=hm.tok
 have J:(Cx.mk o j true).ts.length≤4000:=hm.few
 have ar:=(zan hm.tok).1
 clear hm
 have HV:Hid (pE (Cx.mk o j true) .part d q=zau (Cx.mk o j true) (zf (Cx.mk o j true) q.pos).text (adv q)):=by show pE (Cx.mk o j true) .part d q=_;rw[zby,hk,ho,hu,zk,hn];show (if isT (Cx.mk o j true) (adv q).pos 4 cPoint then _ else _)=_;rw[zz,hd];rfl
 have av:q.pos<o.length:=hp
 obtain⟨c0,_,_,_⟩:=N.cells hp (d:=⟨0,sNone,0,(Cx.mk o j true).fin⟩)
 change _=some (Value.int .i64 (zf (Cx.mk o j true) q.pos).kind) at c0
 generalize (zf (Cx.mk o j true) q.pos).kind=kd at c0 hk
 unfold pv
 go_enter Tryz.func128,Tryz.ntmps128
 go_wp2_with fail
 refine (zj (Cx.mk o j true) L H z S q (-1) d 4 cOpen _ (zv (zv N _) _) J (by decide)).mono ?_
 rintro e w1 ⟨rfl,ac⟩
 rw[ho]
 obtain⟨X0,X1,m1,t1⟩:=HM.out.two ac
 have E:=zc X0
 have D:=zc X1
 have O:=zc m1
 have ab:=zc t1
 clear X0 X1 m1 t1 ac
 obtain⟨a0,a1,a2,a3,a4,a5,a6,a7,a8,a9,Q,U,af⟩:=E.out.box
 go_wp2_with fail
 refine (zj (Cx.mk o j true) L H z S q (-1) d 1 sUndef _ O.out.tok J (by decide)).mono ?_
 rintro e w2 ⟨rfl,K⟩
 rw[hu]
 replace E:=zc (E.out.below K)
 replace D:=zc (D.out.below K)
 have Z:=zc (ab.out.below K)
 have aa:=zc (O.out.later K)
 clear K ab O
 clear a0 a1 a2 a3 a4 a5 a6 a7 a8 a9 Q U af
 obtain⟨a0,a1,a2,a3,a4,a5,a6,a7,a8,a9,Q,U,af⟩:=E.out.box
 go_wp2_with fail
 refine (zbz (Cx.mk o j true) L H z (.ok q) S q (-1) d false _ (zab q) aa.out).mono ?_
 rintro e w3 ⟨S3,q3,z3,n3,rfl,i3,m3,s3⟩
 replace E:=zc (E.out.stp s3)
 replace D:=zc (D.out.stp s3)
 have ag:=zc (Z.out.step s3)
 clear Z
 have M:=zc m3
 have ad:=zc i3
 clear i3 m3 s3 aa
 clear a0 a1 a2 a3 a4 a5 a6 a7 a8 a9 Q U af
 obtain⟨hq,rfl,Y⟩:=zhr ad.out hn
 have HQ:=zc hq
 have ak:=zc Y
 have ae:q3.pos=q.pos+1:=by rw[hq];rfl
 have aj:isT (Cx.mk o j true) q3.pos 4 cPoint=false:=by rw[ae];exact hd
 clear hq Y ad
 have aq:w.heap.size+1<w3.heap.size:=D.out.lt
 unfold pv
 clear ae
 go_wp2_with fail
 refine (zj (Cx.mk o j true) L H z S3 q3 (-1) d 4 cPoint _ (M.out.alloc _).tok J (by decide)).mono ?_
 rintro e w4 ⟨rfl,I⟩
 rw[aj]
 replace E:=zc ((E.out.alloc _).below I)
 replace D:=zc ((D.out.alloc _).below I)
 replace V:=zc ((Bx.new M.out _).below I)
 have ai:Hid (SB w.heap.size S w S3 w4):=(ag.out.alloc _).below I
 have ah:Hid (Mem (Cx.mk o j true) L H z S3 q3 w4):=(M.out.alloc _).later I
 clear I ag M
 obtain⟨c0,c1,c2,c3,c4,c5,c6,c7,c8,c9,ap,an,cf⟩:=V.out.box
 go_wp2_with fail
 refine (zjf (Cx.mk o j true) L H z S3 q3 d n3 _ ah.out (by rw[HQ.out];simp[adv])).mono ?_
 rintro e w5 ⟨S5,q5,z5,rfl,i5,m5,X⟩
 replace E:=zc (E.out.stp X)
 replace D:=zc (D.out.stp X)
 replace V:=zc (V.out.stp X)
 have ao:=zc (ai.out.step X)
 clear ai
 have al:=zc m5
 have am:=zc i5
 clear i5 m5 X ah
 clear c0 c1 c2 c3 c4 c5 c6 c7 c8 c9 ap an cf
 obtain⟨b0,b1,b2,b3,b4,b5,b6,b7,b8,b9,aw,au,bf⟩:=D.out.box
 unfold pv
 go_wp2
 refine bodyPost_ret (results_cell_row rfl _ _ (w.heap.size+1) 55 _ (0,0) _ rfl ((D.out.put ..)).heap Tryz.underlying55 rfl (by kernel_rfl)) rfl ?_
 rw[HV.out,←HQ.out,←ak.out]
 exact zac rfl am.out (al.out.put D.out ..) (ao.out.put (by omega) ..)
theorem zuD (E:List Tk) (j:Nat) (N H z:Nat) (S:Sv) (q:PS) (d:Nat) (w:World) (hm:Mem (Cx.mk E j true) N H z S q w) (hk:((zf (Cx.mk E j true) q.pos).kind==2)=false) (ho:isT (Cx.mk E j true) q.pos 4 cOpen=false) (hp:q.pos<(Cx.mk E j true).ts.length) (hu:isT (Cx.mk E j true) q.pos 1 sUndef=false) (hn:plainB (Cx.mk E j true) q.pos false=true) (hd:isT (Cx.mk E j true) (q.pos+1) 4 cPoint=true):
  Calls Tryz.prog 128 #[pv (Cx.mk E j true) N H S q (-1) d] w (Out (Cx.mk E j true) N H z (pE (Cx.mk E j true) .part d q) d S w):=by
 have HM:=zc hm
 have ag:=hm.tok
 have L:(Cx.mk E j true).ts.length≤4000:=hm.few
 have aN:=(zan hm.tok).1
 clear hm
 have HV:Hid (pE (Cx.mk E j true) .part d q=bd (bd (.ok (adv (adv q))) (zk (Cx.mk E j true) true)) fun y=>za5 (Cx.mk E j true) (zf (Cx.mk E j true) q.pos).text y.2 y.1):=by show pE (Cx.mk E j true) .part d q=_;rw[zby,hk,ho,hu,zk,hn];show (if isT (Cx.mk E j true) (adv q).pos 4 cPoint then _ else _)=_;rw[zz,hd];rfl
 have aP:q.pos<E.length:=hp
 obtain⟨c0,_,_,_⟩:=ag.cells hp (d:=⟨0,sNone,0,(Cx.mk E j true).fin⟩)
 change _=some (Value.int .i64 (zf (Cx.mk E j true) q.pos).kind) at c0
 generalize (zf (Cx.mk E j true) q.pos).kind=kd at c0 hk
 unfold pv
 go_enter Tryz.func128,Tryz.ntmps128
 go_wp2_with fail
 refine (zj (Cx.mk E j true) N H z S q (-1) d 4 cOpen _ (zv (zv ag _) _) L (by decide)).mono ?_
 rintro e w1 ⟨rfl,av⟩
 rw[ho]
 obtain⟨X0,X1,m1,t1⟩:=HM.out.two av
 have D:=zc X0
 have o:=zc X1
 have ah:=zc m1
 have aq:=zc t1
 clear X0 X1 m1 t1 av
 obtain⟨a0,a1,a2,a3,a4,a5,a6,a7,a8,a9,aj,ak,af⟩:=D.out.box
 go_wp2_with fail
 refine (zj (Cx.mk E j true) N H z S q (-1) d 1 sUndef _ ah.out.tok L (by decide)).mono ?_
 rintro e w2 ⟨rfl,Z⟩
 rw[hu]
 replace D:=zc (D.out.below Z)
 replace o:=zc (o.out.below Z)
 have an:=zc (aq.out.below Z)
 have ap:=zc (ah.out.later Z)
 clear Z aq ah
 clear a0 a1 a2 a3 a4 a5 a6 a7 a8 a9 aj ak af
 obtain⟨a0,a1,a2,a3,a4,a5,a6,a7,a8,a9,aj,ak,af⟩:=D.out.box
 go_wp2_with fail
 refine (zbz (Cx.mk E j true) N H z (.ok q) S q (-1) d false _ (zab q) ap.out).mono ?_
 rintro e w3 ⟨S3,q3,z3,n3,rfl,i3,m3,s3⟩
 replace D:=zc (D.out.stp s3)
 replace o:=zc (o.out.stp s3)
 have az:=zc (an.out.step s3)
 clear an
 have ad:=zc m3
 have aw:=zc i3
 clear i3 m3 s3 ap
 clear a0 a1 a2 a3 a4 a5 a6 a7 a8 a9 aj ak af
 obtain⟨hq,rfl,al⟩:=zhr aw.out hn
 have HQ:=zc hq
 have ao:=zc al
 have ay:q3.pos=q.pos+1:=by rw[hq];rfl
 have am:isT (Cx.mk E j true) q3.pos 4 cPoint=true:=by rw[ay];exact hd
 clear hq al aw
 have aL:w.heap.size+1<w3.heap.size:=o.out.lt
 unfold pv
 clear ay
 go_wp2_with fail
 refine (zj (Cx.mk E j true) N H z S3 q3 (-1) d 4 cPoint _ (ad.out.alloc _).tok L (by decide)).mono ?_
 rintro e w4 ⟨rfl,Q⟩
 rw[am]
 replace D:=zc ((D.out.alloc _).below Q)
 replace o:=zc ((o.out.alloc _).below Q)
 replace I:=zc ((Bx.new ad.out _).below Q)
 have aB:Hid (SB w.heap.size S w S3 w4):=(az.out.alloc _).below Q
 have aA:Hid (Mem (Cx.mk E j true) N H z S3 q3 w4):=(ad.out.alloc _).later Q
 clear Q az ad
 obtain⟨c0,c1,c2,c3,c4,c5,c6,c7,c8,c9,aJ,aG,cf⟩:=I.out.box
 have ax:q3.pos<(Cx.mk E j true).ts.length:=za1 am (by decide)
 have aO:q3.pos<E.length:=ax
 go_wp2_with fail
 refine (zbz (Cx.mk E j true) N H z (.ok (adv q3)) S3 (adv q3) (-1) d true _ (zab _) ((aA.out.adv ax).set I.out 1 _)).mono ?_
 rintro e w5 ⟨S5,q5,z5,n5,rfl,i5,m5,s5⟩
 replace D:=zc ((D.out.set_other (by omega) 1 _).stp s5)
 replace o:=zc ((o.out.set_other (by omega) 1 _).stp s5)
 replace I:=zc ((I.out.at1 _).stp s5)
 have ae:Hid (SB w.heap.size S w S5 w5):=(aB.out.set (by omega) 1 _).step s5
 clear aB
 have M:=zc m5
 have Y:=zc i5
 clear i5 m5 s5 aA
 clear c0 c1 c2 c3 c4 c5 c6 c7 c8 c9 aJ aG cf
 have aM:w.heap.size+1<w5.heap.size:=o.out.lt
 have aD:w3.heap.size<w5.heap.size:=I.out.lt
 cases hc:(decide (z5<0)&&isT (Cx.mk E j true) q5.pos 4 cOpen) with
 |true=>
  unfold pv
  go_wp2_with fail
  refine (zj (Cx.mk E j true) N H z S5 q5 z5 d 4 cOpen _ (M.out.alloc _).tok L (by decide)).mono ?_
  rintro e w6 ⟨rfl,J⟩
  rw[hc]
  replace D:=zc ((D.out.alloc _).below J)
  replace o:=zc ((o.out.alloc _).below J)
  replace I:=zc ((I.out.alloc _).below J)
  replace K:=zc ((Bx.new M.out _).below J)
  have V:Hid (SB w.heap.size S w S5 w6):=(ae.out.alloc _).below J
  have X:Hid (Mem (Cx.mk E j true) N H z S5 q5 w6):=(M.out.alloc _).later J
  clear J ae M
  obtain⟨d0,d1,d2,d3,d4,d5,d6,d7,d8,d9,aa,U,df⟩:=K.out.box
  go_wp2_with fail
  refine (zah (Cx.mk E j true) N H z _ S5 q5 z5 d cOpen _ Y.out.fst X.out).mono ?_
  rintro e w7 ⟨S7,q7,z7,rfl,i7,m7,O⟩
  replace D:=zc (D.out.stp O)
  replace o:=zc (o.out.stp O)
  replace I:=zc (I.out.stp O)
  replace K:=zc (K.out.stp O)
  have ab:=zc (V.out.step O)
  clear V
  have ac:=zc m7
  have ai:=zc i7
  clear i7 m7 O X
  clear d0 d1 d2 d3 d4 d5 d6 d7 d8 d9 aa U df
  go_wp2_with fail
  refine (zah (Cx.mk E j true) N H z _ S7 q7 z7 d zU _ ai.out ac.out).mono ?_
  rintro e w8 ⟨S8,q8,z8,rfl,i8,m8,s8⟩
  replace D:=zc (D.out.stp s8)
  replace o:=zc (o.out.stp s8)
  replace I:=zc (I.out.stp s8)
  replace K:=zc (K.out.stp s8)
  have aC:=zc (ab.out.step s8)
  clear ab
  have au:=zc m8
  have ar:=zc i8
  clear i8 m8 s8 ac
  obtain⟨d0,d1,d2,d3,d4,d5,d6,d7,d8,d9,aa,U,df⟩:=K.out.box
  unfold pv
  go_wp2_with fail
  refine (zcX (Cx.mk E j true) N H z _ S8 q8 z8 d ⟨5,0,n3,n5,0,0⟩ _ ar.out (au.out.put K.out ..) (zb5 ar.out)).mono ?_
  rintro e w9 ⟨S9,q9,z9,rfl,i9,m9,s9⟩
  replace D:=zc ((D.out.other (by omega) ..).stp s9)
  replace o:=zc ((o.out.other (by omega) ..).stp s9)
  replace I:=zc ((I.out.other (by omega) ..).stp s9)
  replace K:=zc ((K.out.put ..).stp s9)
  have aI:Hid (SB w.heap.size S w S9 w9):=(aC.out.put (by omega) ..).step s9
  clear aC
  have aK:=zc m9
  have aE:=zc i9
  clear i9 m9 s9 au
  clear d0 d1 d2 d3 d4 d5 d6 d7 d8 d9 aa U df
  obtain⟨b0,b1,b2,b3,b4,b5,b6,b7,b8,b9,aH,aF,bf⟩:=o.out.box
  unfold pv
  go_wp2
  refine bodyPost_ret (results_cell_row rfl _ _ (w.heap.size+1) 55 _ (0,0) _ rfl ((o.out.put ..)).heap Tryz.underlying55 rfl (by kernel_rfl)) rfl ?_
  rw[HV.out,←HQ.out,←ao.out,←zm3 Y.out hc]
  exact zac rfl aE.out (aK.out.put o.out ..) (aI.out.put (by omega) ..)
 |false=>
  unfold pv
  go_wp2_with fail
  refine (zj (Cx.mk E j true) N H z S5 q5 z5 d 4 cOpen _ (M.out.alloc _).tok L (by decide)).mono ?_
  rintro e w6 ⟨rfl,J⟩
  rw[hc]
  replace D:=zc ((D.out.alloc _).below J)
  replace o:=zc ((o.out.alloc _).below J)
  replace I:=zc ((I.out.alloc _).below J)
  replace K:=zc ((Bx.new M.out _).below J)
  have V:Hid (SB w.heap.size S w S5 w6):=(ae.out.alloc _).below J
  have X:Hid (Mem (Cx.mk E j true) N H z S5 q5 w6):=(M.out.alloc _).later J
  clear J ae M
  obtain⟨d0,d1,d2,d3,d4,d5,d6,d7,d8,d9,aa,U,df⟩:=K.out.box
  go_wp2_with fail
  refine (zcX (Cx.mk E j true) N H z _ S5 q5 z5 d ⟨4,0,n3,n5,0,0⟩ _ Y.out.fst X.out (zm5 Y.out)).mono ?_
  rintro e w7 ⟨S7,q7,z7,rfl,i7,m7,O⟩
  replace D:=zc (D.out.stp O)
  replace o:=zc (o.out.stp O)
  replace I:=zc (I.out.stp O)
  replace K:=zc (K.out.stp O)
  have ab:=zc (V.out.step O)
  clear V
  have ac:=zc m7
  have ai:=zc i7
  clear i7 m7 O X
  clear d0 d1 d2 d3 d4 d5 d6 d7 d8 d9 aa U df
  obtain⟨b0,b1,b2,b3,b4,b5,b6,b7,b8,b9,aH,aF,bf⟩:=o.out.box
  unfold pv
  go_wp2
  refine bodyPost_ret (results_cell_row rfl _ _ (w.heap.size+1) 55 _ (0,0) _ rfl ((o.out.put ..)).heap Tryz.underlying55 rfl (by kernel_rfl)) rfl ?_
  rw[HV.out,←HQ.out,←ao.out,←zm4 Y.out hc]
  exact zac rfl ai.out (ac.out.put o.out ..) (ab.out.put (by omega) ..)
theorem zuE (o:List Tk) (j:Nat) (I E D:Nat) (S:Sv) (q:PS) (d:Nat) (w:World) (Q:Mem (Cx.mk o j false) I E D S q w) (hp: ¬q.pos<(Cx.mk o j false).ts.length):
  Calls Tryz.prog 128 #[pv (Cx.mk o j false) I E S q (-1) d] w (Out (Cx.mk o j false) I E D (pE (Cx.mk o j false) .part d q) d S w):=by
 have HM:=zc Q
 have Y:=Q.tok
 have L:(Cx.mk o j false).ts.length≤4000:=Q.few
 have ai:=(zan Q.tok).1
 clear Q
 have hk:((zf (Cx.mk o j false) q.pos).kind==2)=false:=by rw[zcT (by omega)];rfl
 have ho:isT (Cx.mk o j false) q.pos 4 cOpen=false:=zfA hp (by decide)
 have hu:isT (Cx.mk o j false) q.pos 1 sUndef=false:=zfA hp (by decide)
 have hn:plainB (Cx.mk o j false) q.pos false=false:=zhP hp
 have HV:Hid (pE (Cx.mk o j false) .part d q= .error (zu (Cx.mk o j false) q.pos)):=by show pE (Cx.mk o j false) .part d q=_;rw[zby,hk,ho,zk,hn];rfl
 have al: ¬q.pos<o.length:=hp
 unfold pv
 go_enter Tryz.func128,Tryz.ntmps128
 go_wp2_with fail
 refine (zj (Cx.mk o j false) I E D S q (-1) d 4 cOpen _ (zv (zv Y _) _) L (by decide)).mono ?_
 rintro e w1 ⟨rfl,X⟩
 rw[ho]
 obtain⟨K,U,m1,t1⟩:=HM.out.two X
 have H:=zc K
 have z:=zc U
 have M:=zc m1
 have V:=zc t1
 clear K U m1 t1 X
 obtain⟨a0,a1,a2,a3,a4,a5,a6,a7,a8,a9,ad,ae,af⟩:=H.out.box
 go_wp2_with fail
 refine (zbz (Cx.mk o j false) I E D (.ok q) S q (-1) d false _ (zab q) M.out).mono ?_
 rintro e w2 ⟨O,q2,z2,n2,rfl,i2,m2,Z⟩
 replace H:=zc (H.out.stp Z)
 replace z:=zc (z.out.stp Z)
 have N:=zc (V.out.step Z)
 clear V
 have J:=zc m2
 have aa:=zc i2
 clear i2 m2 Z M
 clear a0 a1 a2 a3 a4 a5 a6 a7 a8 a9 ad ae af
 obtain rfl:=zhs aa.out hn
 have dz:decide ((0:Int)≤(zu (Cx.mk o j false) q.pos:Int))=true:=decide_eq_true (by omega)
 have ah:w.heap.size+1<w2.heap.size:=z.out.lt
 unfold pv
 go_upto_region 17 with fail
 refine zQ (R:=fun W=>Bx I O W (w.heap.size) _∧Bx I O W (w.heap.size+1) _∧Bx I O W (w2.heap.size) _∧Mem (Cx.mk o j false) I E D O q2 W∧SB w.heap.size S w O W) ⟨(H.out.alloc _),(z.out.alloc _),(Bx.new J.out _),(J.out.alloc _),(N.out.alloc _)⟩ ?_
 clear H z N J
 rintro w3 ⟨K,U,X2,m3,t3⟩
 have H:=zc K
 have z:=zc U
 have ag:=zc X2
 have ab:=zc m3
 have ac:=zc t3
 clear m3 t3 K U X2
 obtain⟨b0,b1,b2,b3,b4,b5,b6,b7,b8,b9,am,aj,bf⟩:=z.out.box
 obtain⟨c0,c1,c2,c3,c4,c5,c6,c7,c8,c9,an,ak,cf⟩:=ag.out.box
 go_wp2
 refine bodyPost_ret (results_cell_row rfl _ _ (w.heap.size+1) 55 _ (0,0) _ rfl ((z.out.put ..)).heap Tryz.underlying55 rfl (by kernel_rfl)) rfl ?_
 rw[HV.out]
 exact zac rfl (show Is (.error (zu (Cx.mk o j false) q.pos)) q2 _ from rfl) (ab.out.put z.out ..) (ac.out.put (by omega) ..)
theorem zuF (o:List Tk) (j:Nat) (I E D:Nat) (S:Sv) (q:PS) (d:Nat) (w:World) (U:Mem (Cx.mk o j false) I E D S q w) (hk:((zf (Cx.mk o j false) q.pos).kind==2)=false) (ho:isT (Cx.mk o j false) q.pos 4 cOpen=false) (hp:q.pos<(Cx.mk o j false).ts.length) (hn:plainB (Cx.mk o j false) q.pos false=false):
  Calls Tryz.prog 128 #[pv (Cx.mk o j false) I E S q (-1) d] w (Out (Cx.mk o j false) I E D (pE (Cx.mk o j false) .part d q) d S w):=by
 have HM:=zc U
 have J:=U.tok
 have M:(Cx.mk o j false).ts.length≤4000:=U.few
 have ai:=(zan U.tok).1
 clear U
 have HV:Hid (pE (Cx.mk o j false) .part d q= .error (zu (Cx.mk o j false) q.pos)):=by show pE (Cx.mk o j false) .part d q=_;rw[zby,hk,ho,zk,hn];rfl
 have al:q.pos<o.length:=hp
 obtain⟨c0,_,_,_⟩:=J.cells hp (d:=⟨0,sNone,0,(Cx.mk o j false).fin⟩)
 change _=some (Value.int .i64 (zf (Cx.mk o j false) q.pos).kind) at c0
 generalize (zf (Cx.mk o j false) q.pos).kind=kd at c0 hk
 unfold pv
 go_enter Tryz.func128,Tryz.ntmps128
 go_wp2_with fail
 refine (zj (Cx.mk o j false) I E D S q (-1) d 4 cOpen _ (zv (zv J _) _) M (by decide)).mono ?_
 rintro e w1 ⟨rfl,Y⟩
 rw[ho]
 obtain⟨L,V,m1,t1⟩:=HM.out.two Y
 have H:=zc L
 have z:=zc V
 have N:=zc m1
 have X:=zc t1
 clear L V m1 t1 Y
 obtain⟨a0,a1,a2,a3,a4,a5,a6,a7,a8,a9,ad,ae,af⟩:=H.out.box
 go_wp2_with fail
 refine (zbz (Cx.mk o j false) I E D (.ok q) S q (-1) d false _ (zab q) N.out).mono ?_
 rintro e w2 ⟨Q,q2,z2,n2,rfl,i2,m2,Z⟩
 replace H:=zc (H.out.stp Z)
 replace z:=zc (z.out.stp Z)
 have O:=zc (X.out.step Z)
 clear X
 have K:=zc m2
 have aa:=zc i2
 clear i2 m2 Z N
 clear a0 a1 a2 a3 a4 a5 a6 a7 a8 a9 ad ae af
 obtain rfl:=zhs aa.out hn
 have dz:decide ((0:Int)≤(zu (Cx.mk o j false) q.pos:Int))=true:=decide_eq_true (by omega)
 have ah:w.heap.size+1<w2.heap.size:=z.out.lt
 unfold pv
 go_upto_region 17 with fail
 refine zQ (R:=fun W=>Bx I Q W (w.heap.size) _∧Bx I Q W (w.heap.size+1) _∧Bx I Q W (w2.heap.size) _∧Mem (Cx.mk o j false) I E D Q q2 W∧SB w.heap.size S w Q W) ⟨(H.out.alloc _),(z.out.alloc _),(Bx.new K.out _),(K.out.alloc _),(O.out.alloc _)⟩ ?_
 clear H z O K
 rintro w3 ⟨L,V,X2,m3,t3⟩
 have H:=zc L
 have z:=zc V
 have ag:=zc X2
 have ab:=zc m3
 have ac:=zc t3
 clear m3 t3 L V X2
 obtain⟨b0,b1,b2,b3,b4,b5,b6,b7,b8,b9,am,aj,bf⟩:=z.out.box
 obtain⟨c0,c1,c2,c3,c4,c5,c6,c7,c8,c9,an,ak,cf⟩:=ag.out.box
 go_wp2
 refine bodyPost_ret (results_cell_row rfl _ _ (w.heap.size+1) 55 _ (0,0) _ rfl ((z.out.put ..)).heap Tryz.underlying55 rfl (by kernel_rfl)) rfl ?_
 rw[HV.out]
 exact zac rfl (show Is (.error (zu (Cx.mk o j false) q.pos)) q2 _ from rfl) (ab.out.put z.out ..) (ac.out.put (by omega) ..)
theorem zm7 (J:List Tk) (o:Nat) (I D z:Nat) (S:Sv) (q:PS) (d:Nat) (w:World) (U:Mem (Cx.mk J o false) I D z S q w) (H:Nat):
  Calls Tryz.prog 128 #[pv (Cx.mk J o false) I D S q (H:Int) d] w (Out (Cx.mk J o false) I D z (.error H) d S w):=by
 have HM:=zc U
 have Z:=U.tok
 have M:(Cx.mk J o false).ts.length≤4000:=U.few
 have ai:=(zan U.tok).1
 clear U
 have hz: ¬(H:Int)<0:=by omega
 have hs: ∀k s,(decide ((H:Int)<0)&&isT (Cx.mk J o false) q.pos k s)=false:=fun k s=>by rw[decide_eq_false hz];rfl
 unfold pv
 go_enter Tryz.func128,Tryz.ntmps128
 go_wp2_with fail
 refine (zj (Cx.mk J o false) I D z S q (H:Int) d 4 cOpen _ (zv (zv Z _) _) M (by decide)).mono ?_
 rintro e w1 ⟨rfl,Y⟩
 rw[hs]
 obtain⟨L,V,m1,t1⟩:=HM.out.two Y
 have E:=zc L
 have j:=zc V
 have N:=zc m1
 have X:=zc t1
 clear L V m1 t1 Y
 obtain⟨a0,a1,a2,a3,a4,a5,a6,a7,a8,a9,ad,ae,af⟩:=E.out.box
 go_wp2_with fail
 refine (zbz (Cx.mk J o false) I D z (.error H) S q (H:Int) d false _ (show Is (.error H) q _ from rfl) N.out).mono ?_
 rintro e w2 ⟨Q,q2,z2,n2,rfl,i2,m2,s2⟩
 replace E:=zc (E.out.stp s2)
 replace j:=zc (j.out.stp s2)
 have O:=zc (X.out.step s2)
 clear X
 have K:=zc m2
 have aa:=zc i2
 clear i2 m2 s2 N
 clear a0 a1 a2 a3 a4 a5 a6 a7 a8 a9 ad ae af
 obtain rfl:z2=(H:Int):=aa.out
 have dz:decide ((0:Int)≤(H:Int))=true:=decide_eq_true (by omega)
 have ah:w.heap.size+1<w2.heap.size:=j.out.lt
 unfold pv
 go_upto_region 17 with fail
 refine zQ (R:=fun W=>Bx I Q W (w.heap.size) _∧Bx I Q W (w.heap.size+1) _∧Bx I Q W (w2.heap.size) _∧Mem (Cx.mk J o false) I D z Q q2 W∧SB w.heap.size S w Q W) ⟨(E.out.alloc _),(j.out.alloc _),(Bx.new K.out _),(K.out.alloc _),(O.out.alloc _)⟩ ?_
 clear E j O K
 rintro w3 ⟨L,V,X2,m3,t3⟩
 have E:=zc L
 have j:=zc V
 have ag:=zc X2
 have ab:=zc m3
 have ac:=zc t3
 clear m3 t3 L V X2
 obtain⟨b0,b1,b2,b3,b4,b5,b6,b7,b8,b9,al,aj,bf⟩:=j.out.box
 obtain⟨c0,c1,c2,c3,c4,c5,c6,c7,c8,c9,am,ak,cf⟩:=ag.out.box
 go_wp2
 refine bodyPost_ret (results_cell_row rfl _ _ (w.heap.size+1) 55 _ (0,0) _ rfl ((j.out.put ..)).heap Tryz.underlying55 rfl (by kernel_rfl)) rfl ?_
 exact zac rfl (show Is (.error H) q2 _ from rfl) (ab.out.put j.out ..) (ac.out.put (by omega) ..)
theorem zuG (o:List Tk) (j:Nat) (L E z:Nat) (S:Sv) (q:PS) (d:Nat) (w:World) (Y:Mem (Cx.mk o j false) L E z S q w) (hk:((zf (Cx.mk o j false) q.pos).kind==2)=false) (ho:isT (Cx.mk o j false) q.pos 4 cOpen=false) (hp:q.pos<(Cx.mk o j false).ts.length) (hn:plainB (Cx.mk o j false) q.pos false=true) (hd:isT (Cx.mk o j false) (q.pos+1) 4 cPoint=false):
  Calls Tryz.prog 128 #[pv (Cx.mk o j false) L E S q (-1) d] w (Out (Cx.mk o j false) L E z (pE (Cx.mk o j false) .part d q) d S w):=by
 have HM:=zc Y
 have M:=Y.tok
 have K:(Cx.mk o j false).ts.length≤4000:=Y.few
 have ap:=(zan Y.tok).1
 clear Y
 have HV:Hid (pE (Cx.mk o j false) .part d q=zau (Cx.mk o j false) (zf (Cx.mk o j false) q.pos).text (adv q)):=by show pE (Cx.mk o j false) .part d q=_;rw[zby,hk,ho,zk,hn];show (if isT (Cx.mk o j false) (adv q).pos 4 cPoint then _ else _)=_;rw[zz,hd];rfl
 have ar:q.pos<o.length:=hp
 obtain⟨c0,_,_,_⟩:=M.cells hp (d:=⟨0,sNone,0,(Cx.mk o j false).fin⟩)
 change _=some (Value.int .i64 (zf (Cx.mk o j false) q.pos).kind) at c0
 generalize (zf (Cx.mk o j false) q.pos).kind=kd at c0 hk
 unfold pv
 go_enter Tryz.func128,Tryz.ntmps128
 go_wp2_with fail
 refine (zj (Cx.mk o j false) L E z S q (-1) d 4 cOpen _ (zv (zv M _) _) K (by decide)).mono ?_
 rintro e w1 ⟨rfl,aa⟩
 rw[ho]
 obtain⟨X0,X1,m1,t1⟩:=HM.out.two aa
 have H:=zc X0
 have D:=zc X1
 have V:=zc m1
 have Z:=zc t1
 clear X0 X1 m1 t1 aa
 obtain⟨a0,a1,a2,a3,a4,a5,a6,a7,a8,a9,aj,al,af⟩:=H.out.box
 go_wp2_with fail
 refine (zbz (Cx.mk o j false) L E z (.ok q) S q (-1) d false _ (zab q) V.out).mono ?_
 rintro e w2 ⟨S2,q2,z2,n2,rfl,i2,m2,s2⟩
 replace H:=zc (H.out.stp s2)
 replace D:=zc (D.out.stp s2)
 have X:=zc (Z.out.step s2)
 clear Z
 have J:=zc m2
 have O:=zc i2
 clear i2 m2 s2 V
 clear a0 a1 a2 a3 a4 a5 a6 a7 a8 a9 aj al af
 obtain⟨hq,rfl,U⟩:=zhr O.out hn
 have HQ:=zc hq
 have ag:=zc U
 have ac:q2.pos=q.pos+1:=by rw[hq];rfl
 have ae:isT (Cx.mk o j false) q2.pos 4 cPoint=false:=by rw[ac];exact hd
 clear hq U O
 have ao:w.heap.size+1<w2.heap.size:=D.out.lt
 unfold pv
 clear ac
 go_wp2_with fail
 refine (zj (Cx.mk o j false) L E z S2 q2 (-1) d 4 cPoint _ (J.out.alloc _).tok K (by decide)).mono ?_
 rintro e w3 ⟨rfl,I⟩
 rw[ae]
 replace H:=zc ((H.out.alloc _).below I)
 replace D:=zc ((D.out.alloc _).below I)
 replace N:=zc ((Bx.new J.out _).below I)
 have ad:Hid (SB w.heap.size S w S2 w3):=(X.out.alloc _).below I
 have ab:Hid (Mem (Cx.mk o j false) L E z S2 q2 w3):=(J.out.alloc _).later I
 clear I X J
 obtain⟨c0,c1,c2,c3,c4,c5,c6,c7,c8,c9,an,ah,cf⟩:=N.out.box
 go_wp2_with fail
 refine (zjf (Cx.mk o j false) L E z S2 q2 d n2 _ ab.out (by rw[HQ.out];simp[adv])).mono ?_
 rintro e w4 ⟨S4,q4,z4,rfl,i4,m4,Q⟩
 replace H:=zc (H.out.stp Q)
 replace D:=zc (D.out.stp Q)
 replace N:=zc (N.out.stp Q)
 have am:=zc (ad.out.step Q)
 clear ad
 have ak:=zc m4
 have ai:=zc i4
 clear i4 m4 Q ab
 clear c0 c1 c2 c3 c4 c5 c6 c7 c8 c9 an ah cf
 obtain⟨b0,b1,b2,b3,b4,b5,b6,b7,b8,b9,au,aq,bf⟩:=D.out.box
 unfold pv
 go_wp2
 refine bodyPost_ret (results_cell_row rfl _ _ (w.heap.size+1) 55 _ (0,0) _ rfl ((D.out.put ..)).heap Tryz.underlying55 rfl (by kernel_rfl)) rfl ?_
 rw[HV.out,←HQ.out,←ag.out]
 exact zac rfl ai.out (ak.out.put D.out ..) (am.out.put (by omega) ..)
theorem zuH (E:List Tk) (j:Nat) (M I z:Nat) (S:Sv) (q:PS) (d:Nat) (w:World) (hm:Mem (Cx.mk E j false) M I z S q w) (hk:((zf (Cx.mk E j false) q.pos).kind==2)=false) (ho:isT (Cx.mk E j false) q.pos 4 cOpen=false) (hp:q.pos<(Cx.mk E j false).ts.length) (hn:plainB (Cx.mk E j false) q.pos false=true) (hd:isT (Cx.mk E j false) (q.pos+1) 4 cPoint=true):
  Calls Tryz.prog 128 #[pv (Cx.mk E j false) M I S q (-1) d] w (Out (Cx.mk E j false) M I z (pE (Cx.mk E j false) .part d q) d S w):=by
 have HM:=zc hm
 have ae:=hm.tok
 have N:(Cx.mk E j false).ts.length≤4000:=hm.few
 have aK:=(zan hm.tok).1
 clear hm
 have HV:Hid (pE (Cx.mk E j false) .part d q=bd (bd (.ok (adv (adv q))) (zk (Cx.mk E j false) true)) fun y=>za5 (Cx.mk E j false) (zf (Cx.mk E j false) q.pos).text y.2 y.1):=by show pE (Cx.mk E j false) .part d q=_;rw[zby,hk,ho,zk,hn];show (if isT (Cx.mk E j false) (adv q).pos 4 cPoint then _ else _)=_;rw[zz,hd];rfl
 have aM:q.pos<E.length:=hp
 obtain⟨c0,_,_,_⟩:=ae.cells hp (d:=⟨0,sNone,0,(Cx.mk E j false).fin⟩)
 change _=some (Value.int .i64 (zf (Cx.mk E j false) q.pos).kind) at c0
 generalize (zf (Cx.mk E j false) q.pos).kind=kd at c0 hk
 unfold pv
 go_enter Tryz.func128,Tryz.ntmps128
 go_wp2_with fail
 refine (zj (Cx.mk E j false) M I z S q (-1) d 4 cOpen _ (zv (zv ae _) _) N (by decide)).mono ?_
 rintro e w1 ⟨rfl,ar⟩
 rw[ho]
 obtain⟨X0,X1,m1,t1⟩:=HM.out.two ar
 have D:=zc X0
 have o:=zc X1
 have ak:=zc m1
 have ap:=zc t1
 clear X0 X1 m1 t1 ar
 obtain⟨a0,a1,a2,a3,a4,a5,a6,a7,a8,a9,aE,aF,af⟩:=D.out.box
 go_wp2_with fail
 refine (zbz (Cx.mk E j false) M I z (.ok q) S q (-1) d false _ (zab q) ak.out).mono ?_
 rintro e w2 ⟨S2,q2,z2,n2,rfl,i2,m2,s2⟩
 replace D:=zc (D.out.stp s2)
 replace o:=zc (o.out.stp s2)
 have am:=zc (ap.out.step s2)
 clear ap
 have ab:=zc m2
 have ah:=zc i2
 clear i2 m2 s2 ak
 clear a0 a1 a2 a3 a4 a5 a6 a7 a8 a9 aE aF af
 obtain⟨hq,rfl,aj⟩:=zhr ah.out hn
 have HQ:=zc hq
 have an:=zc aj
 have aw:q2.pos=q.pos+1:=by rw[hq];rfl
 have al:isT (Cx.mk E j false) q2.pos 4 cPoint=true:=by rw[aw];exact hd
 clear hq aj ah
 have aI:w.heap.size+1<w2.heap.size:=o.out.lt
 unfold pv
 clear aw
 go_wp2_with fail
 refine (zj (Cx.mk E j false) M I z S2 q2 (-1) d 4 cPoint _ (ab.out.alloc _).tok N (by decide)).mono ?_
 rintro e w3 ⟨rfl,Q⟩
 rw[al]
 replace D:=zc ((D.out.alloc _).below Q)
 replace o:=zc ((o.out.alloc _).below Q)
 replace H:=zc ((Bx.new ab.out _).below Q)
 have ax:Hid (SB w.heap.size S w S2 w3):=(am.out.alloc _).below Q
 have au:Hid (Mem (Cx.mk E j false) M I z S2 q2 w3):=(ab.out.alloc _).later Q
 clear Q am ab
 obtain⟨c0,c1,c2,c3,c4,c5,c6,c7,c8,c9,aG,aC,cf⟩:=H.out.box
 have av:q2.pos<(Cx.mk E j false).ts.length:=za1 al (by decide)
 have aL:q2.pos<E.length:=av
 go_wp2_with fail
 refine (zbz (Cx.mk E j false) M I z (.ok (adv q2)) S2 (adv q2) (-1) d true _ (zab _) ((au.out.adv av).set H.out 1 _)).mono ?_
 rintro e w4 ⟨S4,q4,z4,n4,rfl,i4,m4,s4⟩
 replace D:=zc ((D.out.set_other (by omega) 1 _).stp s4)
 replace o:=zc ((o.out.set_other (by omega) 1 _).stp s4)
 replace H:=zc ((H.out.at1 _).stp s4)
 have ad:Hid (SB w.heap.size S w S4 w4):=(ax.out.set (by omega) 1 _).step s4
 clear ax
 have L:=zc m4
 have X:=zc i4
 clear i4 m4 s4 au
 clear c0 c1 c2 c3 c4 c5 c6 c7 c8 c9 aG aC cf
 have aJ:w.heap.size+1<w4.heap.size:=o.out.lt
 have ay:w2.heap.size<w4.heap.size:=H.out.lt
 cases hc:(decide (z4<0)&&isT (Cx.mk E j false) q4.pos 4 cOpen) with
 |true=>
  unfold pv
  go_wp2_with fail
  refine (zj (Cx.mk E j false) M I z S4 q4 z4 d 4 cOpen _ (L.out.alloc _).tok N (by decide)).mono ?_
  rintro e w5 ⟨rfl,J⟩
  rw[hc]
  replace D:=zc ((D.out.alloc _).below J)
  replace o:=zc ((o.out.alloc _).below J)
  replace H:=zc ((H.out.alloc _).below J)
  replace K:=zc ((Bx.new L.out _).below J)
  have Z:Hid (SB w.heap.size S w S4 w5):=(ad.out.alloc _).below J
  have V:Hid (Mem (Cx.mk E j false) M I z S4 q4 w5):=(L.out.alloc _).later J
  clear J ad L
  obtain⟨d0,d1,d2,d3,d4,d5,d6,d7,d8,d9,Y,U,df⟩:=K.out.box
  go_wp2_with fail
  refine (zah (Cx.mk E j false) M I z _ S4 q4 z4 d cOpen _ X.out.fst V.out).mono ?_
  rintro e w6 ⟨S6,q6,z6,rfl,i6,m6,O⟩
  replace D:=zc (D.out.stp O)
  replace o:=zc (o.out.stp O)
  replace H:=zc (H.out.stp O)
  replace K:=zc (K.out.stp O)
  have aa:=zc (Z.out.step O)
  clear Z
  have ac:=zc m6
  have ag:=zc i6
  clear i6 m6 O V
  clear d0 d1 d2 d3 d4 d5 d6 d7 d8 d9 Y U df
  go_wp2_with fail
  refine (zah (Cx.mk E j false) M I z _ S6 q6 z6 d zU _ ag.out ac.out).mono ?_
  rintro e w7 ⟨S7,q7,z7,rfl,i7,m7,s7⟩
  replace D:=zc (D.out.stp s7)
  replace o:=zc (o.out.stp s7)
  replace H:=zc (H.out.stp s7)
  replace K:=zc (K.out.stp s7)
  have ai:=zc (aa.out.step s7)
  clear aa
  have ao:=zc m7
  have aq:=zc i7
  clear i7 m7 s7 ac
  obtain⟨d0,d1,d2,d3,d4,d5,d6,d7,d8,d9,Y,U,df⟩:=K.out.box
  unfold pv
  go_wp2_with fail
  refine (zcX (Cx.mk E j false) M I z _ S7 q7 z7 d ⟨5,0,n2,n4,0,0⟩ _ aq.out (ao.out.put K.out ..) (zb5 aq.out)).mono ?_
  rintro e w8 ⟨S8,q8,z8,rfl,i8,m8,s8⟩
  replace D:=zc ((D.out.other (by omega) ..).stp s8)
  replace o:=zc ((o.out.other (by omega) ..).stp s8)
  replace H:=zc ((H.out.other (by omega) ..).stp s8)
  replace K:=zc ((K.out.put ..).stp s8)
  have aH:Hid (SB w.heap.size S w S8 w8):=(ai.out.put (by omega) ..).step s8
  clear ai
  have aA:=zc m8
  have az:=zc i8
  clear i8 m8 s8 ao
  clear d0 d1 d2 d3 d4 d5 d6 d7 d8 d9 Y U df
  obtain⟨b0,b1,b2,b3,b4,b5,b6,b7,b8,b9,aD,aB,bf⟩:=o.out.box
  unfold pv
  go_wp2
  refine bodyPost_ret (results_cell_row rfl _ _ (w.heap.size+1) 55 _ (0,0) _ rfl ((o.out.put ..)).heap Tryz.underlying55 rfl (by kernel_rfl)) rfl ?_
  rw[HV.out,←HQ.out,←an.out,←zm3 X.out hc]
  exact zac rfl az.out (aA.out.put o.out ..) (aH.out.put (by omega) ..)
 |false=>
  unfold pv
  go_wp2_with fail
  refine (zj (Cx.mk E j false) M I z S4 q4 z4 d 4 cOpen _ (L.out.alloc _).tok N (by decide)).mono ?_
  rintro e w5 ⟨rfl,J⟩
  rw[hc]
  replace D:=zc ((D.out.alloc _).below J)
  replace o:=zc ((o.out.alloc _).below J)
  replace H:=zc ((H.out.alloc _).below J)
  replace K:=zc ((Bx.new L.out _).below J)
  have Z:Hid (SB w.heap.size S w S4 w5):=(ad.out.alloc _).below J
  have V:Hid (Mem (Cx.mk E j false) M I z S4 q4 w5):=(L.out.alloc _).later J
  clear J ad L
  obtain⟨d0,d1,d2,d3,d4,d5,d6,d7,d8,d9,Y,U,df⟩:=K.out.box
  go_wp2_with fail
  refine (zcX (Cx.mk E j false) M I z _ S4 q4 z4 d ⟨4,0,n2,n4,0,0⟩ _ X.out.fst V.out (zm5 X.out)).mono ?_
  rintro e w6 ⟨S6,q6,z6,rfl,i6,m6,O⟩
  replace D:=zc (D.out.stp O)
  replace o:=zc (o.out.stp O)
  replace H:=zc (H.out.stp O)
  replace K:=zc (K.out.stp O)
  have aa:=zc (Z.out.step O)
  clear Z
  have ac:=zc m6
  have ag:=zc i6
  clear i6 m6 O V
  clear d0 d1 d2 d3 d4 d5 d6 d7 d8 d9 Y U df
  obtain⟨b0,b1,b2,b3,b4,b5,b6,b7,b8,b9,aD,aB,bf⟩:=o.out.box
  unfold pv
  go_wp2
  refine bodyPost_ret (results_cell_row rfl _ _ (w.heap.size+1) 55 _ (0,0) _ rfl ((o.out.put ..)).heap Tryz.underlying55 rfl (by kernel_rfl)) rfl ?_
  rw[HV.out,←HQ.out,←an.out,←zm4 X.out hc]
  exact zac rfl ag.out (ac.out.put o.out ..) (aa.out.put (by omega) ..)
def zjg (C:Cx) (gt cap base m:Nat):Prop:=∀(x:PR) (S:Sv) (q:PS) (z:Int) (d:Nat) (w:World),Is x q z→Mem C gt cap base S q w→(z<0→C.ts.length-q.pos<m)→d≤20→
 Calls Tryz.prog 128 #[pv C gt cap S q z d] w (Out C gt cap base (bd x (pE C .part d)) d S w)
def zm8 (C:Cx) (gt cap base m:Nat):Prop:=∀(x:PR) (S:Sv) (q:PS) (z:Int) (d:Nat) (w:World),Is x q z→Mem C gt cap base S q w→(z<0→C.ts.length-q.pos<m)→d≤20→
 Calls Tryz.prog 102 #[pv C gt cap S q z d] w (Out C gt cap base (bd x (pE C .prod d)) d S w)
theorem SumOK.mono {C:Cx} {D o j m k:Nat} (h:SumOK C D o j m) (H:k≤m):SumOK C D o j k:=fun x S q z d w K I E J=>h x S q z d w K I (fun g=>Nat.lt_of_lt_of_le (E g) H) J
theorem zuI {C:Cx} {H D j m:Nat} (Y:SumOK C H D j m):zjg C H D j (m+1):=by
 intro x S q z d w X I Z hd
 by_cases V:z<0
 ·obtain⟨rfl,rfl⟩:=zaF X V
  rw[zh]
  have Q:SumOK C H D j (C.ts.length-q.pos):=Y.mono (by have:=Z V;omega)
  cases J:((zf C q.pos).kind==2) with
  |true=>exact zu6 C H D j S q d w I J
  |false=>
   cases L:isT C q.pos 4 cOpen with
   |true=>
    by_cases U:20≤d
    ·exact zu7 C H D j S q d w I J L U hd
    ·exact zu8 C H D j S q d w I J L (by omega) Q
   |false=>
    obtain⟨E,o,N⟩:=C
    cases N with
    |true=>
     by_cases K:q.pos<E.length
     ·cases O:isT (Cx.mk E o true) q.pos 1 sUndef with
      |true=>exact zuB E o H D j S q d w I J L K O
      |false=>
       cases M:plainB (Cx.mk E o true) q.pos false with
       |false=>exact zuA E o H D j S q d w I J L K O M
       |true=>
        cases hd:isT (Cx.mk E o true) (q.pos+1) 4 cPoint with
        |false=>exact zuC E o H D j S q d w I J L K O M hd
        |true=>exact zuD E o H D j S q d w I J L K O M hd
     ·exact zu9 E o H D j S q d w I K
    |false=>
     by_cases K:q.pos<E.length
     ·cases M:plainB (Cx.mk E o false) q.pos false with
      |false=>exact zuF E o H D j S q d w I J L K M
      |true=>
       cases hd:isT (Cx.mk E o false) (q.pos+1) 4 cPoint with
       |false=>exact zuG E o H D j S q d w I J L K M hd
       |true=>exact zuH E o H D j S q d w I J L K M hd
     ·exact zuE E o H D j S q d w I K
 ·obtain⟨e,rfl,rfl⟩:=zd2 X V
  rw[zec]
  obtain⟨E,o,N⟩:=C
  cases N with
  |true=>exact zm6 E o H D j S q d w I e
  |false=>exact zm7 E o H D j S q d w I e
theorem zjh {C:Cx} {x:PR} {q:PS} {z:Int} (h:Is x q z) (F:PS→Ex):bd x (zJ C (F q))=bd x fun q'=>zJ C (F q') q':=by
 cases x with
 |ok a=>obtain⟨rfl,_⟩:=h;rfl
 |error e=>rfl
theorem zm9 {C:Cx} {y:PS→Ex} {x:PR} {q:PS} {n:Nat} (j: ∀a,x= .ok a→n≤a.pos) (h:(bd x fun q'=>zJ C (y q') q')= .ok q):n≤q.pos:=by
 obtain⟨a,z,o⟩:=ze h
 obtain⟨rfl,_⟩:=zbx o
 exact j a z
theorem zuJ {C:Cx} {d m:Nat} {x:PR} {q q1:PS} {z j:Int} (E:Is x q z) (H:Is (bd x (pE C .part d)) q1 j) (J:z<0→C.ts.length-q.pos<m) (I:j<0):C.ts.length-q1.pos<m:=by
 obtain⟨e,_⟩:=zaF H I
 obtain⟨a,o,D⟩:=ze e
 subst o
 obtain⟨rfl,rfl⟩:=E
 have:=zbr D
 have:=J (by decide)
 omega
theorem zuK {C:Cx} {d m:Nat} {x:PR} {q q1:PS} {z j:Int} (E:Is x q z) (H:Is (bd x (pE C .prod d)) q1 j) (J:z<0→C.ts.length-q.pos<m) (I:j<0):C.ts.length-q1.pos<m:=by
 obtain⟨e,_⟩:=zaF H I
 obtain⟨a,o,D⟩:=ze e
 subst o
 obtain⟨rfl,rfl⟩:=E
 have:=zbr D
 have:=J (by decide)
 omega
theorem zuL {C:Cx} {d:Nat} {j q:PS} {z:Int} (h:Is (bd (.ok (adv j)) (pE C .part d)) q z) (o:z<0):1≤q.pos:=by
 obtain⟨e,_⟩:=zaF h o
 have:=zbr (show pE C .part d (adv j)= .ok q from e)
 rw[zz] at this
 omega
theorem zmA {C:Cx} {d:Nat} {j q:PS} {z:Int} (h:Is (bd (.ok (adv j)) (pE C .prod d)) q z) (o:z<0):1≤q.pos:=by
 obtain⟨e,_⟩:=zaF h o
 have:=zbr (show pE C .prod d (adv j)= .ok q from e)
 rw[zz] at this
 omega
theorem zuM {C:Cx} {d:Nat} {F:PS→Ex} {j q:PS} {z:Int} (h:Is (bd (bd (.ok (adv j)) (pE C .part d)) fun q'=>zJ C (F q') q') q z) (o:z<0):j.pos+1≤q.pos:=by
 obtain⟨e,_⟩:=zaF h o
 exact zm9 (fun a D=>by have:=zbr (show pE C .part d (adv j)= .ok a from D);rw[zz] at this;exact this) e
theorem zmB {C:Cx} {d:Nat} {F:PS→Ex} {j q:PS} {z:Int} (h:Is (bd (bd (.ok (adv j)) (pE C .prod d)) fun q'=>zJ C (F q') q') q z) (o:z<0):j.pos+1≤q.pos:=by
 obtain⟨e,_⟩:=zaF h o
 exact zm9 (fun a D=>by have:=zbr (show pE C .prod d (adv j)= .ok a from D);rw[zz] at this;exact this) e
theorem zuN {C:Cx} {d:Nat} {q:PS} (j:isT C q.pos 4 zp=true) (_:q.pos<C.ts.length):
  bd (.ok q) (pE C .prodT d)=bd (bd (bd (.ok (adv q)) (pE C .part d)) fun q'=>zJ C ⟨8,0,sNone,sNone,(q.ex.length:Int)-1,(q'.ex.length:Int)-1⟩ q') (pE C .prodT d):=by
 show pE C .prodT d q=_
 rw[zeK,if_pos j]
 rfl
theorem zmC {C:Cx} {d:Nat} {q:PS} {k:Int} (j:(isT C q.pos 4 zbq||isT C q.pos 4 zaI)=true) (o:zbw C q.pos=k) (_:q.pos<C.ts.length):
  bd (.ok q) (pE C .sumT d)=bd (bd (bd (.ok (adv q)) (pE C .prod d)) fun q'=>zJ C ⟨k,0,sNone,sNone,(q.ex.length:Int)-1,(q'.ex.length:Int)-1⟩ q') (pE C .sumT d):=by
 show pE C .sumT d q=_
 rw[zee,if_pos j,o]
 rfl
theorem zuO {C:Cx} {d:Nat} {x:PR} {q:PS} {z:Int} (o:Is x q z) (j:(decide (z<0)&&isT C q.pos 4 zp)=false):Is (bd x (pE C .prodT d)) q z:=by
 cases x with
 |ok a=>
  obtain⟨rfl,rfl⟩:=o
  rw[Bool.and_eq_false_iff] at j
  rw[zh,zeK,j.resolve_left (by decide)]
  exact⟨rfl,rfl⟩
 |error e=>exact o
theorem zuP {C:Cx} {d:Nat} {x:PR} {q:PS} {z:Int} (D:Is x q z) (o:(decide (z<0)&&isT C q.pos 4 zbq)=false) (j:(decide (z<0)&&isT C q.pos 4 zaI)=false):Is (bd x (pE C .sumT d)) q z:=by
 cases x with
 |ok a=>
  obtain⟨rfl,rfl⟩:=D
  rw[Bool.and_eq_false_iff] at o j
  rw[zh,zee,o.resolve_left (by decide),j.resolve_left (by decide)]
  exact⟨rfl,rfl⟩
 |error e=>exact D
theorem zuQ {C:Cx} {i:Nat} (h:isT C i 4 zbq=true):isT C i 4 zaI=false:=by
 simp only[isT,Bool.and_eq_true,beq_iff_eq] at h
 simp only[isT,h.2]
 rw[Bool.and_eq_false_iff]
 exact .inr (by simp)
theorem zmD {C:Cx} {O J H m:Nat} (hP:zjg C O J H m):zm8 C O J H m:=by
 intro x S q z d w hx hm hl ag
 have HP:=zc hP
 have HM:=zc hm
 have HX:=zc hx
 have HL:=zc hl
 have ad:=hm.few
 clear hP hm hx hl
 unfold pv
 go_enter Tryz.func102,Tryz.ntmps102
 go_wp2_with fail
 refine (HP.out x S q z d _ HX.out ((HM.out.alloc _).alloc _) HL.out ag).mono ?_
 rintro e w1 ⟨S1,q1,z1,rfl,i1,m1,s1⟩
 obtain⟨X0,X1,t1⟩:=HM.out.two2 s1
 have j:=zc X0
 have o:=zc X1
 have ar:=zc m1
 have av:=zc t1
 have ak:=zc i1
 clear X0 X1 i1 m1 t1 s1
 obtain⟨V,Y,Q,N,a4,a5,X,a7,U,a9,D,E,af⟩:=j.out.box
 unfold pv
 go_wp2
 go_loopg [] (C.ts.length+1) (fun k wr=>∃(x':PR) (L:Sv) (K:PS) (z':Int),Is x' K z'∧bd x' (pE C .prodT d)=bd x (pE C .prod d)∧(z'<0→C.ts.length-K.pos<k)∧(z'<0→C.ts.length-K.pos<m)∧Mem C O J H L K wr∧SB w.heap.size S w L wr∧Bx O L wr w.heap.size #[.slice (some ⟨O,0,none⟩) C.ts.length J,.int .i64 K.pos,.int .i64 C.fin,.bool C.scr,.slice L.rq.a K.rq.length L.rq.cap,.slice L.im.a K.im.length L.im.cap,.slice L.ep.a K.ep.length L.ep.cap,.slice L.st.a K.st.length L.st.cap,.slice L.ex.a K.ex.length L.ex.cap,.slice L.la.a K.la.length L.la.cap,.int .i64 z',.int .i64 d]∧Bx O L wr (w.heap.size+1) #[.slice none 0 0,.int .i64 0,.int .i64 0,.bool false,.slice none 0 0,.slice none 0 0,.slice none 0 0,.slice none 0 0,.slice none 0 0,.slice none 0 0,.int .i64 0,.int .i64 0])
 case atStart=>exact⟨_,S1,q1,z1,ak.out,by rw[zR];exact zaf fun a _=>(zf4 C d a).symm,fun _=>by omega,fun hz=>zuJ HX.out ak.out HL.out hz,(ar.out.put j.out ..),(av.out.put (by omega) ..),(j.out.put ..),(o.out.other (by omega) ..)⟩
 case round=>
  obtain⟨x2,S2,Z,z2,i2,e2,l2,b2,m2,t2,X0,X1⟩:=hrel
  have j:=zc X0
  have o:=zc X1
  have M:=zc m2
  have aa:=zc t2
  have aj:=zc i2
  have ao:=zc e2
  have aw:=zc l2
  have ax:=zc b2
  have az:=m2.inv.ex
  clear X0 X1 i2 m2 t2 e2 l2 b2
  cases hc:(decide (z2<0)&&isT C Z.pos 4 zp) with
  |true=>
   obtain⟨V,Y,Q,N,a4,a5,X,a7,U,a9,D,E,af⟩:=j.out.box
   go_wp2_with fail
   refine (zj C O J H S2 Z z2 d 4 zp _ M.out.tok ad (by decide)).mono ?_
   rintro e w3 ⟨rfl,I⟩
   rw[hc]
   replace j:=zc (j.out.below I)
   replace o:=zc (o.out.below I)
   have ac:=zc (aa.out.below I)
   have ab:=zc (M.out.later I)
   clear I aa M
   clear V Y Q N a4 a5 X a7 U a9 D E af
   rw[Bool.and_eq_true,decide_eq_true_eq] at hc
   obtain⟨hz,hs⟩:=hc
   have hp:Z.pos<C.ts.length:=za1 hs (by decide)
   obtain⟨rfl,rfl⟩:=zaF aj.out hz
   have aD:=aw.out hz
   have aA:=ax.out hz
   skip
   obtain⟨V,Y,Q,N,a4,a5,X,a7,U,a9,D,E,af⟩:=j.out.box
   go_wp2_with fail
   refine (HP.out (.ok (adv Z)) S2 (adv Z) (-1) d _ (zab _) ((ab.out.adv hp).set j.out 1 _) (fun _=>by rw[zz];omega) ag).mono ?_
   rintro e w4 ⟨S4,q4,z4,rfl,i4,m4,s4⟩
   replace j:=zc ((j.out.at1 _).stp s4)
   replace o:=zc ((o.out.set_other (by omega) 1 _).stp s4)
   have an:Hid (SB w.heap.size S w S4 w4):=(ac.out.set (by omega) 1 _).step s4
   clear ac
   have am:=zc m4
   have ai:=zc i4
   clear i4 m4 s4 ab
   clear V Y Q N a4 a5 X a7 U a9 D E af
   obtain⟨V,Y,Q,N,a4,a5,X,a7,U,a9,D,E,af⟩:=j.out.box
   unfold pv
   go_upto_region 6 with fail
   refine zQ (R:=fun W=>Bx O S4 W (w.heap.size) _∧Bx O S4 W (w.heap.size+1) _∧Mem C O J H S4 q4 W∧SB w.heap.size S w S4 W) ⟨(j.out.put ..),(o.out.other (by omega) ..),(am.out.put j.out ..),(an.out.put (by omega) ..)⟩ ?_
   clear V Y Q N a4 a5 X a7 U a9 D E af
   clear j o an am
   rintro w5 ⟨X0,X1,m5,t5⟩
   have j:=zc X0
   have o:=zc X1
   have ah:=zc m5
   have al:=zc t5
   clear m5 t5 X0 X1
   obtain⟨V,Y,Q,N,a4,a5,X,a7,U,a9,D,E,af⟩:=j.out.box
   have ay:=ah.out.inv.ex
   go_wp2_with fail
   refine (zcX C O J H _ S4 q4 z4 d ⟨8,0,sNone,sNone,(Z.ex.length:Int)-1,(q4.ex.length:Int)-1⟩ _ ai.out ah.out (fun h=>zuL ai.out h)).mono ?_
   rintro e w6 ⟨S6,q6,z6,rfl,i6,m6,s6⟩
   replace j:=zc (j.out.stp s6)
   replace o:=zc (o.out.stp s6)
   have ap:=zc (al.out.step s6)
   clear al
   have au:=zc m6
   have aq:=zc i6
   clear i6 m6 s6 ah
   clear V Y Q N a4 a5 X a7 U a9 D E af
   have HI:Hid (Is (bd (bd (.ok (adv Z)) (pE C .part d)) fun K=>zJ C ⟨8,0,sNone,sNone,(Z.ex.length:Int)-1,(K.ex.length:Int)-1⟩ K) q6 z6):=by rw[←zjh ai.out (fun K=>⟨8,0,sNone,sNone,(Z.ex.length:Int)-1,(K.ex.length:Int)-1⟩)];exact aq.out
   have ae:Hid (z6<0→Z.pos+1≤q6.pos):=fun h=>zuM HI.out h
   obtain⟨V,Y,Q,N,a4,a5,X,a7,U,a9,D,E,af⟩:=j.out.box
   unfold pv
   go_wp2
   go_roundg (gk-1)
   case rel=>exact⟨_,S6,q6,z6,HI.out,by rw[←ao.out];exact (zuN (d:=d) hs hp).symm,fun h=>by have:=ae.out h;omega,fun h=>by have:=ae.out h;omega,(au.out.put j.out ..),(ap.out.put (by omega) ..),(j.out.put ..),(o.out.other (by omega) ..)⟩
   case measure=>omega
  |false=>
   obtain⟨V,Y,Q,N,a4,a5,X,a7,U,a9,D,E,af⟩:=j.out.box
   go_wp2_with fail
   refine (zj C O J H S2 Z z2 d 4 zp _ M.out.tok ad (by decide)).mono ?_
   rintro e w3 ⟨rfl,I⟩
   rw[hc]
   replace j:=zc (j.out.below I)
   replace o:=zc (o.out.below I)
   have ac:=zc (aa.out.below I)
   have ab:=zc (M.out.later I)
   clear I aa M
   clear V Y Q N a4 a5 X a7 U a9 D E af
   obtain⟨V,Y,Q,N,a4,a5,X,a7,U,a9,D,E,af⟩:=j.out.box
   obtain⟨b0,b1,b2,b3,b4,b5,b6,b7,b8,b9,aC,aB,bf⟩:=o.out.box
   go_wp2
   refine bodyPost_ret (results_cell_row rfl _ _ (w.heap.size+1) 55 _ (0,0) _ rfl ((o.out.put ..)).heap Tryz.underlying55 rfl (by kernel_rfl)) rfl ?_
   exact zac rfl (show Is (bd x (pE C .prod d)) Z z2 from by rw[←ao.out];exact zuO aj.out hc) (ab.out.put o.out ..) (ac.out.put (by omega) ..)
theorem zmE {C:Cx} {gt K H m:Nat} (hP:zm8 C gt K H m):SumOK C gt K H m:=by
 intro x S q z d w hx hm hl ao
 have HP:=zc hP
 have HM:=zc hm
 have HX:=zc hx
 have HL:=zc hl
 have ac:=hm.few
 clear hP hm hx hl
 unfold pv
 go_enter Tryz.func53,Tryz.ntmps53
 go_wp2_with fail
 refine (HP.out x S q z d _ HX.out ((HM.out.alloc _).alloc _) HL.out ao).mono ?_
 rintro e w1 ⟨S1,q1,z1,rfl,i1,m1,s1⟩
 obtain⟨X0,X1,t1⟩:=HM.out.two2 s1
 have j:=zc X0
 have o:=zc X1
 have aE:=zc m1
 have aF:=zc t1
 have aB:=zc i1
 clear X0 X1 i1 m1 t1 s1
 obtain⟨O,U,M,L,a4,X,Q,Y,N,Z,D,E,V⟩:=j.out.box
 unfold pv
 go_wp2
 go_loopg [] (C.ts.length+1) (fun k wr=>∃(x':PR) (S':Sv) (q':PS) (z':Int),Is x' q' z'∧bd x' (pE C .sumT d)=bd x (pE C .sum d)∧(z'<0→C.ts.length-q'.pos<k)∧(z'<0→C.ts.length-q'.pos<m)∧Mem C gt K H S' q' wr∧SB w.heap.size S w S' wr∧Bx gt S' wr w.heap.size #[.slice (some ⟨gt,0,none⟩) C.ts.length K,.int .i64 q'.pos,.int .i64 C.fin,.bool C.scr,.slice S'.rq.a q'.rq.length S'.rq.cap,.slice S'.im.a q'.im.length S'.im.cap,.slice S'.ep.a q'.ep.length S'.ep.cap,.slice S'.st.a q'.st.length S'.st.cap,.slice S'.ex.a q'.ex.length S'.ex.cap,.slice S'.la.a q'.la.length S'.la.cap,.int .i64 z',.int .i64 d]∧Bx gt S' wr (w.heap.size+1) #[.slice none 0 0,.int .i64 0,.int .i64 0,.bool false,.slice none 0 0,.slice none 0 0,.slice none 0 0,.slice none 0 0,.slice none 0 0,.slice none 0 0,.int .i64 0,.int .i64 0])
 case atStart=>exact⟨_,S1,q1,z1,aB.out,by rw[zR];exact zaf fun a _=>(zh9 C d a).symm,fun _=>by omega,fun hz=>zuK HX.out aB.out HL.out hz,(aE.out.put j.out ..),(aF.out.put (by omega) ..),(j.out.put ..),(o.out.other (by omega) ..)⟩
 case round=>
  obtain⟨x2,S2,J,z2,i2,e2,l2,b2,m2,t2,X0,X1⟩:=hrel
  have j:=zc X0
  have o:=zc X1
  have aj:=zc m2
  have au:=zc t2
  have av:=zc i2
  have ay:=zc e2
  have aC:=zc l2
  have aD:=zc b2
  have aM:=m2.inv.ex
  clear X0 X1 i2 m2 t2 e2 l2 b2
  cases hc:(decide (z2<0)&&isT C J.pos 4 zbq) with
  |true=>
   obtain⟨O,U,M,L,a4,X,Q,Y,N,Z,D,E,V⟩:=j.out.box
   go_wp2_with fail
   refine (zj C gt K H S2 J z2 d 4 zbq _ aj.out.tok ac (by decide)).mono ?_
   rintro e w3 ⟨rfl,aa⟩
   rw[hc]
   replace j:=zc (j.out.below aa)
   replace o:=zc (o.out.below aa)
   have ah:=zc (au.out.below aa)
   have ab:=zc (aj.out.later aa)
   clear aa au aj
   clear O U M L a4 X Q Y N Z D E V
   rw[Bool.and_eq_true,decide_eq_true_eq] at hc
   obtain⟨hz,hs⟩:=hc
   have aA:isT C J.pos 4 zaI=false:=zuQ hs
   have ad:(decide (z2<0)&&isT C J.pos 4 zaI)=false:=by rw[aA,Bool.and_false]
   obtain⟨O,U,M,L,a4,X,Q,Y,N,Z,D,E,V⟩:=j.out.box
   go_wp2_with fail
   refine (zj C gt K H S2 J z2 d 4 zaI _ ab.out.tok ac (by decide)).mono ?_
   rintro e w4 ⟨rfl,I⟩
   rw[ad]
   replace j:=zc (j.out.below I)
   replace o:=zc (o.out.below I)
   have ai:=zc (ah.out.below I)
   have ag:=zc (ab.out.later I)
   clear I ah ab
   clear O U M L a4 X Q Y N Z D E V
   clear ad
   have hp:J.pos<C.ts.length:=za1 hs (by decide)
   obtain⟨rfl,rfl⟩:=zaF av.out hz
   have aK:=aC.out hz
   have aI:=aD.out hz
   skip
   obtain⟨O,U,M,L,a4,X,Q,Y,N,Z,D,E,V⟩:=j.out.box
   go_wp2_with fail
   refine (HP.out (.ok (adv J)) S2 (adv J) (-1) d _ (zab _) ((ag.out.adv hp).set j.out 1 _) (fun _=>by rw[zz];omega) ao).mono ?_
   rintro e w5 ⟨S5,q5,z5,rfl,i5,m5,s5⟩
   replace j:=zc ((j.out.at1 _).stp s5)
   replace o:=zc ((o.out.set_other (by omega) 1 _).stp s5)
   have ap:Hid (SB w.heap.size S w S5 w5):=(ai.out.set (by omega) 1 _).step s5
   clear ai
   have am:=zc m5
   have ax:=zc i5
   clear i5 m5 s5 ag
   clear O U M L a4 X Q Y N Z D E V
   obtain⟨O,U,M,L,a4,X,Q,Y,N,Z,D,E,V⟩:=j.out.box
   unfold pv
   go_upto_region 9 with fail
   refine zQ (R:=fun W=>Bx gt S5 W (w.heap.size) _∧Bx gt S5 W (w.heap.size+1) _∧Mem C gt K H S5 q5 W∧SB w.heap.size S w S5 W) ⟨(j.out.put ..),(o.out.other (by omega) ..),(am.out.put j.out ..),(ap.out.put (by omega) ..)⟩ ?_
   clear O U M L a4 X Q Y N Z D E V
   clear j o ap am
   rintro w6 ⟨X0,X1,m6,t6⟩
   have j:=zc X0
   have o:=zc X1
   have ak:=zc m6
   have al:=zc t6
   clear m6 t6 X0 X1
   obtain⟨O,U,M,L,a4,X,Q,Y,N,Z,D,E,V⟩:=j.out.box
   have az:=ak.out.inv.ex
   go_wp2_with fail
   refine (zcX C gt K H _ S5 q5 z5 d ⟨6,0,sNone,sNone,(J.ex.length:Int)-1,(q5.ex.length:Int)-1⟩ _ ax.out ak.out (fun h=>zmA ax.out h)).mono ?_
   rintro e w7 ⟨S7,q7,z7,rfl,i7,m7,s7⟩
   replace j:=zc (j.out.stp s7)
   replace o:=zc (o.out.stp s7)
   have ar:=zc (al.out.step s7)
   clear al
   have an:=zc m7
   have aJ:=zc i7
   clear i7 m7 s7 ak
   clear O U M L a4 X Q Y N Z D E V
   have HI:Hid (Is (bd (bd (.ok (adv J)) (pE C .prod d)) fun q'=>zJ C ⟨6,0,sNone,sNone,(J.ex.length:Int)-1,(q'.ex.length:Int)-1⟩ q') q7 z7):=by rw[←zjh ax.out (fun q'=>⟨6,0,sNone,sNone,(J.ex.length:Int)-1,(q'.ex.length:Int)-1⟩)];exact aJ.out
   have ae:Hid (z7<0→J.pos+1≤q7.pos):=fun h=>zmB HI.out h
   obtain⟨O,U,M,L,a4,X,Q,Y,N,Z,D,E,V⟩:=j.out.box
   unfold pv
   go_wp2
   go_roundg (gk-1)
   case rel=>exact⟨_,S7,q7,z7,HI.out,by rw[←ay.out];exact (zmC (d:=d) (by rw[hs];rfl) (show zbw C J.pos=6 by rw[zbw,aA];rfl) hp).symm,fun h=>by have:=ae.out h;omega,fun h=>by have:=ae.out h;omega,(an.out.put j.out ..),(ar.out.put (by omega) ..),(j.out.put ..),(o.out.other (by omega) ..)⟩
   case measure=>omega
  |false=>
   obtain⟨O,U,M,L,a4,X,Q,Y,N,Z,D,E,V⟩:=j.out.box
   go_wp2_with fail
   refine (zj C gt K H S2 J z2 d 4 zbq _ aj.out.tok ac (by decide)).mono ?_
   rintro e w3 ⟨rfl,aa⟩
   rw[hc]
   replace j:=zc (j.out.below aa)
   replace o:=zc (o.out.below aa)
   have ah:=zc (au.out.below aa)
   have ab:=zc (aj.out.later aa)
   clear aa au aj
   clear O U M L a4 X Q Y N Z D E V
   cases ad:(decide (z2<0)&&isT C J.pos 4 zaI) with
   |true=>
    obtain⟨O,U,M,L,a4,X,Q,Y,N,Z,D,E,V⟩:=j.out.box
    go_wp2_with fail
    refine (zj C gt K H S2 J z2 d 4 zaI _ ab.out.tok ac (by decide)).mono ?_
    rintro e w4 ⟨rfl,I⟩
    rw[ad]
    replace j:=zc (j.out.below I)
    replace o:=zc (o.out.below I)
    have ai:=zc (ah.out.below I)
    have ag:=zc (ab.out.later I)
    clear I ah ab
    clear O U M L a4 X Q Y N Z D E V
    obtain⟨O,U,M,L,a4,X,Q,Y,N,Z,D,E,V⟩:=j.out.box
    go_wp2_with fail
    refine (zj C gt K H S2 J z2 d 4 zaI _ ag.out.tok ac (by decide)).mono ?_
    rintro e w5 ⟨rfl,aq⟩
    rw[ad]
    replace j:=zc (j.out.below aq)
    replace o:=zc (o.out.below aq)
    have ap:=zc (ai.out.below aq)
    have am:=zc (ag.out.later aq)
    clear aq ai ag
    clear O U M L a4 X Q Y N Z D E V
    rw[Bool.and_eq_true,decide_eq_true_eq] at ad
    obtain⟨hz,hs⟩:=ad
    have hp:J.pos<C.ts.length:=za1 hs (by decide)
    obtain⟨rfl,rfl⟩:=zaF av.out hz
    have aK:=aC.out hz
    have aI:=aD.out hz
    skip
    obtain⟨O,U,M,L,a4,X,Q,Y,N,Z,D,E,V⟩:=j.out.box
    go_wp2_with fail
    refine (HP.out (.ok (adv J)) S2 (adv J) (-1) d _ (zab _) ((am.out.adv hp).set j.out 1 _) (fun _=>by rw[zz];omega) ao).mono ?_
    rintro e w6 ⟨S6,q6,z6,rfl,i6,m6,s6⟩
    replace j:=zc ((j.out.at1 _).stp s6)
    replace o:=zc ((o.out.set_other (by omega) 1 _).stp s6)
    have al:Hid (SB w.heap.size S w S6 w6):=(ap.out.set (by omega) 1 _).step s6
    clear ap
    have ak:=zc m6
    have aw:=zc i6
    clear i6 m6 s6 am
    clear O U M L a4 X Q Y N Z D E V
    obtain⟨O,U,M,L,a4,X,Q,Y,N,Z,D,E,V⟩:=j.out.box
    unfold pv
    go_upto_region 9 with fail
    refine zQ (R:=fun W=>Bx gt S6 W (w.heap.size) _∧Bx gt S6 W (w.heap.size+1) _∧Mem C gt K H S6 q6 W∧SB w.heap.size S w S6 W) ⟨(j.out.put ..),(o.out.other (by omega) ..),(ak.out.put j.out ..),(al.out.put (by omega) ..)⟩ ?_
    clear O U M L a4 X Q Y N Z D E V
    clear j o al ak
    rintro w7 ⟨X0,X1,m7,t7⟩
    have j:=zc X0
    have o:=zc X1
    have an:=zc m7
    have ar:=zc t7
    clear m7 t7 X0 X1
    obtain⟨O,U,M,L,a4,X,Q,Y,N,Z,D,E,V⟩:=j.out.box
    have az:=an.out.inv.ex
    go_wp2_with fail
    refine (zcX C gt K H _ S6 q6 z6 d ⟨7,0,sNone,sNone,(J.ex.length:Int)-1,(q6.ex.length:Int)-1⟩ _ aw.out an.out (fun h=>zmA aw.out h)).mono ?_
    rintro e w8 ⟨S8,q8,z8,rfl,i8,m8,s8⟩
    replace j:=zc (j.out.stp s8)
    replace o:=zc (o.out.stp s8)
    have aL:=zc (ar.out.step s8)
    clear ar
    have aH:=zc m8
    have aG:=zc i8
    clear i8 m8 s8 an
    clear O U M L a4 X Q Y N Z D E V
    have HI:Hid (Is (bd (bd (.ok (adv J)) (pE C .prod d)) fun q'=>zJ C ⟨7,0,sNone,sNone,(J.ex.length:Int)-1,(q'.ex.length:Int)-1⟩ q') q8 z8):=by rw[←zjh aw.out (fun q'=>⟨7,0,sNone,sNone,(J.ex.length:Int)-1,(q'.ex.length:Int)-1⟩)];exact aG.out
    have ae:Hid (z8<0→J.pos+1≤q8.pos):=fun h=>zmB HI.out h
    obtain⟨O,U,M,L,a4,X,Q,Y,N,Z,D,E,V⟩:=j.out.box
    unfold pv
    go_wp2
    go_roundg (gk-1)
    case rel=>exact⟨_,S8,q8,z8,HI.out,by rw[←ay.out];exact (zmC (d:=d) (by rw[hs,Bool.or_true]) (show zbw C J.pos=7 by rw[zbw,hs];rfl) hp).symm,fun h=>by have:=ae.out h;omega,fun h=>by have:=ae.out h;omega,(aH.out.put j.out ..),(aL.out.put (by omega) ..),(j.out.put ..),(o.out.other (by omega) ..)⟩
    case measure=>omega
   |false=>
    obtain⟨O,U,M,L,a4,X,Q,Y,N,Z,D,E,V⟩:=j.out.box
    go_wp2_with fail
    refine (zj C gt K H S2 J z2 d 4 zaI _ ab.out.tok ac (by decide)).mono ?_
    rintro e w4 ⟨rfl,I⟩
    rw[ad]
    replace j:=zc (j.out.below I)
    replace o:=zc (o.out.below I)
    have ai:=zc (ah.out.below I)
    have ag:=zc (ab.out.later I)
    clear I ah ab
    clear O U M L a4 X Q Y N Z D E V
    obtain⟨O,U,M,L,a4,X,Q,Y,N,Z,D,E,V⟩:=j.out.box
    obtain⟨b0,b1,b2,b3,b4,b5,b6,b7,b8,b9,aO,aN,bf⟩:=o.out.box
    go_wp2
    refine bodyPost_ret (results_cell_row rfl _ _ (w.heap.size+1) 55 _ (0,0) _ rfl ((o.out.put ..)).heap Tryz.underlying55 rfl (by kernel_rfl)) rfl ?_
    exact zac rfl (show Is (bd x (pE C .sum d)) J z2 from by rw[←ay.out];exact zuP av.out hc ad) (ag.out.put o.out ..) (ai.out.put (by omega) ..)
theorem zuR (C:Cx) (E o j:Nat):zjg C E o j 0:=by
 intro x S q z d w L I M hd
 by_cases K:z<0
 ·have:=M K
  omega
 ·obtain⟨e,rfl,rfl⟩:=zd2 L K
  rw[zec]
  obtain⟨J,D,H⟩:=C
  cases H with
  |true=>exact zm6 J D E o j S q d w I e
  |false=>exact zm7 J D E o j S q d w I e
theorem zuS (C:Cx) (z o j:Nat) (m:Nat):SumOK C z o j m:=by
 induction m with
 |zero=>exact zmE (zmD (zuR C z o j))
 |succ m D=>exact zmE (zmD (zuI D))
theorem zdp (C:Cx) (D o j:Nat) (x:PR) (S:Sv) (q:PS) (z:Int) (w:World) (H:Is x q z) (E:Mem C D o j S q w):
  Calls Tryz.prog 53 #[pv C D o S q z 0] w (Out C D o j (bd x (pE C .sum 0)) 0 S w):=
 zuS C D o j (C.ts.length+1) x S q z 0 w H E (fun _=>by omega) (by omega)
end Go.Proofs.YthfeoomfiafldaaGreat
