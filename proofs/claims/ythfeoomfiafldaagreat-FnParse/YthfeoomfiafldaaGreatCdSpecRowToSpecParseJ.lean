/-
  A row of pairs of names beside a program under way. No program is spoken of but for the numbers of its types.
  What spec's l4Tail answers: the walk.
  What spec's l4List answers: the walk.
  What spec's l4Part answers,if l4Sum answers so behind it: the walks.
  What spec's l4Part answers where no number and no bracket stands,in a script: the walks.
  What spec's l4Part answers where no number and no bracket stands: the walks.
  What spec's l4Part,l4Product and l4Sum answer: the walks of the two loops,and the three together.
-/
import Derived.Deep.DeepCutAuto
import Derived.Test.YthfeoomfiafldaaGreatCdModOkImplToSpecBox
namespace Go.Proofs.YthfeoomfiafldaaGreat
set_option maxRecDepth 100000
set_option maxHeartbeats 6400000
open Go.RowKit Go.PlainAid
structure Row (S:Sv) (w:World) (base B:Nat) (r:Rw) (l:List Ep):Prop where
 own:OwnR w base 77 4 r l.length (l.flatMap epL)
 free: ∀k,r.blk=some k→¬S.has k
 new: ∀k,r.blk=some k→B≤k
 addr: ∃g,r.a=some ⟨g,0,none⟩
theorem Row.ne {D b:Nat} {S:Sv} {w:World} {j B:Nat} {r:Rw} {l:List Ep} {cs:Array Value} (h:Row S w j B r l) (o:Bx D S w b cs): ∀k,r.blk=some k→k≠b:=by
 rintro k z rfl
 obtain⟨_,_,c,g⟩:=h.own.typed z
 rw[o.heap] at g
 simp only[Option.some.injEq,Obj.cells.injEq] at g
 exact absurd g.2.1 (by decide)
theorem Row.stp {S D:Sv} {w z:World} {j B:Nat} {r:Rw} {l:List Ep} (h:Row S w j B r l) (s:Stp S w D z):Row D z j B r l:=
 ⟨h.own.keep fun k o=>s.block k (h.own.typed o).2.1 (h.free k o),fun k o g=>(s.sub k g).elim (h.free k o) fun E=>by have:=(h.own.typed o).2.1;omega,h.new,h.addr⟩
theorem Row.below {S:Sv} {w o:World} {j B:Nat} {r:Rw} {l:List Ep} (h:Row S w j B r l) (s:Below w.heap.size w o):Row S o j B r l:=h.stp (Stp.below s)
theorem Row.alloc {S:Sv} {w:World} {j B:Nat} {r:Rw} {l:List Ep} (h:Row S w j B r l) (o:Obj):Row S (w.alloc o) j B r l:=h.below ((Below.refl _ _).alloc (Nat.le_refl _) _)
theorem Row.drew {S:Sv} {w:World} {j B:Nat} {r:Rw} {l:List Ep} (h:Row S w j B r l):Row S w.drew j B r l:=⟨h.own,h.free,h.new,h.addr⟩
theorem Row.set {D b:Nat} {S:Sv} {w:World} {j B:Nat} {r:Rw} {l:List Ep} {cs:Array Value} (h:Row S w j B r l) (o:Bx D S w b cs) (i:Nat) (u:Value):Row S (w.setCell ⟨b,i,none⟩ u) j B r l:=
 ⟨h.own.keep fun k z=>zx (h.ne o k z),h.free,h.new,h.addr⟩
theorem Row.put {V b:Nat} {S:Sv} {w:World} {j B:Nat} {r:Rw} {l:List Ep} {cs:Array Value} (h:Row S w j B r l) (D:Bx V S w b cs) (E M L Q K J O N H U o z:Value):Row S (set12 w b E M L Q K J O N H U o z) j B r l:=
 ⟨h.own.keep fun k I=>zgi (h.ne D k I) _ _ _ _ _ _ _ _ _ _ _ _,h.free,h.new,h.addr⟩
theorem Row.nil {C:Cx} {D z j B:Nat} {S:Sv} {q:PS} {w:World} (h:Mem C D z j S q w) (E:B≤w.heap.size):Row S (w.alloc (.cells #[] 77 (0,0))) j B ⟨some ⟨w.heap.size,0,none⟩,0⟩ []:=by
 refine⟨World.ownsRow_lit w #[] 0 h.base (by unfold maxLen;omega) rfl,fun k o g=>?_,fun k o=>?_,⟨_,rfl⟩⟩
 ·simp only[Rw.blk,Value.ownBlock,Option.some.injEq] at o
  have:=(h.own.has g).2
  omega
 ·simp only[Rw.blk,Value.ownBlock,Option.some.injEq] at o
  omega
theorem Row.grow {C:Cx} {M E j B:Nat} {S:Sv} {q:PS} {W H:World} {r J:Rw} {l:List Ep} {x:Ep} (h:Row S W j B r l) (D:Mem C M E j S q W) (V:B≤W.heap.size) (O:W.grownBy H r.blk) (N:OwnR H j 77 4 J (l.length+1) (l.flatMap epL++epL x)) (I:J.blk=r.blk∨J.blk=some W.heap.size):
  Row S H j B J (l++[x])∧Mem C M E j S q H:=by
 refine⟨⟨?_,fun k z g=>?_,fun k z=>?_,N.addr.resolve_left (by omega)⟩,?_⟩
 ·have e:(l++[x]).length=l.length+1:=by simp
  rw[e]
  simpa using N
 ·rcases I with e|e
  ·exact h.free k (by rw[←e];exact z) g
  ·have Q:W.heap.size=k:=Option.some.inj (e.symm.trans z)
   have:=(D.own.has g).2
   omega
 ·rcases I with e|e
  ·exact h.new k (by rw[←e];exact z)
  ·have Q:W.heap.size=k:=Option.some.inj (e.symm.trans z)
   omega
 ·have o: ∀k,k<W.heap.size→r.blk≠some k→H.heap[k]? =W.heap[k]?:=fun k z L=>O.block k z fun e=>L e.symm
  refine⟨D.own.keep fun k z=>o k (D.own.has z).2 fun e=>h.free k e z,D.inv,zbJ D.tok (o M (zan D.tok).1 fun e=>?_),D.few,Nat.le_trans D.base O.size⟩
  obtain⟨_,_,c,g⟩:=h.own.typed e
  obtain⟨U,K⟩:=zgy D.tok
  rw[g] at K
  simp only[Option.some.injEq,Obj.cells.injEq] at K
  exact absurd K.2.1 (by decide)
theorem Row.bx {D b:Nat} {S:Sv} {W z:World} {o B:Nat} {r:Rw} {l:List Ep} {cs:Array Value} (h:Row S W o B r l) (j:Bx D S W b cs) (E:W.grownBy z r.blk):Bx D S z b cs:=
 ⟨(E.block b j.lt fun e=>h.ne j b e.symm rfl).trans j.heap,j.free,j.ne⟩
theorem Row.sb {S S0:Sv} {w W D:World} {o:Nat} {B:Nat} {r:Rw} {l:List Ep} (h:Row S W o B r l) (j:SB B S0 w S W) (z:W.grownBy D r.blk):SB B S0 w S D:=
 ⟨z.os.trans j.os,z.tape.trans j.tape,z.output.trans j.output,Nat.le_trans j.size z.size,j.low,fun k E H=>(z.block k (by have:=j.size;have:=j.low;omega) fun e=>by have:=h.new k e.symm;omega).trans (j.block k E H),j.sub⟩
theorem Mem.list3 {C:Cx} {H E j:Nat} {S o:Sv} {q:PS} {w z:World} {D cb:Array Value} (h:Mem C H E j S q w) (s:Stp S (((w.alloc (.cells D 55 (0,0))).alloc (.cells cb 55 (0,0))).alloc (.cells #[] 77 (0,0))) o z):
  Bx H o z w.heap.size D∧Bx H o z (w.heap.size+1) cb∧Row o z j w.heap.size ⟨some ⟨w.heap.size+1+1,0,none⟩,0⟩ []∧SB w.heap.size S w o z:=by
 refine⟨(((Bx.new h _).alloc _).alloc _).stp s,?_,?_,(SB.start (zcW w _ _ _)).step s⟩
 ·have:=((Bx.new (h.alloc (.cells D 55 (0,0))) cb).alloc (.cells #[] 77 (0,0))).stp s
  rw[zW] at this
  exact this
 ·have:=(Row.nil (B:=w.heap.size) ((h.alloc (.cells D 55 (0,0))).alloc (.cells cb 55 (0,0))) (zcD w _ _).size).stp s
  rw[zcG] at this
  exact this
def Is3 (y:PRL) (q:PS) (z:Int) (l:List Ep):Prop:=
 match y with
 | .ok a=>q=a.1∧z= -1∧l=a.2
 | .error e=>z=(e:Int)
def zuz (C:Cx) (gt cap base:Nat) (y:PRL) (d:Nat) (S:Sv) (w:World) (e:Ending) (w':World):Prop:=
 ∃S' q' z' r l,e= .returned (.tuple #[pv C gt cap S' q' z' d,.slice r.a l.length r.cap,.bool (za2 l)])∧Is3 y q' z' l∧Mem C gt cap base S' q' w'∧Stp S w S' w'∧Row S' w' base w.heap.size r l∧l.length≤4001
theorem zmz (l:List Ep) (x:Ep):za2 (l++[x])=(za2 l||(x.loc.toList==[100,101,102,97,117,108,116])):=by simp[za2]
theorem zu0 {z:Func} {p u v:Tmp} {o:TypeId} (h:z.results= #[.cell p o,.tmp u,.tmp v]) (tmps:Array Value) (P:Program) (w:World):
  (results z tmps).run P w=((asAddr (tmps.getD p undef)).run P w).andThen fun a D=>((loadVar o a).run P D).andThen fun x j=>.ok (.tuple #[x,tmps.getD u undef,tmps.getD v undef]) j:=by
 simp only[results,h]
 simp[Sem.run_bind,Result.andThen]
theorem zm0 {P:Program} {o:Func} {p u v:Tmp} {j:TypeId} (h:o.results= #[.cell p j,.tmp u,.tmp v]) (tmps:Array Value) (w:World) (g:Nat) (t:TypeId) (cs:Array Value) (z:Nat×Nat) (d:TypeDesc)
  (H:tmps.getD p undef= .pointer (some ⟨g,0,none⟩)) (I:w.heap[g]? =some (.cells cs t z))
  (D:P.underlying j=some d) (hd:(match d with| .struct _| .array _ _=>true|_=>false)=true) (E:(P.info? j).map (·.size)=some cs.size):
  (results o tmps).run P w= .ok (.tuple #[.agg cs,tmps.getD u undef,tmps.getD v undef]) w:=by
 rw[zu0 h,H]
 simp[asAddr,Result.andThen,run_loadVar_row w g t j cs z d I D hd E]
theorem zb5 {C:Cx} {x:PR} {k:Int} {s:ByteArray} {q:PS} {z:Int} (h:Is (bd x (zd C k s)) q z):z<0→1≤q.pos:=by
 intro j
 obtain⟨e,_⟩:=zaF h j
 obtain⟨a,_,o⟩:=ze e
 obtain⟨rfl,_⟩:=zbh o
 simp[adv]
theorem zjf (C:Cx) (M D z:Nat) (S:Sv) (q:PS) (d:Nat) (nm:ByteArray) (w:World) (hm:Mem C M D z S q w) (hp:1≤q.pos):
  Calls Tryz.prog 144 #[pv C M D S q (-1) d,.string nm] w (Out C M D z (zau C nm q) d S w):=by
 have HM:=zc hm
 have E:=hm.tok
 have U:=hm.few
 clear hm
 cases hi:isT C q.pos 4 cOpen with
 |true=>
  have HV:Hid (zau C nm q=bd (bd (bd (.ok q) (zd C 4 cOpen)) (zd C 4 zU)) (zJ C ⟨3,0,nm,sNone,0,0⟩)):=if_pos hi
  unfold pv
  go_enter Tryz.func144,Tryz.ntmps144
  go_wp2_with fail
  refine (zj C M D z S q (-1) d 4 cOpen _ (zv (zv E _) _) U (by decide)).mono ?_
  rintro e w1 ⟨rfl,K⟩
  rw[hi]
  obtain⟨Y,X1,m1,t1⟩:=HM.out.two K
  have o:=zc Y
  have j:=zc X1
  have I:=zc m1
  have L:=zc t1
  clear Y X1 m1 t1 K
  clear E
  obtain⟨a0,a1,X,a3,a4,a5,a6,a7,a8,a9,H,J,af⟩:=o.out.box
  go_wp2_with fail
  refine (zah C M D z (.ok q) S q (-1) d cOpen _ (zab q) I.out).mono ?_
  rintro e w2 ⟨S2,q2,z2,rfl,i2,m2,O⟩
  replace o:=zc (o.out.stp O)
  replace j:=zc (j.out.stp O)
  have N:=zc (L.out.step O)
  clear L
  have Q:=zc m2
  have V:=zc i2
  clear i2 m2 O I
  clear a0 a1 X a3 a4 a5 a6 a7 a8 a9 H J af
  go_wp2_with fail
  refine (zah C M D z _ S2 q2 z2 d zU _ V.out Q.out).mono ?_
  rintro e w3 ⟨S3,q3,z3,rfl,i3,m3,s3⟩
  replace o:=zc (o.out.stp s3)
  replace j:=zc (j.out.stp s3)
  have aa:=zc (N.out.step s3)
  clear N
  have ab:=zc m3
  have Z:=zc i3
  clear i3 m3 s3 Q
  obtain⟨a0,a1,X,a3,a4,a5,a6,a7,a8,a9,H,J,af⟩:=o.out.box
  unfold pv
  go_wp2_with fail
  refine (zcX C M D z _ S3 q3 z3 d ⟨3,0,nm,sNone,0,0⟩ _ Z.out (ab.out.put o.out ..) (zb5 Z.out)).mono ?_
  rintro e w4 ⟨S4,q4,z4,rfl,i4,m4,s4⟩
  replace o:=zc ((o.out.put ..).stp s4)
  replace j:=zc ((j.out.other (by omega) ..).stp s4)
  have ad:Hid (SB w.heap.size S w S4 w4):=(aa.out.put (by omega) ..).step s4
  clear aa
  have ac:=zc m4
  have ag:=zc i4
  clear i4 m4 s4 ab
  clear a0 a1 X a3 a4 a5 a6 a7 a8 a9 H J af
  obtain⟨b0,b1,b2,b3,b4,b5,b6,b7,b8,b9,ae,ah,bf⟩:=j.out.box
  unfold pv
  go_wp2
  refine bodyPost_ret (results_cell_row rfl _ _ (w.heap.size+1) 55 _ (0,0) _ rfl ((j.out.put ..)).heap Tryz.underlying55 rfl (by kernel_rfl)) rfl ?_
  rw[HV.out]
  exact zac rfl ag.out (ac.out.put j.out ..) (ad.out.put (by omega) ..)
 |false=>
  have HV:Hid (zau C nm q=bd (.ok q) (zJ C ⟨2,0,nm,sNone,0,0⟩)):=by show zau C nm q=_;rw[zau,hi];rfl
  unfold pv
  go_enter Tryz.func144,Tryz.ntmps144
  go_wp2_with fail
  refine (zj C M D z S q (-1) d 4 cOpen _ (zv (zv E _) _) U (by decide)).mono ?_
  rintro e w1 ⟨rfl,K⟩
  rw[hi]
  obtain⟨Y,X1,m1,t1⟩:=HM.out.two K
  have o:=zc Y
  have j:=zc X1
  have I:=zc m1
  have L:=zc t1
  clear Y X1 m1 t1 K
  clear E
  obtain⟨a0,a1,X,a3,a4,a5,a6,a7,a8,a9,H,J,af⟩:=o.out.box
  go_wp2_with fail
  refine (zcX C M D z (.ok q) S q (-1) d ⟨2,0,nm,sNone,0,0⟩ _ (zab q) I.out (fun _=>hp)).mono ?_
  rintro e w2 ⟨S2,q2,z2,rfl,i2,m2,O⟩
  replace o:=zc (o.out.stp O)
  replace j:=zc (j.out.stp O)
  have N:=zc (L.out.step O)
  clear L
  have Q:=zc m2
  have V:=zc i2
  clear i2 m2 O I
  clear a0 a1 X a3 a4 a5 a6 a7 a8 a9 H J af
  obtain⟨b0,b1,b2,b3,b4,b5,b6,b7,b8,b9,ae,ah,bf⟩:=j.out.box
  unfold pv
  go_wp2
  refine bodyPost_ret (results_cell_row rfl _ _ (w.heap.size+1) 55 _ (0,0) _ rfl ((j.out.put ..)).heap Tryz.underlying55 rfl (by kernel_rfl)) rfl ?_
  rw[HV.out]
  exact zac rfl V.out (Q.out.put j.out ..) (N.out.put (by omega) ..)
theorem zu1 {C:Cx} {o:Bool} {l:List Ep} {Y:PRN} {E H:ByteArray} {Q J K:PS} {O I M:Int} (U:Is2 Y Q O E) (z:Is2 (bd Y (asP C o)) J I H) (N:(decide (I<0)&&isT C J.pos 4 zbv)=false) (j:Is (bd (za7 (bd Y (asP C o))) (zd C 4 zaJ)) K M):
  Is3 (bd Y fun a=>bd (asP C o a) fun b=>if isT C b.1.pos 4 zbv then zay C o (adv b.1) (l++[⟨0,b.2,a.2,sNone⟩]) else bd (zd C 4 zaJ b.1) fun q'=>.ok (q',l++[⟨0,b.2,a.2,sNone⟩])) K M (l++[⟨0,H,E,sNone⟩]):=by
 cases Y with
 |error e=>exact j
 |ok a=>
  obtain⟨_,_,rfl⟩:=U
  rw[zh] at z j ⊢
  cases D:asP C o a with
  |error e=>rw[D] at j;exact j
  |ok b=>
   rw[D] at z j
   obtain⟨rfl,rfl,rfl⟩:=z
   rw[Bool.and_eq_false_iff] at N
   rw[zh,N.resolve_left (by decide)]
   have e:bd (za7 (.ok b)) (zd C 4 zaJ)=zd C 4 zaJ b.1:=rfl
   rw[e] at j
   show Is3 (bd (zd C 4 zaJ b.1) _) _ _ _
   cases L:zd C 4 zaJ b.1 with
   |error e=>rw[L] at j;exact j
   |ok c=>rw[L] at j;exact⟨j.1,j.2,rfl⟩
theorem zu2 {C:Cx} {j:Bool} {l:List Ep} {z N E:PS} {K L:ByteArray} {M D:Int} (J:Is2 (bd (.ok z) (zk C true)) N M K) (o:Is2 (bd (bd (.ok z) (zk C true)) (asP C j)) E D L) (Q:D<0) (O:isT C E.pos 4 zbv=true):
  (bd (.ok z) fun q=>zay C j q l)=(bd (.ok (adv E)) fun q=>zay C j q (l++[⟨0,L,K,sNone⟩]))∧z.pos+1≤E.pos:=by
 rw[zh] at J o ⊢
 rw[zh,zeM]
 cases I:zk C true z with
 |error e=>rw[I] at o;have:D=(e:Int):=o;omega
 |ok a=>
  rw[I] at J o
  obtain⟨_,_,rfl⟩:=J
  rw[zh] at o ⊢
  obtain⟨rfl,_⟩:=zaX I
  cases H:asP C j (adv z,(zf C z.pos).text) with
  |error e=>rw[H] at o;have:D=(e:Int):=o;omega
  |ok b=>
   rw[H] at o
   obtain⟨rfl,rfl,rfl⟩:=o
   have:=zf6 H
   rw[zh,O]
   exact⟨rfl,this⟩
theorem zu3 {C:Cx} {j:Bool} {x:PR} {q o:PS} {z D:Int} {l:List Ep} (H:Is x q z) (E: ¬z<0) (I:Is (bd x (zd C 4 zaJ)) o D):Is3 (bd x fun q=>zay C j q l) o D l:=by
 obtain⟨e,rfl,_⟩:=zd2 H E
 exact I
theorem zu4 {C:Cx} {j:Bool} {Y:PRN} {z I:PS} {o E:Int} {L J:ByteArray} (H:Is2 Y z o L) (D:(decide (o<0)&&isT C z.pos 1 sAs)=true) (K:Is2 (bd (.ok (adv z)) (zk C j)) I E J):Is2 (bd Y (asP C j)) I E J:=by
 rw[Bool.and_eq_true,decide_eq_true_eq] at D
 cases Y with
 |error e=>have:o=(e:Int):=H;omega
 |ok a=>
  obtain⟨rfl,_,_⟩:=H
  rw[zh,asP,if_pos D.2]
  exact K
theorem zu5 {C:Cx} {z:Bool} {Y:PRN} {o:PS} {j:Int} {D:ByteArray} (H:Is2 Y o j D) (E:(decide (j<0)&&isT C o.pos 1 sAs)=false) (hd:((D.toList==[100,101,102,97,117,108,116])&& !exp)=true):Is2 (bd Y (asP C z)) o (zbC C o.pos j) D:=by
 cases Y with
 |error e=>
  have h:j=(e:Int):=H
  show zbC C o.pos j=(e:Int)
  rw[zbC,if_neg (by omega)]
  exact h
 |ok a=>
  obtain⟨rfl,rfl,rfl⟩:=H
  rw[Bool.and_eq_false_iff] at E
  rw[zh,asP,E.resolve_left (by decide),hd]
  rfl
theorem zm1 {C:Cx} {z:Bool} {Y:PRN} {o:PS} {j:Int} {D:ByteArray} (H:Is2 Y o j D) (E:(decide (j<0)&&isT C o.pos 1 sAs)=false) (hd:((D.toList==[100,101,102,97,117,108,116])&& !exp)=false):Is2 (bd Y (asP C z)) o j D:=by
 cases Y with
 |error e=>exact H
 |ok a=>
  obtain⟨rfl,rfl,rfl⟩:=H
  rw[Bool.and_eq_false_iff] at E
  rw[zh,asP,E.resolve_left (by decide),hd]
  exact⟨rfl,rfl,rfl⟩
theorem zm2 (C:Cx) (M L D:Nat) (S:Sv) (q:PS) (d:Nat) (ag:Bool) (w:World) (hm:Mem C M L D S q w):
  Calls Tryz.prog 96 #[pv C M L S q (-1) d,.bool ag] w (zuz C M L D (zbB C ag q) d S w):=by
 obtain⟨i0,hi,aG,aV,aR⟩:=info_parts Tryz.infoExp
 have HM:=zc hm
 have aj:=hm.few
 clear hm
 unfold pv
 go_enter Tryz.func96,Tryz.ntmps96
 go_wp2_with fail
 refine (zah C M L D (.ok q) S q (-1) d zF _ (zab q) (((HM.out.alloc _).alloc _).alloc _)).mono ?_
 rintro e w1 ⟨S1,q1,z1,rfl,i1,m1,s1⟩
 obtain⟨X0,X1,R0,t1⟩:=HM.out.list3 s1
 have j:=zc X0
 have z:=zc X1
 have E:=zc R0
 have aZ:=zc t1
 have aT:=zc m1
 have aN:=zc i1
 clear i1 m1 s1 X0 X1 R0 t1
 obtain⟨a0,a1,X,Y,a4,Z,a6,a7,a8,a9,H,I,af⟩:=j.out.box
 unfold pv
 go_wp2
 go_loopg [7,8] (C.ts.length+1) (fun k o an wr=>∃(x':PR) (S':Sv) (q':PS) (z':Int) (r:Rw) (l:List Ep),Is x' q' z'∧bd x' (fun q=>zay C ag q l)=zbB C ag q∧(z'<0→C.ts.length-q'.pos<k)∧(l.length≤q'.pos∨l=[])∧o= .slice r.a l.length r.cap∧an= .bool (za2 l)∧Mem C M L D S' q' wr∧SB w.heap.size S w S' wr∧Bx M S' wr w.heap.size #[.slice (some ⟨M,0,none⟩) C.ts.length L,.int .i64 q'.pos,.int .i64 C.fin,.bool C.scr,.slice S'.rq.a q'.rq.length S'.rq.cap,.slice S'.im.a q'.im.length S'.im.cap,.slice S'.ep.a q'.ep.length S'.ep.cap,.slice S'.st.a q'.st.length S'.st.cap,.slice S'.ex.a q'.ex.length S'.ex.cap,.slice S'.la.a q'.la.length S'.la.cap,.int .i64 z',.int .i64 d]∧Bx M S' wr (w.heap.size+1) #[.slice none 0 0,.int .i64 0,.int .i64 0,.bool false,.slice none 0 0,.slice none 0 0,.slice none 0 0,.slice none 0 0,.slice none 0 0,.slice none 0 0,.int .i64 0,.int .i64 0]∧Row S' wr D w.heap.size r l)
 case atStart=>exact⟨_,S1,q1,z1,_,[],aN.out,rfl,fun _=>by omega,.inr rfl,rfl,rfl,(aT.out.put j.out ..),(aZ.out.put (by omega) ..),(j.out.put ..),(z.out.other (by omega) ..),(E.out.put j.out ..)⟩
 case round=>
  obtain⟨x2,S2,q2,z2,r,l,i2,e2,l2,n2,rfl,rfl,m2,t2,X0,X1,R0⟩:=hrel
  have j:=zc X0
  have z:=zc X1
  have ao:=zc m2
  have am:=zc t2
  have aw:=zc i2
  have ax:=zc e2
  have aH:=zc l2
  have E:=zc R0
  have be:l.length≤4000:=n2.elim (fun g=>by have:=m2.inv.pos;omega) (fun g=>by rw[g];simp)
  have aK:=zc n2
  clear X0 X1 i2 m2 t2 e2 l2 R0 n2
  by_cases hz:z2<0
  ·skip
   obtain⟨rfl,rfl⟩:=zaF aw.out hz
   have bg:=aH.out hz
   obtain⟨a0,a1,X,Y,a4,Z,a6,a7,a8,a9,H,I,af⟩:=j.out.box
   go_wp2_with fail
   refine (zbz C M L D (.ok q2) S2 q2 (-1) d true _ (zab q2) ao.out).mono ?_
   rintro e w3 ⟨V,q3,z3,n3,rfl,i3,m3,s3⟩
   replace j:=zc (j.out.stp s3)
   replace z:=zc (z.out.stp s3)
   have ap:=zc (am.out.step s3)
   have K:Hid (Row V w3 D w.heap.size r l):=E.out.stp s3
   clear E
   have E:=zc K
   clear K
   clear am
   have al:=zc m3
   have ab:=zc i3
   clear i3 m3 s3 ao
   clear a0 a1 X Y a4 Z a6 a7 a8 a9 H I af
   have ba:w.heap.size+1<w3.heap.size:=z.out.lt
   unfold pv
   go_upto_region 6 with fail
   refine zQ (R:=fun W=>Bx M V W (w.heap.size) _∧Bx M V W (w.heap.size+1) _∧Bx M V W (w3.heap.size) _∧Row V W D w.heap.size r l∧Mem C M L D V q3 W∧SB w.heap.size S w V W) ⟨(j.out.alloc _),(z.out.alloc _),(Bx.new al.out _),(E.out.alloc _),(al.out.alloc _),(ap.out.alloc _)⟩ ?_
   clear j z ap al
   clear E
   rintro w4 ⟨X0,X1,X2,R0,m4,t4⟩
   have E:=zc R0
   clear R0
   have j:=zc X0
   have z:=zc X1
   have N:=zc X2
   have az:=zc m4
   have aA:=zc t4
   clear m4 t4 X0 X1 X2
   obtain⟨a0,a1,X,Y,a4,Z,a6,a7,a8,a9,H,I,af⟩:=j.out.box
   obtain⟨c0,c1,c2,c3,c4,c5,c6,c7,c8,c9,aO,aW,cf⟩:=N.out.box
   go_upto_region 7 with fail
   refine zQ (R:=fun W=>Bx M V W (w.heap.size) _∧Bx M V W (w.heap.size+1) _∧Bx M V W (w3.heap.size) _∧Row V W D w.heap.size r l∧Mem C M L D V q3 W∧SB w.heap.size S w V W) ⟨(j.out.put ..),(z.out.other (by omega) ..),(N.out.other (by omega) ..),(E.out.put j.out ..),(az.out.put j.out ..),(aA.out.put (by omega) ..)⟩ ?_
   clear a0 a1 X Y a4 Z a6 a7 a8 a9 H I af c0 c1 c2 c3 c4 c5 c6 c7 c8 c9 aO aW cf
   clear j z N aA az
   clear E
   rintro w5 ⟨X0,X1,X2,R0,m5,t5⟩
   have E:=zc R0
   clear R0
   have j:=zc X0
   have z:=zc X1
   have N:=zc X2
   have ah:=zc m5
   have ak:=zc t5
   clear m5 t5 X0 X1 X2
   skip
   obtain⟨a0,a1,X,Y,a4,Z,a6,a7,a8,a9,H,I,af⟩:=j.out.box
   skip
   go_wp2_with fail
   refine (zj C M L D V q3 z3 d 1 sAs _ ah.out.tok aj (by decide)).mono ?_
   rintro e w6 ⟨rfl,ai⟩
   replace j:=zc (j.out.below ai)
   replace z:=zc (z.out.below ai)
   replace N:=zc (N.out.below ai)
   have U:=zc (ak.out.below ai)
   have O:=zc (ah.out.later ai)
   have K:Hid (Row V w6 D w.heap.size r l):=E.out.below ai
   clear E
   have E:=zc K
   clear K
   clear ai ak ah
   clear a0 a1 X Y a4 Z a6 a7 a8 a9 H I af
   go_upto_if 28 with fail
   go_cut [11] (fun aP wx=>∃(Q:Sv) (q5:PS) (z5:Int) (n5:ByteArray),aP= .string n5∧Is2 (bd (bd (.ok q2) (zk C true)) (asP C ag)) q5 z5 n5∧Mem C M L D Q q5 wx∧SB w.heap.size S w Q wx∧Bx M Q wx w.heap.size #[.slice (some ⟨M,0,none⟩) C.ts.length L,.int .i64 q5.pos,.int .i64 C.fin,.bool C.scr,.slice Q.rq.a q5.rq.length Q.rq.cap,.slice Q.im.a q5.im.length Q.im.cap,.slice Q.ep.a q5.ep.length Q.ep.cap,.slice Q.st.a q5.st.length Q.st.cap,.slice Q.ex.a q5.ex.length Q.ex.cap,.slice Q.la.a q5.la.length Q.la.cap,.int .i64 z5,.int .i64 d]∧Bx M Q wx (w.heap.size+1) #[.slice none 0 0,.int .i64 0,.int .i64 0,.bool false,.slice none 0 0,.slice none 0 0,.slice none 0 0,.slice none 0 0,.slice none 0 0,.slice none 0 0,.int .i64 0,.int .i64 0]∧Row Q wx D w.heap.size r l)
   case first=>
    cases hb:(decide (z3<0)&&isT C q3.pos 1 sAs) with
    |true=>
     have aI:q3.pos<C.ts.length:=by rw[Bool.and_eq_true] at hb;exact za1 hb.2 (by decide)
     obtain⟨a0,a1,X,Y,a4,Z,a6,a7,a8,a9,H,I,af⟩:=j.out.box
     have aF:z3= -1:=by rw[Bool.and_eq_true,decide_eq_true_eq] at hb;exact (zaF ab.out.fst hb.1).2
     subst aF
     go_wp2_with fail
     refine (zbz C M L D (.ok (adv q3)) V (adv q3) (-1) d ag _ (zab _) ((O.out.adv aI).set j.out 1 _)).mono ?_
     rintro e w7 ⟨S7,q7,z7,n7,rfl,i7,m7,s7⟩
     have ad:Hid (Bx M S7 w7 _ _):=(j.out.at1 _).stp s7
     have ae:Hid (Bx M S7 w7 _ _):=(z.out.set_other (by omega) 1 _).stp s7
     have ar:Hid (Bx M S7 w7 _ _):=(N.out.set_other (by omega) 1 _).stp s7
     have ac:Hid (SB w.heap.size S w S7 w7):=(U.out.set (by omega) 1 _).step s7
     replace E:=zc ((E.out.set j.out 1 _).stp s7)
     clear j z N U
     have j:=zc ad
     have z:=zc ae
     have N:=zc ar
     clear ad ae ar
     have aa:=zc m7
     have aY:=zc i7
     clear i7 m7 s7 O
     clear a0 a1 X Y a4 Z a6 a7 a8 a9 H I af
     have bb:w.heap.size+1<w7.heap.size:=z.out.lt
     have aE:w3.heap.size<w7.heap.size:=N.out.lt
     unfold pv
     go_upto_region 11 with fail
     refine zQ (R:=fun W=>Bx M S7 W (w.heap.size) _∧Bx M S7 W (w.heap.size+1) _∧Bx M S7 W (w3.heap.size) _∧Bx M S7 W (w7.heap.size) _∧Row S7 W D w.heap.size r l∧Mem C M L D S7 q7 W∧SB w.heap.size S w S7 W) ⟨(j.out.alloc _),(z.out.alloc _),(N.out.alloc _),(Bx.new aa.out _),(E.out.alloc _),(aa.out.alloc _),(ac.out.alloc _)⟩ ?_
     clear j z N ac aa
     clear E
     rintro w8 ⟨X0,X1,X2,X3,R0,m8,t8⟩
     have E:=zc R0
     clear R0
     have j:=zc X0
     have z:=zc X1
     have N:=zc X2
     have aL:=zc X3
     have av:=zc m8
     have ay:=zc t8
     clear m8 t8 X0 X1 X2 X3
     obtain⟨a0,a1,X,Y,a4,Z,a6,a7,a8,a9,H,I,af⟩:=j.out.box
     obtain⟨d0,d1,d2,d3,d4,d5,d6,d7,d8,d9,bc,bi,df⟩:=aL.out.box
     go_wp2
     go_meet
     case rel=>exact⟨S7,q7,z7,n7,rfl,zu4 ab.out hb aY.out,(av.out.put j.out ..),(ay.out.put (by omega) ..),(j.out.put ..),(z.out.other (by omega) ..),(E.out.put j.out ..)⟩
    |false=>
     cases e3:(n3.toList==[100,101,102,97,117,108,116]) with
     |true=>
      cases ag with
      |false=>
       obtain⟨a0,a1,X,Y,a4,Z,a6,a7,a8,a9,H,I,af⟩:=j.out.box
       go_wp2_with fail
       refine (zd0 C M L D V q3 z3 d _ O.out.tok aj).mono ?_
       rintro e w7 ⟨rfl,J⟩
       replace j:=zc (j.out.below J)
       replace z:=zc (z.out.below J)
       replace N:=zc (N.out.below J)
       have ac:=zc (U.out.below J)
       have aa:=zc (O.out.later J)
       have K:Hid (Row V w7 D w.heap.size r l):=E.out.below J
       clear E
       have E:=zc K
       clear K
       clear J U O
       clear a0 a1 X Y a4 Z a6 a7 a8 a9 H I af
       obtain⟨a0,a1,X,Y,a4,Z,a6,a7,a8,a9,H,I,af⟩:=j.out.box
       unfold pv
       go_wp2
       go_meet
       case rel=>exact⟨V,q3,(zbC C q3.pos z3),n3,rfl,zu5 ab.out hb (by rw[e3];rfl),(aa.out.put j.out ..),(ac.out.put (by omega) ..),(j.out.put ..),(z.out.other (by omega) ..),(E.out.put j.out ..)⟩
      |true=>
       obtain⟨a0,a1,X,Y,a4,Z,a6,a7,a8,a9,H,I,af⟩:=j.out.box
       go_wp2
       go_meet
       case rel=>exact⟨V,q3,z3,n3,rfl,zm1 ab.out hb (by rw[e3];rfl),O.out,U.out,j.out,z.out,E.out⟩
     |false=>
      obtain⟨a0,a1,X,Y,a4,Z,a6,a7,a8,a9,H,I,af⟩:=j.out.box
      go_wp2
      go_meet
      case rel=>exact⟨V,q3,z3,n3,rfl,zm1 ab.out hb (by rw[e3];rfl),O.out,U.out,j.out,z.out,E.out⟩
   case rest=>
    obtain⟨Q,q5,z5,n5,rfl,i5,m5,t5,X0,X1,R0⟩:=hcut
    clear j z N E O U
    have j:=zc X0
    have z:=zc X1
    have ah:=zc m5
    have ak:=zc t5
    have aq:=zc i5
    have E:=zc R0
    clear X0 X1 i5 m5 t5 R0
    go_upto_region 15 with fail
    go_cut [8] (fun s8 wx=>s8= .bool (za2 l||(n3.toList==[100,101,102,97,117,108,116]))∧wx=wc)
    case first=>
     cases ha:za2 l with
     |true=>
      go_wp2
      go_meet
      case rel=>exact⟨by rw[ha];rfl,rfl⟩
     |false=>
      cases e3:(n3.toList==[100,101,102,97,117,108,116]) with
      |true=>
       go_wp2
       go_meet
       case rel=>exact⟨by rw[ha,e3];rfl,rfl⟩
      |false=>
       go_wp2
       go_meet
       case rel=>exact⟨by rw[ha,e3];rfl,rfl⟩
    case rest=>
     obtain⟨rfl,rfl⟩:=hcut
     have au:=fun o=>E.out.own.alloc o
     have aU:=ah.out.base
     go_wp2_with (at_builtin;refine zcC _ rfl _ _ 28 rfl D 77 i0 _ 4 56 Tryz.underlying28 hi aG aV aR rfl (by decide) (by decide) r l.length _ (by rfl) (au _) wc.heap.size (epL ⟨0,n5,n3,sNone⟩) (by rfl) (by exact heap_alloc_new wc _) rfl (by intro u hu;simp[epL] at hu;rcases hu with rfl|rfl|rfl|rfl<;>rfl) (by omega) (by rw[zW];omega) ?_)
     intro r' w6 hr hg aC
     obtain⟨R6,m6⟩:=(E.out.alloc _).grow (x:=⟨0,n5,n3,sNone⟩) (ah.out.alloc _) (by rw[zW];have:=ak.out.size;omega) hg hr (by rw[zW];exact aC)
     have ad:Hid (Bx M Q w6 _ _):=(E.out.alloc _).bx (j.out.alloc _) hg
     have ae:Hid (Bx M Q w6 _ _):=(E.out.alloc _).bx (z.out.alloc _) hg
     have U:Hid (SB w.heap.size S w Q w6):=(E.out.alloc _).sb (ak.out.alloc _) hg
     have O:=zc m6
     clear j z E hr hg aC au aU ah ak m6
     have j:=zc ad
     have z:=zc ae
     have E:=zc R6
     clear ad ae R6
     cases hc:(decide (z5<0)&&isT C q5.pos 4 zbv) with
     |true=>
      obtain⟨a0,a1,X,Y,a4,Z,a6,a7,a8,a9,H,I,af⟩:=j.out.box
      go_wp2_with fail
      refine (zj C M L D Q q5 z5 d 4 zbv _ O.out.tok aj (by decide)).mono ?_
      rintro e w7 ⟨rfl,J⟩
      rw[hc]
      replace j:=zc (j.out.below J)
      replace z:=zc (z.out.below J)
      have ac:=zc (U.out.below J)
      have aa:=zc (O.out.later J)
      have K:Hid (Row Q w7 D w.heap.size r' (l++[⟨0,n5,n3,sNone⟩])):=E.out.below J
      clear E
      have E:=zc K
      clear K
      clear J U O
      clear a0 a1 X Y a4 Z a6 a7 a8 a9 H I af
      rw[Bool.and_eq_true,decide_eq_true_eq] at hc
      obtain⟨aD,aB⟩:=hc
      have aS:q5.pos<C.ts.length:=za1 aB (by decide)
      obtain⟨E5,P5⟩:=zu2 (l:=l) ab.out aq.out aD aB
      have HE:=zc E5
      obtain rfl:z5= -1:=(zaF aq.out.fst aD).2
      have aQ:Hid ((l++[(⟨0,n5,n3,sNone⟩:Ep)]).length≤q5.pos+1∨l++[(⟨0,n5,n3,sNone⟩:Ep)]=[]):=.inl (by simp only[List.length_append,List.length_singleton];exact aK.out.elim (fun g=>by omega) (fun g=>by rw[g];simp))
      clear E5
      obtain⟨a0,a1,X,Y,a4,Z,a6,a7,a8,a9,H,I,af⟩:=j.out.box
      go_wp2
      go_roundg (gk-1)
      case rel=>exact⟨.ok (adv q5),Q,adv q5,-1,r',l++[⟨0,n5,n3,sNone⟩],zab _,by rw[←ax.out];exact HE.out.symm,fun _=>by rw[zz];omega,aQ.out,by simp,by rw[zmz],((aa.out.adv aS).set j.out 1 _),(ac.out.set (by omega) 1 _),(j.out.at1 _),(z.out.set_other (by omega) 1 _),(E.out.set j.out 1 _)⟩
      case measure=>omega
     |false=>
      obtain⟨a0,a1,X,Y,a4,Z,a6,a7,a8,a9,H,I,af⟩:=j.out.box
      go_wp2_with fail
      refine (zj C M L D Q q5 z5 d 4 zbv _ O.out.tok aj (by decide)).mono ?_
      rintro e w7 ⟨rfl,J⟩
      rw[hc]
      replace j:=zc (j.out.below J)
      replace z:=zc (z.out.below J)
      have ac:=zc (U.out.below J)
      have aa:=zc (O.out.later J)
      have K:Hid (Row Q w7 D w.heap.size r' (l++[⟨0,n5,n3,sNone⟩])):=E.out.below J
      clear E
      have E:=zc K
      clear K
      clear J U O
      clear a0 a1 X Y a4 Z a6 a7 a8 a9 H I af
      obtain⟨a0,a1,X,Y,a4,Z,a6,a7,a8,a9,H,I,af⟩:=j.out.box
      go_wp2_with fail
      refine (zah C M L D _ Q q5 z5 d zaJ _ aq.out.fst aa.out).mono ?_
      rintro e w8 ⟨S8,q8,z8,rfl,i8,m8,s8⟩
      replace j:=zc (j.out.stp s8)
      replace z:=zc (z.out.stp s8)
      have ay:=zc (ac.out.step s8)
      have K:Hid (Row S8 w8 D w.heap.size r' (l++[⟨0,n5,n3,sNone⟩])):=E.out.stp s8
      clear E
      have E:=zc K
      clear K
      clear ac
      have av:=zc m8
      have aM:=zc i8
      clear i8 m8 s8 aa
      clear a0 a1 X Y a4 Z a6 a7 a8 a9 H I af
      obtain⟨b0,b1,b2,b3,b4,b5,b6,b7,b8,b9,aJ,aX,bf⟩:=z.out.box
      unfold pv
      go_wp2
      refine bodyPost_ret (zm0 rfl _ _ (w.heap.size+1) 55 _ (0,0) _ rfl ((z.out.put ..)).heap Tryz.underlying55 rfl (by kernel_rfl)) rfl ?_
      exact⟨S8,q8,z8,r',l++[⟨0,n5,n3,sNone⟩],by simp[pv,zmz],by rw[←ax.out,zh,zeM];exact zu1 ab.out aq.out hc aM.out,(av.out.put z.out ..),((ay.out.put (by omega) ..)).done,(E.out.put z.out ..),by simp;omega⟩
  ·skip
   obtain⟨a0,a1,X,Y,a4,Z,a6,a7,a8,a9,H,I,af⟩:=j.out.box
   go_wp2_with fail
   refine (zah C M L D _ S2 q2 z2 d zaJ _ aw.out ao.out).mono ?_
   rintro e w3 ⟨V,q3,z3,rfl,i3,m3,s3⟩
   replace j:=zc (j.out.stp s3)
   replace z:=zc (z.out.stp s3)
   have ap:=zc (am.out.step s3)
   have K:Hid (Row V w3 D w.heap.size r l):=E.out.stp s3
   clear E
   have E:=zc K
   clear K
   clear am
   have al:=zc m3
   have ab:=zc i3
   clear i3 m3 s3 ao
   clear a0 a1 X Y a4 Z a6 a7 a8 a9 H I af
   obtain⟨b0,b1,b2,b3,b4,b5,b6,b7,b8,b9,aJ,aX,bf⟩:=z.out.box
   unfold pv
   go_wp2
   refine bodyPost_ret (zm0 rfl _ _ (w.heap.size+1) 55 _ (0,0) _ rfl ((z.out.put ..)).heap Tryz.underlying55 rfl (by kernel_rfl)) rfl ?_
   exact⟨V,q3,z3,r,l,rfl,by rw[←ax.out];exact zu3 aw.out (by omega) ab.out,(al.out.put z.out ..),((ap.out.put (by omega) ..)).done,(E.out.put z.out ..),by omega⟩
def SumOK (C:Cx) (gt cap base m:Nat):Prop:=∀(x:PR) (S:Sv) (q:PS) (z:Int) (d:Nat) (w:World),Is x q z→Mem C gt cap base S q w→(z<0→C.ts.length-q.pos<m)→d≤20→
 Calls Tryz.prog 53 #[pv C gt cap S q z d] w (Out C gt cap base (bd x (pE C .sum d)) d S w)
theorem zhr {C:Cx} {o:Bool} {q q1:PS} {z:Int} {j:ByteArray} (h:Is2 (bd (.ok q) (zk C o)) q1 z j) (D:plainB C q.pos o=true):q1=adv q∧z= -1∧j=(zf C q.pos).text:=by
 rw[zh,zk,if_pos D] at h
 exact h
theorem zhs {C:Cx} {o:Bool} {q q1:PS} {j:Int} {z:ByteArray} (h:Is2 (bd (.ok q) (zk C o)) q1 j z) (D:plainB C q.pos o=false):j=(zu C q.pos:Int):=by
 rw[zh,zk,D] at h
 exact h
theorem zm3 {C:Cx} {n:ByteArray} {y:Except Nat (PS×ByteArray)} {q:PS} {z:Int} {f:ByteArray} (h:Is2 y q z f) (j:(decide (z<0)&&isT C q.pos 4 cOpen)=true):bd (bd (bd (za7 y) (zd C 4 cOpen)) (zd C 4 zU)) (zJ C ⟨5,0,n,f,0,0⟩)=bd y fun a=>za5 C n a.2 a.1:=by
 rw[Bool.and_eq_true,decide_eq_true_eq] at j
 cases y with
 |ok a=>
  obtain⟨rfl,_,rfl⟩:=h
  show _=za5 C n a.2 a.1
  rw[za5,if_pos j.2]
  rfl
 |error e=>rfl
theorem zm4 {C:Cx} {n:ByteArray} {y:Except Nat (PS×ByteArray)} {q:PS} {z:Int} {f:ByteArray} (h:Is2 y q z f) (j:(decide (z<0)&&isT C q.pos 4 cOpen)=false):bd (za7 y) (zJ C ⟨4,0,n,f,0,0⟩)=bd y fun a=>za5 C n a.2 a.1:=by
 cases y with
 |ok a=>
  obtain⟨rfl,rfl,rfl⟩:=h
  rw[Bool.and_eq_false_iff] at j
  show _=za5 C n a.2 a.1
  rw[za5,j.resolve_left (by decide)]
  rfl
 |error e=>rfl
theorem zm5 {C:Cx} {o:Bool} {x:PR} {q:PS} {z:Int} {n:ByteArray} (h:Is2 (bd x (zk C o)) q z n):z<0→1≤q.pos:=by
 intro E
 cases j:bd x (zk C o) with
 |error e=>rw[j] at h;have:z=(e:Int):=h;omega
 |ok a=>
  rw[j] at h
  obtain⟨rfl,_,_⟩:=h
  obtain⟨b,_,D⟩:=ze j
  obtain⟨rfl,_⟩:=zaX D
  simp[adv]
theorem zu6 (C:Cx) (E o j:Nat) (S:Sv) (q:PS) (d:Nat) (w:World) (J:Mem C E o j S q w) (M:((zf C q.pos).kind==2)=true):
  Calls Tryz.prog 128 #[pv C E o S q (-1) d] w (Out C E o j (pE C .part d q) d S w):=by
 have HM:=zc J
 have z:=J.tok
 have Y:C.ts.length≤4000:=J.few
 have aa:=(zan J.tok).1
 clear J
 have hp:q.pos<C.ts.length:=zeJ M (by decide)
 have V:Hid (pE C .part d q=bd (.ok (adv q)) (zJ C ⟨1,(zf C q.pos).num,sNone,sNone,0,0⟩)):=by show pE C .part d q=_;rw[zby,if_pos M];rfl
 obtain⟨X,_,c2,_⟩:=z.cells hp (d:=⟨0,sNone,0,C.fin⟩)
 change _=some (Value.int .i64 (zf C q.pos).kind) at X
 change _=some (Value.int .i64 (zf C q.pos).num) at c2
 have H:Hid (Mem C E o j S (adv q) w):=HM.out.adv hp
 generalize (zf C q.pos).kind=kd at X M
 have HN:Hid (∀n,n=(zf C q.pos).num→pE C .part d q=bd (.ok (adv q)) (zJ C ⟨1,n,sNone,sNone,0,0⟩)):=fun n e=>by rw[e];exact V.out
 generalize I:(zf C q.pos).num=nm at c2
 have L:Hid (nm=(zf C q.pos).num):=I.symm
 clear I V z
 unfold pv
 go_enter Tryz.func128,Tryz.ntmps128
 go_wp2_with fail
 refine (zcX C E o j (.ok (adv q)) S (adv q) (-1) d ⟨1,nm,sNone,sNone,0,0⟩ _ (zab _) ((H.out.alloc _).alloc _) (fun _=>by simp[adv])).mono ?_
 rintro e w1 ⟨S1,q1,z1,rfl,Q,m1,Z⟩
 obtain⟨X0,U,t1⟩:=H.out.two2 Z
 have D:=zc U
 have O:=zc m1
 have N:=zc t1
 have K:=zc Q
 clear X0 U Q m1 t1 Z
 obtain⟨b0,b1,b2,b3,b4,b5,b6,b7,b8,b9,ab,ac,bf⟩:=D.out.box
 unfold pv
 go_wp2
 refine bodyPost_ret (results_cell_row rfl _ _ (w.heap.size+1) 55 _ (0,0) _ rfl ((D.out.put ..)).heap Tryz.underlying55 rfl (by kernel_rfl)) rfl ?_
 rw[HN.out nm L.out]
 exact zac rfl K.out (O.out.put D.out ..) (N.out.put (by omega) ..)
theorem zu7 (C:Cx) (K z j:Nat) (S:Sv) (q:PS) (d:Nat) (w:World) (N:Mem C K z j S q w) (hk:((zf C q.pos).kind==2)=false) (X:isT C q.pos 4 cOpen=true) (hd:20≤d) (ad:d≤20):
  Calls Tryz.prog 128 #[pv C K z S q (-1) d] w (Out C K z j (pE C .part d q) d S w):=by
 have HM:=zc N
 have H:=N.tok
 have E:C.ts.length≤4000:=N.few
 have aa:=(zan N.tok).1
 clear N
 have hp:q.pos<C.ts.length:=za1 X (by decide)
 have HV:Hid (pE C .part d q= .error (zu C q.pos)):=by show pE C .part d q=_;rw[zby,hk,X];simp[hd]
 have qd:decide ((20:Int)≤(d:Int))=true:=decide_eq_true (by omega)
 obtain⟨Z,_,_,_⟩:=H.cells hp (d:=⟨0,sNone,0,C.fin⟩)
 change _=some (Value.int .i64 (zf C q.pos).kind) at Z
 generalize (zf C q.pos).kind=kd at Z hk
 unfold pv
 go_enter Tryz.func128,Tryz.ntmps128
 go_wp2_with fail
 refine (zj C K z j S q (-1) d 4 cOpen _ (zv (zv H _) _) E (by decide)).mono ?_
 rintro e w1 ⟨rfl,L⟩
 rw[X]
 obtain⟨X0,Y,m1,t1⟩:=HM.out.two L
 have I:=zc X0
 have o:=zc Y
 have J:=zc m1
 have M:=zc t1
 clear X0 Y m1 t1 L
 obtain⟨a0,a1,a2,a3,a4,a5,a6,a7,a8,a9,Q,O,af⟩:=I.out.box
 go_wp2_with fail
 refine (zd0 C K z j S q (-1) d _ J.out.tok E).mono ?_
 rintro e w2 ⟨rfl,D⟩
 replace I:=zc (I.out.below D)
 replace o:=zc (o.out.below D)
 have U:=zc (M.out.below D)
 have V:=zc (J.out.later D)
 clear D M J
 clear a0 a1 a2 a3 a4 a5 a6 a7 a8 a9 Q O af
 obtain⟨b0,b1,b2,b3,b4,b5,b6,b7,b8,b9,ab,ac,bf⟩:=o.out.box
 unfold pv
 go_wp2
 refine bodyPost_ret (results_cell_row rfl _ _ (w.heap.size+1) 55 _ (0,0) _ rfl ((o.out.put ..)).heap Tryz.underlying55 rfl (by kernel_rfl)) rfl ?_
 rw[HV.out]
 exact zac rfl (show Is (.error (zu C q.pos)) q _ from rfl) (V.out.put o.out ..) (U.out.put (by omega) ..)
theorem zu8 (C:Cx) (H E z:Nat) (S:Sv) (q:PS) (d:Nat) (w:World) (O:Mem C H E z S q w) (hk:((zf C q.pos).kind==2)=false) (ho:isT C q.pos 4 cOpen=true) (hd:d<20) (hS:SumOK C H E z (C.ts.length-q.pos)):
  Calls Tryz.prog 128 #[pv C H E S q (-1) d] w (Out C H E z (pE C .part d q) d S w):=by
 have HM:=zc O
 have K:=O.tok
 have X:C.ts.length≤4000:=O.few
 have ag:=(zan O.tok).1
 clear O
 have hp:q.pos<C.ts.length:=za1 ho (by decide)
 have HV:Hid (pE C .part d q=bd (bd (.ok (adv q)) (pE C .sum (d+1))) (zd C 4 zU)):=by show pE C .part d q=_;rw[zby,hk,ho,if_neg (by decide),if_pos rfl,if_neg (by omega)];rfl
 have HS:=zc hS
 clear hS
 have qd:decide ((20:Int)≤(d:Int))=false:=decide_eq_false (by omega)
 obtain⟨c0,_,_,_⟩:=K.cells hp (d:=⟨0,sNone,0,C.fin⟩)
 change _=some (Value.int .i64 (zf C q.pos).kind) at c0
 generalize (zf C q.pos).kind=kd at c0 hk
 unfold pv
 go_enter Tryz.func128,Tryz.ntmps128
 go_wp2_with fail
 refine (zj C H E z S q (-1) d 4 cOpen _ (zv (zv K _) _) X (by decide)).mono ?_
 rintro e w1 ⟨rfl,Y⟩
 rw[ho]
 obtain⟨L,Q,m1,t1⟩:=HM.out.two Y
 have j:=zc L
 have o:=zc Q
 have U:=zc m1
 have Z:=zc t1
 clear L Q m1 t1 Y
 obtain⟨a0,a1,a2,a3,a4,a5,a6,a7,a8,a9,I,J,af⟩:=j.out.box
 go_wp2_with fail
 refine (HS.out (.ok (adv q)) S (adv q) (-1) (d+1) _ (zab _) (((U.out.adv hp).set j.out 1 _).set (j.out.at1 _) 11 _) (fun _=>by show C.ts.length-(q.pos+1)<_;omega) (by omega)).mono ?_
 rintro e w2 ⟨S2,q2,z2,rfl,i2,m2,s2⟩
 replace j:=zc (((j.out.at1 _).at11 _).stp s2)
 replace o:=zc (((o.out.set_other (by omega) 1 _).set_other (by omega) 11 _).stp s2)
 have M:Hid (SB w.heap.size S w S2 w2):=((Z.out.set (by omega) 1 _).set (by omega) 11 _).step s2
 clear Z
 have N:=zc m2
 have ae:=zc i2
 clear i2 m2 s2 U
 clear a0 a1 a2 a3 a4 a5 a6 a7 a8 a9 I J af
 go_wp2_with fail
 refine (zah C H E z _ S2 q2 z2 (d+1) zU _ ae.out N.out).mono ?_
 rintro e w3 ⟨S3,q3,z3,rfl,i3,m3,s3⟩
 replace j:=zc (j.out.stp s3)
 replace o:=zc (o.out.stp s3)
 have V:=zc (M.out.step s3)
 clear M
 have aa:=zc m3
 have ab:=zc i3
 clear i3 m3 s3 N
 obtain⟨a0,a1,a2,a3,a4,a5,a6,a7,a8,a9,I,J,af⟩:=j.out.box
 obtain⟨D,hD⟩: ∃D:Nat,D=d+1:=⟨_,rfl⟩
 rw[←hD]
 have ah:(D:Int)-1=d:=by omega
 have aj:D≤20:=by omega
 clear hD hd qd
 unfold pv
 go_upto_region 11 with fail
 refine zQ (R:=fun W=>Bx H S3 W (w.heap.size) _∧Bx H S3 W (w.heap.size+1) _∧Mem C H E z S3 q3 W∧SB w.heap.size S w S3 W) ⟨(j.out.put ..),(o.out.other (by omega) ..),(aa.out.put j.out ..),(V.out.put (by omega) ..)⟩ ?_
 clear a0 a1 a2 a3 a4 a5 a6 a7 a8 a9 I J af
 clear j o V aa
 rintro w4 ⟨L,Q,m4,t4⟩
 have j:=zc L
 have o:=zc Q
 have ac:=zc m4
 have ad:=zc t4
 clear m4 t4 L Q
 obtain⟨a0,a1,a2,a3,a4,a5,a6,a7,a8,a9,I,J,af⟩:=j.out.box
 obtain⟨b0,b1,b2,b3,b4,b5,b6,b7,b8,b9,ai,ak,bf⟩:=o.out.box
 go_wp2
 refine bodyPost_ret (results_cell_row rfl _ _ (w.heap.size+1) 55 _ (0,0) _ rfl (((o.out.set_other (by omega) 11 _).put ..)).heap Tryz.underlying55 rfl (by kernel_rfl)) rfl ?_
 rw[HV.out]
 exact zac rfl ab.out ((ac.out.set j.out 11 _).put (o.out.set_other (by omega) 11 _) ..) ((ad.out.set (by omega) 11 _).put (by omega) ..)
theorem zu9 (z:List Tk) (j:Nat) (J H D:Nat) (S:Sv) (q:PS) (d:Nat) (w:World) (Y:Mem (Cx.mk z j true) J H D S q w) (hp: ¬q.pos<(Cx.mk z j true).ts.length):
  Calls Tryz.prog 128 #[pv (Cx.mk z j true) J H S q (-1) d] w (Out (Cx.mk z j true) J H D (pE (Cx.mk z j true) .part d q) d S w):=by
 have HM:=zc Y
 have ad:=Y.tok
 have K:(Cx.mk z j true).ts.length≤4000:=Y.few
 have ak:=(zan Y.tok).1
 clear Y
 have hk:((zf (Cx.mk z j true) q.pos).kind==2)=false:=by rw[zcT (by omega)];rfl
 have ho:isT (Cx.mk z j true) q.pos 4 cOpen=false:=zfA hp (by decide)
 have hu:isT (Cx.mk z j true) q.pos 1 sUndef=false:=zfA hp (by decide)
 have hn:plainB (Cx.mk z j true) q.pos false=false:=zhP hp
 have HV:Hid (pE (Cx.mk z j true) .part d q= .error (zu (Cx.mk z j true) q.pos)):=by show pE (Cx.mk z j true) .part d q=_;rw[zby,hk,ho,hu,zk,hn];rfl
 have ao: ¬q.pos<z.length:=hp
 unfold pv
 go_enter Tryz.func128,Tryz.ntmps128
 go_wp2_with fail
 refine (zj (Cx.mk z j true) J H D S q (-1) d 4 cOpen _ (zv (zv ad _) _) K (by decide)).mono ?_
 rintro e w1 ⟨rfl,ab⟩
 rw[ho]
 obtain⟨Q,Z,m1,t1⟩:=HM.out.two ab
 have E:=zc Q
 have o:=zc Z
 have M:=zc m1
 have ac:=zc t1
 clear Q Z m1 t1 ab
 obtain⟨a0,a1,a2,a3,a4,a5,a6,a7,a8,a9,L,N,af⟩:=E.out.box
 go_wp2_with fail
 refine (zj (Cx.mk z j true) J H D S q (-1) d 1 sUndef _ M.out.tok K (by decide)).mono ?_
 rintro e w2 ⟨rfl,I⟩
 rw[hu]
 replace E:=zc (E.out.below I)
 replace o:=zc (o.out.below I)
 have U:=zc (ac.out.below I)
 have X:=zc (M.out.later I)
 clear I ac M
 clear a0 a1 a2 a3 a4 a5 a6 a7 a8 a9 L N af
 obtain⟨a0,a1,a2,a3,a4,a5,a6,a7,a8,a9,L,N,af⟩:=E.out.box
 go_wp2_with fail
 refine (zbz (Cx.mk z j true) J H D (.ok q) S q (-1) d false _ (zab q) X.out).mono ?_
 rintro e w3 ⟨V,q3,z3,n3,rfl,i3,m3,s3⟩
 replace E:=zc (E.out.stp s3)
 replace o:=zc (o.out.stp s3)
 have aa:=zc (U.out.step s3)
 clear U
 have O:=zc m3
 have ae:=zc i3
 clear i3 m3 s3 X
 clear a0 a1 a2 a3 a4 a5 a6 a7 a8 a9 L N af
 obtain rfl:=zhs ae.out hn
 have dz:decide ((0:Int)≤(zu (Cx.mk z j true) q.pos:Int))=true:=decide_eq_true (by omega)
 have aj:w.heap.size+1<w3.heap.size:=o.out.lt
 unfold pv
 go_upto_region 17 with fail
 refine zQ (R:=fun W=>Bx J V W (w.heap.size) _∧Bx J V W (w.heap.size+1) _∧Bx J V W (w3.heap.size) _∧Mem (Cx.mk z j true) J H D V q3 W∧SB w.heap.size S w V W) ⟨(E.out.alloc _),(o.out.alloc _),(Bx.new O.out _),(O.out.alloc _),(aa.out.alloc _)⟩ ?_
 clear E o aa O
 rintro w4 ⟨Q,Z,X2,m4,t4⟩
 have E:=zc Q
 have o:=zc Z
 have ai:=zc X2
 have ag:=zc m4
 have ah:=zc t4
 clear m4 t4 Q Z X2
 obtain⟨b0,b1,b2,b3,b4,b5,b6,b7,b8,b9,al,ap,bf⟩:=o.out.box
 obtain⟨c0,c1,c2,c3,c4,c5,c6,c7,c8,c9,am,an,cf⟩:=ai.out.box
 go_wp2
 refine bodyPost_ret (results_cell_row rfl _ _ (w.heap.size+1) 55 _ (0,0) _ rfl ((o.out.put ..)).heap Tryz.underlying55 rfl (by kernel_rfl)) rfl ?_
 rw[HV.out]
 exact zac rfl (show Is (.error (zu (Cx.mk z j true) q.pos)) q3 _ from rfl) (ag.out.put o.out ..) (ah.out.put (by omega) ..)
theorem zuA (z:List Tk) (j:Nat) (J H D:Nat) (S:Sv) (q:PS) (d:Nat) (w:World) (Z:Mem (Cx.mk z j true) J H D S q w) (hk:((zf (Cx.mk z j true) q.pos).kind==2)=false) (ho:isT (Cx.mk z j true) q.pos 4 cOpen=false) (hp:q.pos<(Cx.mk z j true).ts.length) (hu:isT (Cx.mk z j true) q.pos 1 sUndef=false) (hn:plainB (Cx.mk z j true) q.pos false=false):
  Calls Tryz.prog 128 #[pv (Cx.mk z j true) J H S q (-1) d] w (Out (Cx.mk z j true) J H D (pE (Cx.mk z j true) .part d q) d S w):=by
 have HM:=zc Z
 have L:=Z.tok
 have K:(Cx.mk z j true).ts.length≤4000:=Z.few
 have aj:=(zan Z.tok).1
 clear Z
 have HV:Hid (pE (Cx.mk z j true) .part d q= .error (zu (Cx.mk z j true) q.pos)):=by show pE (Cx.mk z j true) .part d q=_;rw[zby,hk,ho,hu,zk,hn];rfl
 have an:q.pos<z.length:=hp
 obtain⟨c0,_,_,_⟩:=L.cells hp (d:=⟨0,sNone,0,(Cx.mk z j true).fin⟩)
 change _=some (Value.int .i64 (zf (Cx.mk z j true) q.pos).kind) at c0
 generalize (zf (Cx.mk z j true) q.pos).kind=kd at c0 hk
 unfold pv
 go_enter Tryz.func128,Tryz.ntmps128
 go_wp2_with fail
 refine (zj (Cx.mk z j true) J H D S q (-1) d 4 cOpen _ (zv (zv L _) _) K (by decide)).mono ?_
 rintro e w1 ⟨rfl,ab⟩
 rw[ho]
 obtain⟨U,X1,m1,t1⟩:=HM.out.two ab
 have E:=zc U
 have o:=zc X1
 have N:=zc m1
 have ac:=zc t1
 clear U X1 m1 t1 ab
 obtain⟨a0,a1,a2,a3,a4,a5,a6,a7,a8,a9,M,O,af⟩:=E.out.box
 go_wp2_with fail
 refine (zj (Cx.mk z j true) J H D S q (-1) d 1 sUndef _ N.out.tok K (by decide)).mono ?_
 rintro e w2 ⟨rfl,I⟩
 rw[hu]
 replace E:=zc (E.out.below I)
 replace o:=zc (o.out.below I)
 have V:=zc (ac.out.below I)
 have Y:=zc (N.out.later I)
 clear I ac N
 clear a0 a1 a2 a3 a4 a5 a6 a7 a8 a9 M O af
 obtain⟨a0,a1,a2,a3,a4,a5,a6,a7,a8,a9,M,O,af⟩:=E.out.box
 go_wp2_with fail
 refine (zbz (Cx.mk z j true) J H D (.ok q) S q (-1) d false _ (zab q) Y.out).mono ?_
 rintro e w3 ⟨X,q3,z3,n3,rfl,i3,m3,s3⟩
 replace E:=zc (E.out.stp s3)
 replace o:=zc (o.out.stp s3)
 have aa:=zc (V.out.step s3)
 clear V
 have Q:=zc m3
 have ad:=zc i3
 clear i3 m3 s3 Y
 clear a0 a1 a2 a3 a4 a5 a6 a7 a8 a9 M O af
 obtain rfl:=zhs ad.out hn
 have dz:decide ((0:Int)≤(zu (Cx.mk z j true) q.pos:Int))=true:=decide_eq_true (by omega)
 have ai:w.heap.size+1<w3.heap.size:=o.out.lt
 unfold pv
 go_upto_region 17 with fail
 refine zQ (R:=fun W=>Bx J X W (w.heap.size) _∧Bx J X W (w.heap.size+1) _∧Bx J X W (w3.heap.size) _∧Mem (Cx.mk z j true) J H D X q3 W∧SB w.heap.size S w X W) ⟨(E.out.alloc _),(o.out.alloc _),(Bx.new Q.out _),(Q.out.alloc _),(aa.out.alloc _)⟩ ?_
 clear E o aa Q
 rintro w4 ⟨U,X1,X2,m4,t4⟩
 have E:=zc U
 have o:=zc X1
 have ah:=zc X2
 have ae:=zc m4
 have ag:=zc t4
 clear m4 t4 U X1 X2
 obtain⟨b0,b1,b2,b3,b4,b5,b6,b7,b8,b9,ak,ao,bf⟩:=o.out.box
 obtain⟨c0,c1,c2,c3,c4,c5,c6,c7,c8,c9,al,am,cf⟩:=ah.out.box
 go_wp2
 refine bodyPost_ret (results_cell_row rfl _ _ (w.heap.size+1) 55 _ (0,0) _ rfl ((o.out.put ..)).heap Tryz.underlying55 rfl (by kernel_rfl)) rfl ?_
 rw[HV.out]
 exact zac rfl (show Is (.error (zu (Cx.mk z j true) q.pos)) q3 _ from rfl) (ae.out.put o.out ..) (ag.out.put (by omega) ..)
theorem zm6 (K:List Tk) (z:Nat) (J E o:Nat) (S:Sv) (q:PS) (d:Nat) (w:World) (Z:Mem (Cx.mk K z true) J E o S q w) (H:Nat):
  Calls Tryz.prog 128 #[pv (Cx.mk K z true) J E S q (H:Int) d] w (Out (Cx.mk K z true) J E o (.error H) d S w):=by
 have HM:=zc Z
 have ad:=Z.tok
 have L:(Cx.mk K z true).ts.length≤4000:=Z.few
 have ak:=(zan Z.tok).1
 clear Z
 have hz: ¬(H:Int)<0:=by omega
 have hs: ∀k s,(decide ((H:Int)<0)&&isT (Cx.mk K z true) q.pos k s)=false:=fun k s=>by rw[decide_eq_false hz];rfl
 unfold pv
 go_enter Tryz.func128,Tryz.ntmps128
 go_wp2_with fail
 refine (zj (Cx.mk K z true) J E o S q (H:Int) d 4 cOpen _ (zv (zv ad _) _) L (by decide)).mono ?_
 rintro e w1 ⟨rfl,ab⟩
 rw[hs]
 obtain⟨U,X1,m1,t1⟩:=HM.out.two ab
 have D:=zc U
 have j:=zc X1
 have N:=zc m1
 have ac:=zc t1
 clear U X1 m1 t1 ab
 obtain⟨a0,a1,a2,a3,a4,a5,a6,a7,a8,a9,M,O,af⟩:=D.out.box
 go_wp2_with fail
 refine (zj (Cx.mk K z true) J E o S q (H:Int) d 1 sUndef _ N.out.tok L (by decide)).mono ?_
 rintro e w2 ⟨rfl,I⟩
 rw[hs]
 replace D:=zc (D.out.below I)
 replace j:=zc (j.out.below I)
 have V:=zc (ac.out.below I)
 have Y:=zc (N.out.later I)
 clear I ac N
 clear a0 a1 a2 a3 a4 a5 a6 a7 a8 a9 M O af
 obtain⟨a0,a1,a2,a3,a4,a5,a6,a7,a8,a9,M,O,af⟩:=D.out.box
 go_wp2_with fail
 refine (zbz (Cx.mk K z true) J E o (.error H) S q (H:Int) d false _ (show Is (.error H) q _ from rfl) Y.out).mono ?_
 rintro e w3 ⟨X,q3,z3,n3,rfl,i3,m3,s3⟩
 replace D:=zc (D.out.stp s3)
 replace j:=zc (j.out.stp s3)
 have aa:=zc (V.out.step s3)
 clear V
 have Q:=zc m3
 have ae:=zc i3
 clear i3 m3 s3 Y
 clear a0 a1 a2 a3 a4 a5 a6 a7 a8 a9 M O af
 obtain rfl:z3=(H:Int):=ae.out
 have dz:decide ((0:Int)≤(H:Int))=true:=decide_eq_true (by omega)
 have aj:w.heap.size+1<w3.heap.size:=j.out.lt
 unfold pv
 go_upto_region 17 with fail
 refine zQ (R:=fun W=>Bx J X W (w.heap.size) _∧Bx J X W (w.heap.size+1) _∧Bx J X W (w3.heap.size) _∧Mem (Cx.mk K z true) J E o X q3 W∧SB w.heap.size S w X W) ⟨(D.out.alloc _),(j.out.alloc _),(Bx.new Q.out _),(Q.out.alloc _),(aa.out.alloc _)⟩ ?_
 clear D j aa Q
 rintro w4 ⟨U,X1,X2,m4,t4⟩
 have D:=zc U
 have j:=zc X1
 have ai:=zc X2
 have ag:=zc m4
 have ah:=zc t4
 clear m4 t4 U X1 X2
 obtain⟨b0,b1,b2,b3,b4,b5,b6,b7,b8,b9,al,ao,bf⟩:=j.out.box
 obtain⟨c0,c1,c2,c3,c4,c5,c6,c7,c8,c9,am,an,cf⟩:=ai.out.box
 go_wp2
 refine bodyPost_ret (results_cell_row rfl _ _ (w.heap.size+1) 55 _ (0,0) _ rfl ((j.out.put ..)).heap Tryz.underlying55 rfl (by kernel_rfl)) rfl ?_
 exact zac rfl (show Is (.error H) q3 _ from rfl) (ag.out.put j.out ..) (ah.out.put (by omega) ..)
theorem zuB (o:List Tk) (j:Nat) (O H z:Nat) (S:Sv) (q:PS) (d:Nat) (w:World) (Q:Mem (Cx.mk o j true) O H z S q w) (hk:((zf (Cx.mk o j true) q.pos).kind==2)=false) (ho:isT (Cx.mk o j true) q.pos 4 cOpen=false) (hp:q.pos<(Cx.mk o j true).ts.length) (hu:isT (Cx.mk o j true) q.pos 1 sUndef=true):
  Calls Tryz.prog 128 #[pv (Cx.mk o j true) O H S q (-1) d] w (Out (Cx.mk o j true) O H z (pE (Cx.mk o j true) .part d q) d S w):=by
 have HM:=zc Q
 have K:=Q.tok
 have J:(Cx.mk o j true).ts.length≤4000:=Q.few
 have ad:=(zan Q.tok).1
 clear Q
 have HV:Hid (pE (Cx.mk o j true) .part d q=zau (Cx.mk o j true) sUndef (adv q)):=by show pE (Cx.mk o j true) .part d q=_;rw[zby,hk,ho,hu];rfl
 have ag:q.pos<o.length:=hp
 obtain⟨c0,_,_,_⟩:=K.cells hp (d:=⟨0,sNone,0,(Cx.mk o j true).fin⟩)
 change _=some (Value.int .i64 (zf (Cx.mk o j true) q.pos).kind) at c0
 generalize (zf (Cx.mk o j true) q.pos).kind=kd at c0 hk
 unfold pv
 go_enter Tryz.func128,Tryz.ntmps128
 go_wp2_with fail
 refine (zj (Cx.mk o j true) O H z S q (-1) d 4 cOpen _ (zv (zv K _) _) J (by decide)).mono ?_
 rintro e w1 ⟨rfl,V⟩
 rw[ho]
 obtain⟨X0,X1,m1,t1⟩:=HM.out.two V
 have D:=zc X0
 have E:=zc X1
 have N:=zc m1
 have X:=zc t1
 clear X0 X1 m1 t1 V
 obtain⟨a0,a1,a2,a3,a4,a5,a6,a7,a8,a9,M,L,af⟩:=D.out.box
 go_wp2_with fail
 refine (zj (Cx.mk o j true) O H z S q (-1) d 1 sUndef _ N.out.tok J (by decide)).mono ?_
 rintro e w2 ⟨rfl,I⟩
 rw[hu]
 replace D:=zc (D.out.below I)
 replace E:=zc (E.out.below I)
 have U:=zc (X.out.below I)
 have Y:=zc (N.out.later I)
 clear I X N
 clear a0 a1 a2 a3 a4 a5 a6 a7 a8 a9 M L af
 obtain⟨a0,a1,a2,a3,a4,a5,a6,a7,a8,a9,M,L,af⟩:=D.out.box
 go_wp2_with fail
 refine (zjf (Cx.mk o j true) O H z S (adv q) d sUndef _ ((Y.out.adv hp).set D.out 1 _) (by simp[adv])).mono ?_
 rintro e w3 ⟨S3,q3,z3,rfl,i3,m3,Z⟩
 replace D:=zc ((D.out.at1 _).stp Z)
 replace E:=zc ((E.out.set_other (by omega) 1 _).stp Z)
 have ab:Hid (SB w.heap.size S w S3 w3):=(U.out.set (by omega) 1 _).step Z
 clear U
 have ac:=zc m3
 have aa:=zc i3
 clear i3 m3 Z Y
 clear a0 a1 a2 a3 a4 a5 a6 a7 a8 a9 M L af
 obtain⟨b0,b1,b2,b3,b4,b5,b6,b7,b8,b9,ae,ah,bf⟩:=E.out.box
 unfold pv
 go_wp2
 refine bodyPost_ret (results_cell_row rfl _ _ (w.heap.size+1) 55 _ (0,0) _ rfl ((E.out.put ..)).heap Tryz.underlying55 rfl (by kernel_rfl)) rfl ?_
 rw[HV.out]
 exact zac rfl aa.out (ac.out.put E.out ..) (ab.out.put (by omega) ..)
theorem zuC (o:List Tk) (j:Nat) (L H z:Nat) (S:Sv) (q:PS) (d:Nat) (w:World) (hm:Mem (Cx.mk o j true) L H z S q w) (hk:((zf (Cx.mk o j true) q.pos).kind==2)=false) (ho:isT (Cx.mk o j true) q.pos 4 cOpen=false) (hp:q.pos<(Cx.mk o j true).ts.length) (hu:isT (Cx.mk o j true) q.pos 1 sUndef=false) (hn:plainB (Cx.mk o j true) q.pos false=true) (hd:isT (Cx.mk o j true) (q.pos+1) 4 cPoint=false):
  Calls Tryz.prog 128 #[pv (Cx.mk o j true) L H S q (-1) d] w (Out (Cx.mk o j true) L H z (pE (Cx.mk o j true) .part d q) d S w):=by
 have HM:=zc hm
 have N:=hm.tok
 have K:(Cx.mk o j true).ts.length≤4000:=hm.few
 have aq:=(zan hm.tok).1
 clear hm
 have HV:Hid (pE (Cx.mk o j true) .part d q=zau (Cx.mk o j true) (zf (Cx.mk o j true) q.pos).text (adv q)):=by show pE (Cx.mk o j true) .part d q=_;rw[zby,hk,ho,hu,zk,hn];show (if isT (Cx.mk o j true) (adv q).pos 4 cPoint then _ else _)=_;rw[zz,hd];rfl
 have au:q.pos<o.length:=hp
 obtain⟨c0,_,_,_⟩:=N.cells hp (d:=⟨0,sNone,0,(Cx.mk o j true).fin⟩)
 change _=some (Value.int .i64 (zf (Cx.mk o j true) q.pos).kind) at c0
 generalize (zf (Cx.mk o j true) q.pos).kind=kd at c0 hk
 unfold pv
 go_enter Tryz.func128,Tryz.ntmps128
 go_wp2_with fail
 refine (zj (Cx.mk o j true) L H z S q (-1) d 4 cOpen _ (zv (zv N _) _) K (by decide)).mono ?_
 rintro e w1 ⟨rfl,ae⟩
 rw[ho]
 obtain⟨X0,X1,m1,t1⟩:=HM.out.two ae
 have E:=zc X0
 have D:=zc X1
 have Q:=zc m1
 have ag:=zc t1
 clear X0 X1 m1 t1 ae
 obtain⟨a0,a1,a2,a3,a4,a5,a6,a7,a8,a9,O,V,af⟩:=E.out.box
 go_wp2_with fail
 refine (zj (Cx.mk o j true) L H z S q (-1) d 1 sUndef _ Q.out.tok K (by decide)).mono ?_
 rintro e w2 ⟨rfl,J⟩
 rw[hu]
 replace E:=zc (E.out.below J)
 replace D:=zc (D.out.below J)
 have Y:=zc (ag.out.below J)
 have ac:=zc (Q.out.later J)
 clear J ag Q
 clear a0 a1 a2 a3 a4 a5 a6 a7 a8 a9 O V af
 obtain⟨a0,a1,a2,a3,a4,a5,a6,a7,a8,a9,O,V,af⟩:=E.out.box
 go_wp2_with fail
 refine (zbz (Cx.mk o j true) L H z (.ok q) S q (-1) d false _ (zab q) ac.out).mono ?_
 rintro e w3 ⟨S3,q3,z3,n3,rfl,i3,m3,s3⟩
 replace E:=zc (E.out.stp s3)
 replace D:=zc (D.out.stp s3)
 have ad:=zc (Y.out.step s3)
 clear Y
 have M:=zc m3
 have X:=zc i3
 clear i3 m3 s3 ac
 clear a0 a1 a2 a3 a4 a5 a6 a7 a8 a9 O V af
 obtain⟨hq,rfl,ah⟩:=zhr X.out hn
 have HQ:=zc hq
 have ai:=zc ah
 have aa:q3.pos=q.pos+1:=by rw[hq];rfl
 have ak:isT (Cx.mk o j true) q3.pos 4 cPoint=false:=by rw[aa];exact hd
 clear hq ah X
 have ap:w.heap.size+1<w3.heap.size:=D.out.lt
 unfold pv
 clear aa
 go_wp2_with fail
 refine (zj (Cx.mk o j true) L H z S3 q3 (-1) d 4 cPoint _ (M.out.alloc _).tok K (by decide)).mono ?_
 rintro e w4 ⟨rfl,I⟩
 rw[ak]
 replace E:=zc ((E.out.alloc _).below I)
 replace D:=zc ((D.out.alloc _).below I)
 replace U:=zc ((Bx.new M.out _).below I)
 have ab:Hid (SB w.heap.size S w S3 w4):=(ad.out.alloc _).below I
 have Z:Hid (Mem (Cx.mk o j true) L H z S3 q3 w4):=(M.out.alloc _).later I
 clear I ad M
 obtain⟨c0,c1,c2,c3,c4,c5,c6,c7,c8,c9,aj,am,cf⟩:=U.out.box
 go_wp2_with fail
 refine (zjf (Cx.mk o j true) L H z S3 q3 d n3 _ Z.out (by rw[HQ.out];simp[adv])).mono ?_
 rintro e w5 ⟨S5,q5,z5,rfl,i5,m5,s5⟩
 replace E:=zc (E.out.stp s5)
 replace D:=zc (D.out.stp s5)
 replace U:=zc (U.out.stp s5)
 have ao:=zc (ab.out.step s5)
 clear ab
 have al:=zc m5
 have an:=zc i5
 clear i5 m5 s5 Z
 clear c0 c1 c2 c3 c4 c5 c6 c7 c8 c9 aj am cf
 obtain⟨b0,b1,b2,b3,b4,b5,b6,b7,b8,b9,ar,av,bf⟩:=D.out.box
 unfold pv
 go_wp2
 refine bodyPost_ret (results_cell_row rfl _ _ (w.heap.size+1) 55 _ (0,0) _ rfl ((D.out.put ..)).heap Tryz.underlying55 rfl (by kernel_rfl)) rfl ?_
 rw[HV.out,←HQ.out,←ai.out]
 exact zac rfl an.out (al.out.put D.out ..) (ao.out.put (by omega) ..)
theorem zuD (E:List Tk) (j:Nat) (L H z:Nat) (S:Sv) (q:PS) (d:Nat) (w:World) (hm:Mem (Cx.mk E j true) L H z S q w) (hk:((zf (Cx.mk E j true) q.pos).kind==2)=false) (ho:isT (Cx.mk E j true) q.pos 4 cOpen=false) (hp:q.pos<(Cx.mk E j true).ts.length) (hu:isT (Cx.mk E j true) q.pos 1 sUndef=false) (hn:plainB (Cx.mk E j true) q.pos false=true) (hd:isT (Cx.mk E j true) (q.pos+1) 4 cPoint=true):
  Calls Tryz.prog 128 #[pv (Cx.mk E j true) L H S q (-1) d] w (Out (Cx.mk E j true) L H z (pE (Cx.mk E j true) .part d q) d S w):=by
 have HM:=zc hm
 have ag:=hm.tok
 have N:(Cx.mk E j true).ts.length≤4000:=hm.few
 have aN:=(zan hm.tok).1
 clear hm
 have HV:Hid (pE (Cx.mk E j true) .part d q=bd (bd (.ok (adv (adv q))) (zk (Cx.mk E j true) true)) fun y=>za5 (Cx.mk E j true) (zf (Cx.mk E j true) q.pos).text y.2 y.1):=by show pE (Cx.mk E j true) .part d q=_;rw[zby,hk,ho,hu,zk,hn];show (if isT (Cx.mk E j true) (adv q).pos 4 cPoint then _ else _)=_;rw[zz,hd];rfl
 have aP:q.pos<E.length:=hp
 obtain⟨c0,_,_,_⟩:=ag.cells hp (d:=⟨0,sNone,0,(Cx.mk E j true).fin⟩)
 change _=some (Value.int .i64 (zf (Cx.mk E j true) q.pos).kind) at c0
 generalize (zf (Cx.mk E j true) q.pos).kind=kd at c0 hk
 unfold pv
 go_enter Tryz.func128,Tryz.ntmps128
 go_wp2_with fail
 refine (zj (Cx.mk E j true) L H z S q (-1) d 4 cOpen _ (zv (zv ag _) _) N (by decide)).mono ?_
 rintro e w1 ⟨rfl,aA⟩
 rw[ho]
 obtain⟨X0,X1,m1,t1⟩:=HM.out.two aA
 have D:=zc X0
 have o:=zc X1
 have ai:=zc m1
 have aB:=zc t1
 clear X0 X1 m1 t1 aA
 obtain⟨a0,a1,a2,a3,a4,a5,a6,a7,a8,a9,ah,aj,af⟩:=D.out.box
 go_wp2_with fail
 refine (zj (Cx.mk E j true) L H z S q (-1) d 1 sUndef _ ai.out.tok N (by decide)).mono ?_
 rintro e w2 ⟨rfl,Y⟩
 rw[hu]
 replace D:=zc (D.out.below Y)
 replace o:=zc (o.out.below Y)
 have an:=zc (aB.out.below Y)
 have ar:=zc (ai.out.later Y)
 clear Y aB ai
 clear a0 a1 a2 a3 a4 a5 a6 a7 a8 a9 ah aj af
 obtain⟨a0,a1,a2,a3,a4,a5,a6,a7,a8,a9,ah,aj,af⟩:=D.out.box
 go_wp2_with fail
 refine (zbz (Cx.mk E j true) L H z (.ok q) S q (-1) d false _ (zab q) ar.out).mono ?_
 rintro e w3 ⟨S3,q3,z3,n3,rfl,i3,m3,s3⟩
 replace D:=zc (D.out.stp s3)
 replace o:=zc (o.out.stp s3)
 have ay:=zc (an.out.step s3)
 clear an
 have ae:=zc m3
 have am:=zc i3
 clear i3 m3 s3 ar
 clear a0 a1 a2 a3 a4 a5 a6 a7 a8 a9 ah aj af
 obtain⟨hq,rfl,aC⟩:=zhr am.out hn
 have HQ:=zc hq
 have aw:=zc aC
 have ap:q3.pos=q.pos+1:=by rw[hq];rfl
 have ax:isT (Cx.mk E j true) q3.pos 4 cPoint=true:=by rw[ap];exact hd
 clear hq aC am
 have aL:w.heap.size+1<w3.heap.size:=o.out.lt
 unfold pv
 clear ap
 go_wp2_with fail
 refine (zj (Cx.mk E j true) L H z S3 q3 (-1) d 4 cPoint _ (ae.out.alloc _).tok N (by decide)).mono ?_
 rintro e w4 ⟨rfl,Q⟩
 rw[ax]
 replace D:=zc ((D.out.alloc _).below Q)
 replace o:=zc ((o.out.alloc _).below Q)
 replace I:=zc ((Bx.new ae.out _).below Q)
 have aq:Hid (SB w.heap.size S w S3 w4):=(ay.out.alloc _).below Q
 have ao:Hid (Mem (Cx.mk E j true) L H z S3 q3 w4):=(ae.out.alloc _).later Q
 clear Q ay ae
 obtain⟨c0,c1,c2,c3,c4,c5,c6,c7,c8,c9,aG,aH,cf⟩:=I.out.box
 have av:q3.pos<(Cx.mk E j true).ts.length:=za1 ax (by decide)
 have aM:q3.pos<E.length:=av
 go_wp2_with fail
 refine (zbz (Cx.mk E j true) L H z (.ok (adv q3)) S3 (adv q3) (-1) d true _ (zab _) ((ao.out.adv av).set I.out 1 _)).mono ?_
 rintro e w5 ⟨S5,q5,z5,n5,rfl,i5,m5,s5⟩
 replace D:=zc ((D.out.set_other (by omega) 1 _).stp s5)
 replace o:=zc ((o.out.set_other (by omega) 1 _).stp s5)
 replace I:=zc ((I.out.at1 _).stp s5)
 have ad:Hid (SB w.heap.size S w S5 w5):=(aq.out.set (by omega) 1 _).step s5
 clear aq
 have M:=zc m5
 have aa:=zc i5
 clear i5 m5 s5 ao
 clear c0 c1 c2 c3 c4 c5 c6 c7 c8 c9 aG aH cf
 have aO:w.heap.size+1<w5.heap.size:=o.out.lt
 have aD:w3.heap.size<w5.heap.size:=I.out.lt
 cases hc:(decide (z5<0)&&isT (Cx.mk E j true) q5.pos 4 cOpen) with
 |true=>
  unfold pv
  go_wp2_with fail
  refine (zj (Cx.mk E j true) L H z S5 q5 z5 d 4 cOpen _ (M.out.alloc _).tok N (by decide)).mono ?_
  rintro e w6 ⟨rfl,J⟩
  rw[hc]
  replace D:=zc ((D.out.alloc _).below J)
  replace o:=zc ((o.out.alloc _).below J)
  replace I:=zc ((I.out.alloc _).below J)
  replace K:=zc ((Bx.new M.out _).below J)
  have U:Hid (SB w.heap.size S w S5 w6):=(ad.out.alloc _).below J
  have X:Hid (Mem (Cx.mk E j true) L H z S5 q5 w6):=(M.out.alloc _).later J
  clear J ad M
  obtain⟨d0,d1,d2,d3,d4,d5,d6,d7,d8,d9,V,Z,df⟩:=K.out.box
  go_wp2_with fail
  refine (zah (Cx.mk E j true) L H z _ S5 q5 z5 d cOpen _ aa.out.fst X.out).mono ?_
  rintro e w7 ⟨S7,q7,z7,rfl,i7,m7,O⟩
  replace D:=zc (D.out.stp O)
  replace o:=zc (o.out.stp O)
  replace I:=zc (I.out.stp O)
  replace K:=zc (K.out.stp O)
  have ab:=zc (U.out.step O)
  clear U
  have ac:=zc m7
  have ak:=zc i7
  clear i7 m7 O X
  clear d0 d1 d2 d3 d4 d5 d6 d7 d8 d9 V Z df
  go_wp2_with fail
  refine (zah (Cx.mk E j true) L H z _ S7 q7 z7 d zU _ ak.out ac.out).mono ?_
  rintro e w8 ⟨S8,q8,z8,rfl,i8,m8,s8⟩
  replace D:=zc (D.out.stp s8)
  replace o:=zc (o.out.stp s8)
  replace I:=zc (I.out.stp s8)
  replace K:=zc (K.out.stp s8)
  have az:=zc (ab.out.step s8)
  clear ab
  have al:=zc m8
  have au:=zc i8
  clear i8 m8 s8 ac
  obtain⟨d0,d1,d2,d3,d4,d5,d6,d7,d8,d9,V,Z,df⟩:=K.out.box
  unfold pv
  go_wp2_with fail
  refine (zcX (Cx.mk E j true) L H z _ S8 q8 z8 d ⟨5,0,n3,n5,0,0⟩ _ au.out (al.out.put K.out ..) (zb5 au.out)).mono ?_
  rintro e w9 ⟨S9,q9,z9,rfl,i9,m9,s9⟩
  replace D:=zc ((D.out.other (by omega) ..).stp s9)
  replace o:=zc ((o.out.other (by omega) ..).stp s9)
  replace I:=zc ((I.out.other (by omega) ..).stp s9)
  replace K:=zc ((K.out.put ..).stp s9)
  have aF:Hid (SB w.heap.size S w S9 w9):=(az.out.put (by omega) ..).step s9
  clear az
  have aI:=zc m9
  have aK:=zc i9
  clear i9 m9 s9 al
  clear d0 d1 d2 d3 d4 d5 d6 d7 d8 d9 V Z df
  obtain⟨b0,b1,b2,b3,b4,b5,b6,b7,b8,b9,aE,aJ,bf⟩:=o.out.box
  unfold pv
  go_wp2
  refine bodyPost_ret (results_cell_row rfl _ _ (w.heap.size+1) 55 _ (0,0) _ rfl ((o.out.put ..)).heap Tryz.underlying55 rfl (by kernel_rfl)) rfl ?_
  rw[HV.out,←HQ.out,←aw.out,←zm3 aa.out hc]
  exact zac rfl aK.out (aI.out.put o.out ..) (aF.out.put (by omega) ..)
 |false=>
  unfold pv
  go_wp2_with fail
  refine (zj (Cx.mk E j true) L H z S5 q5 z5 d 4 cOpen _ (M.out.alloc _).tok N (by decide)).mono ?_
  rintro e w6 ⟨rfl,J⟩
  rw[hc]
  replace D:=zc ((D.out.alloc _).below J)
  replace o:=zc ((o.out.alloc _).below J)
  replace I:=zc ((I.out.alloc _).below J)
  replace K:=zc ((Bx.new M.out _).below J)
  have U:Hid (SB w.heap.size S w S5 w6):=(ad.out.alloc _).below J
  have X:Hid (Mem (Cx.mk E j true) L H z S5 q5 w6):=(M.out.alloc _).later J
  clear J ad M
  obtain⟨d0,d1,d2,d3,d4,d5,d6,d7,d8,d9,V,Z,df⟩:=K.out.box
  go_wp2_with fail
  refine (zcX (Cx.mk E j true) L H z _ S5 q5 z5 d ⟨4,0,n3,n5,0,0⟩ _ aa.out.fst X.out (zm5 aa.out)).mono ?_
  rintro e w7 ⟨S7,q7,z7,rfl,i7,m7,O⟩
  replace D:=zc (D.out.stp O)
  replace o:=zc (o.out.stp O)
  replace I:=zc (I.out.stp O)
  replace K:=zc (K.out.stp O)
  have ab:=zc (U.out.step O)
  clear U
  have ac:=zc m7
  have ak:=zc i7
  clear i7 m7 O X
  clear d0 d1 d2 d3 d4 d5 d6 d7 d8 d9 V Z df
  obtain⟨b0,b1,b2,b3,b4,b5,b6,b7,b8,b9,aE,aJ,bf⟩:=o.out.box
  unfold pv
  go_wp2
  refine bodyPost_ret (results_cell_row rfl _ _ (w.heap.size+1) 55 _ (0,0) _ rfl ((o.out.put ..)).heap Tryz.underlying55 rfl (by kernel_rfl)) rfl ?_
  rw[HV.out,←HQ.out,←aw.out,←zm4 aa.out hc]
  exact zac rfl ak.out (ac.out.put o.out ..) (ab.out.put (by omega) ..)
theorem zuE (z:List Tk) (j:Nat) (I E D:Nat) (S:Sv) (q:PS) (d:Nat) (w:World) (M:Mem (Cx.mk z j false) I E D S q w) (hp: ¬q.pos<(Cx.mk z j false).ts.length):
  Calls Tryz.prog 128 #[pv (Cx.mk z j false) I E S q (-1) d] w (Out (Cx.mk z j false) I E D (pE (Cx.mk z j false) .part d q) d S w):=by
 have HM:=zc M
 have Y:=M.tok
 have Q:(Cx.mk z j false).ts.length≤4000:=M.few
 have ai:=(zan M.tok).1
 clear M
 have hk:((zf (Cx.mk z j false) q.pos).kind==2)=false:=by rw[zcT (by omega)];rfl
 have ho:isT (Cx.mk z j false) q.pos 4 cOpen=false:=zfA hp (by decide)
 have hu:isT (Cx.mk z j false) q.pos 1 sUndef=false:=zfA hp (by decide)
 have hn:plainB (Cx.mk z j false) q.pos false=false:=zhP hp
 have HV:Hid (pE (Cx.mk z j false) .part d q= .error (zu (Cx.mk z j false) q.pos)):=by show pE (Cx.mk z j false) .part d q=_;rw[zby,hk,ho,zk,hn];rfl
 have am: ¬q.pos<z.length:=hp
 unfold pv
 go_enter Tryz.func128,Tryz.ntmps128
 go_wp2_with fail
 refine (zj (Cx.mk z j false) I E D S q (-1) d 4 cOpen _ (zv (zv Y _) _) Q (by decide)).mono ?_
 rintro e w1 ⟨rfl,U⟩
 rw[ho]
 obtain⟨K,N,m1,t1⟩:=HM.out.two U
 have H:=zc K
 have o:=zc N
 have O:=zc m1
 have V:=zc t1
 clear K N m1 t1 U
 obtain⟨a0,a1,a2,a3,a4,a5,a6,a7,a8,a9,aa,ae,af⟩:=H.out.box
 go_wp2_with fail
 refine (zbz (Cx.mk z j false) I E D (.ok q) S q (-1) d false _ (zab q) O.out).mono ?_
 rintro e w2 ⟨X,q2,z2,n2,rfl,i2,m2,Z⟩
 replace H:=zc (H.out.stp Z)
 replace o:=zc (o.out.stp Z)
 have L:=zc (V.out.step Z)
 clear V
 have J:=zc m2
 have ab:=zc i2
 clear i2 m2 Z O
 clear a0 a1 a2 a3 a4 a5 a6 a7 a8 a9 aa ae af
 obtain rfl:=zhs ab.out hn
 have dz:decide ((0:Int)≤(zu (Cx.mk z j false) q.pos:Int))=true:=decide_eq_true (by omega)
 have ah:w.heap.size+1<w2.heap.size:=o.out.lt
 unfold pv
 go_upto_region 17 with fail
 refine zQ (R:=fun W=>Bx I X W (w.heap.size) _∧Bx I X W (w.heap.size+1) _∧Bx I X W (w2.heap.size) _∧Mem (Cx.mk z j false) I E D X q2 W∧SB w.heap.size S w X W) ⟨(H.out.alloc _),(o.out.alloc _),(Bx.new J.out _),(J.out.alloc _),(L.out.alloc _)⟩ ?_
 clear H o L J
 rintro w3 ⟨K,N,X2,m3,t3⟩
 have H:=zc K
 have o:=zc N
 have ac:=zc X2
 have ag:=zc m3
 have ad:=zc t3
 clear m3 t3 K N X2
 obtain⟨b0,b1,b2,b3,b4,b5,b6,b7,b8,b9,aj,an,bf⟩:=o.out.box
 obtain⟨c0,c1,c2,c3,c4,c5,c6,c7,c8,c9,ak,al,cf⟩:=ac.out.box
 go_wp2
 refine bodyPost_ret (results_cell_row rfl _ _ (w.heap.size+1) 55 _ (0,0) _ rfl ((o.out.put ..)).heap Tryz.underlying55 rfl (by kernel_rfl)) rfl ?_
 rw[HV.out]
 exact zac rfl (show Is (.error (zu (Cx.mk z j false) q.pos)) q2 _ from rfl) (ag.out.put o.out ..) (ad.out.put (by omega) ..)
theorem zuF (o:List Tk) (j:Nat) (I E D:Nat) (S:Sv) (q:PS) (d:Nat) (w:World) (N:Mem (Cx.mk o j false) I E D S q w) (hk:((zf (Cx.mk o j false) q.pos).kind==2)=false) (ho:isT (Cx.mk o j false) q.pos 4 cOpen=false) (hp:q.pos<(Cx.mk o j false).ts.length) (hn:plainB (Cx.mk o j false) q.pos false=false):
  Calls Tryz.prog 128 #[pv (Cx.mk o j false) I E S q (-1) d] w (Out (Cx.mk o j false) I E D (pE (Cx.mk o j false) .part d q) d S w):=by
 have HM:=zc N
 have J:=N.tok
 have U:(Cx.mk o j false).ts.length≤4000:=N.few
 have ai:=(zan N.tok).1
 clear N
 have HV:Hid (pE (Cx.mk o j false) .part d q= .error (zu (Cx.mk o j false) q.pos)):=by show pE (Cx.mk o j false) .part d q=_;rw[zby,hk,ho,zk,hn];rfl
 have am:q.pos<o.length:=hp
 obtain⟨c0,_,_,_⟩:=J.cells hp (d:=⟨0,sNone,0,(Cx.mk o j false).fin⟩)
 change _=some (Value.int .i64 (zf (Cx.mk o j false) q.pos).kind) at c0
 generalize (zf (Cx.mk o j false) q.pos).kind=kd at c0 hk
 unfold pv
 go_enter Tryz.func128,Tryz.ntmps128
 go_wp2_with fail
 refine (zj (Cx.mk o j false) I E D S q (-1) d 4 cOpen _ (zv (zv J _) _) U (by decide)).mono ?_
 rintro e w1 ⟨rfl,V⟩
 rw[ho]
 obtain⟨L,O,m1,t1⟩:=HM.out.two V
 have H:=zc L
 have z:=zc O
 have Q:=zc m1
 have X:=zc t1
 clear L O m1 t1 V
 obtain⟨a0,a1,a2,a3,a4,a5,a6,a7,a8,a9,aa,ae,af⟩:=H.out.box
 go_wp2_with fail
 refine (zbz (Cx.mk o j false) I E D (.ok q) S q (-1) d false _ (zab q) Q.out).mono ?_
 rintro e w2 ⟨Y,q2,z2,n2,rfl,i2,m2,Z⟩
 replace H:=zc (H.out.stp Z)
 replace z:=zc (z.out.stp Z)
 have M:=zc (X.out.step Z)
 clear X
 have K:=zc m2
 have ab:=zc i2
 clear i2 m2 Z Q
 clear a0 a1 a2 a3 a4 a5 a6 a7 a8 a9 aa ae af
 obtain rfl:=zhs ab.out hn
 have dz:decide ((0:Int)≤(zu (Cx.mk o j false) q.pos:Int))=true:=decide_eq_true (by omega)
 have ah:w.heap.size+1<w2.heap.size:=z.out.lt
 unfold pv
 go_upto_region 17 with fail
 refine zQ (R:=fun W=>Bx I Y W (w.heap.size) _∧Bx I Y W (w.heap.size+1) _∧Bx I Y W (w2.heap.size) _∧Mem (Cx.mk o j false) I E D Y q2 W∧SB w.heap.size S w Y W) ⟨(H.out.alloc _),(z.out.alloc _),(Bx.new K.out _),(K.out.alloc _),(M.out.alloc _)⟩ ?_
 clear H z M K
 rintro w3 ⟨L,O,X2,m3,t3⟩
 have H:=zc L
 have z:=zc O
 have ac:=zc X2
 have ag:=zc m3
 have ad:=zc t3
 clear m3 t3 L O X2
 obtain⟨b0,b1,b2,b3,b4,b5,b6,b7,b8,b9,aj,an,bf⟩:=z.out.box
 obtain⟨c0,c1,c2,c3,c4,c5,c6,c7,c8,c9,ak,al,cf⟩:=ac.out.box
 go_wp2
 refine bodyPost_ret (results_cell_row rfl _ _ (w.heap.size+1) 55 _ (0,0) _ rfl ((z.out.put ..)).heap Tryz.underlying55 rfl (by kernel_rfl)) rfl ?_
 rw[HV.out]
 exact zac rfl (show Is (.error (zu (Cx.mk o j false) q.pos)) q2 _ from rfl) (ag.out.put z.out ..) (ad.out.put (by omega) ..)
theorem zm7 (J:List Tk) (o:Nat) (I D z:Nat) (S:Sv) (q:PS) (d:Nat) (w:World) (N:Mem (Cx.mk J o false) I D z S q w) (H:Nat):
  Calls Tryz.prog 128 #[pv (Cx.mk J o false) I D S q (H:Int) d] w (Out (Cx.mk J o false) I D z (.error H) d S w):=by
 have HM:=zc N
 have Z:=N.tok
 have U:(Cx.mk J o false).ts.length≤4000:=N.few
 have ai:=(zan N.tok).1
 clear N
 have hz: ¬(H:Int)<0:=by omega
 have hs: ∀k s,(decide ((H:Int)<0)&&isT (Cx.mk J o false) q.pos k s)=false:=fun k s=>by rw[decide_eq_false hz];rfl
 unfold pv
 go_enter Tryz.func128,Tryz.ntmps128
 go_wp2_with fail
 refine (zj (Cx.mk J o false) I D z S q (H:Int) d 4 cOpen _ (zv (zv Z _) _) U (by decide)).mono ?_
 rintro e w1 ⟨rfl,V⟩
 rw[hs]
 obtain⟨L,O,m1,t1⟩:=HM.out.two V
 have E:=zc L
 have j:=zc O
 have Q:=zc m1
 have X:=zc t1
 clear L O m1 t1 V
 obtain⟨a0,a1,a2,a3,a4,a5,a6,a7,a8,a9,aa,ae,af⟩:=E.out.box
 go_wp2_with fail
 refine (zbz (Cx.mk J o false) I D z (.error H) S q (H:Int) d false _ (show Is (.error H) q _ from rfl) Q.out).mono ?_
 rintro e w2 ⟨Y,q2,z2,n2,rfl,i2,m2,s2⟩
 replace E:=zc (E.out.stp s2)
 replace j:=zc (j.out.stp s2)
 have M:=zc (X.out.step s2)
 clear X
 have K:=zc m2
 have ab:=zc i2
 clear i2 m2 s2 Q
 clear a0 a1 a2 a3 a4 a5 a6 a7 a8 a9 aa ae af
 obtain rfl:z2=(H:Int):=ab.out
 have dz:decide ((0:Int)≤(H:Int))=true:=decide_eq_true (by omega)
 have ah:w.heap.size+1<w2.heap.size:=j.out.lt
 unfold pv
 go_upto_region 17 with fail
 refine zQ (R:=fun W=>Bx I Y W (w.heap.size) _∧Bx I Y W (w.heap.size+1) _∧Bx I Y W (w2.heap.size) _∧Mem (Cx.mk J o false) I D z Y q2 W∧SB w.heap.size S w Y W) ⟨(E.out.alloc _),(j.out.alloc _),(Bx.new K.out _),(K.out.alloc _),(M.out.alloc _)⟩ ?_
 clear E j M K
 rintro w3 ⟨L,O,X2,m3,t3⟩
 have E:=zc L
 have j:=zc O
 have ac:=zc X2
 have ag:=zc m3
 have ad:=zc t3
 clear m3 t3 L O X2
 obtain⟨b0,b1,b2,b3,b4,b5,b6,b7,b8,b9,aj,am,bf⟩:=j.out.box
 obtain⟨c0,c1,c2,c3,c4,c5,c6,c7,c8,c9,ak,al,cf⟩:=ac.out.box
 go_wp2
 refine bodyPost_ret (results_cell_row rfl _ _ (w.heap.size+1) 55 _ (0,0) _ rfl ((j.out.put ..)).heap Tryz.underlying55 rfl (by kernel_rfl)) rfl ?_
 exact zac rfl (show Is (.error H) q2 _ from rfl) (ag.out.put j.out ..) (ad.out.put (by omega) ..)
theorem zuG (o:List Tk) (j:Nat) (K E z:Nat) (S:Sv) (q:PS) (d:Nat) (w:World) (V:Mem (Cx.mk o j false) K E z S q w) (hk:((zf (Cx.mk o j false) q.pos).kind==2)=false) (ho:isT (Cx.mk o j false) q.pos 4 cOpen=false) (hp:q.pos<(Cx.mk o j false).ts.length) (hn:plainB (Cx.mk o j false) q.pos false=true) (hd:isT (Cx.mk o j false) (q.pos+1) 4 cPoint=false):
  Calls Tryz.prog 128 #[pv (Cx.mk o j false) K E S q (-1) d] w (Out (Cx.mk o j false) K E z (pE (Cx.mk o j false) .part d q) d S w):=by
 have HM:=zc V
 have M:=V.tok
 have L:(Cx.mk o j false).ts.length≤4000:=V.few
 have aq:=(zan V.tok).1
 clear V
 have HV:Hid (pE (Cx.mk o j false) .part d q=zau (Cx.mk o j false) (zf (Cx.mk o j false) q.pos).text (adv q)):=by show pE (Cx.mk o j false) .part d q=_;rw[zby,hk,ho,zk,hn];show (if isT (Cx.mk o j false) (adv q).pos 4 cPoint then _ else _)=_;rw[zz,hd];rfl
 have au:q.pos<o.length:=hp
 obtain⟨c0,_,_,_⟩:=M.cells hp (d:=⟨0,sNone,0,(Cx.mk o j false).fin⟩)
 change _=some (Value.int .i64 (zf (Cx.mk o j false) q.pos).kind) at c0
 generalize (zf (Cx.mk o j false) q.pos).kind=kd at c0 hk
 unfold pv
 go_enter Tryz.func128,Tryz.ntmps128
 go_wp2_with fail
 refine (zj (Cx.mk o j false) K E z S q (-1) d 4 cOpen _ (zv (zv M _) _) L (by decide)).mono ?_
 rintro e w1 ⟨rfl,ab⟩
 rw[ho]
 obtain⟨X0,X1,m1,t1⟩:=HM.out.two ab
 have H:=zc X0
 have D:=zc X1
 have Z:=zc m1
 have ac:=zc t1
 clear X0 X1 m1 t1 ab
 obtain⟨a0,a1,a2,a3,a4,a5,a6,a7,a8,a9,ag,am,af⟩:=H.out.box
 go_wp2_with fail
 refine (zbz (Cx.mk o j false) K E z (.ok q) S q (-1) d false _ (zab q) Z.out).mono ?_
 rintro e w2 ⟨S2,Q,z2,n2,rfl,i2,m2,s2⟩
 replace H:=zc (H.out.stp s2)
 replace D:=zc (D.out.stp s2)
 have O:=zc (ac.out.step s2)
 clear ac
 have J:=zc m2
 have Y:=zc i2
 clear i2 m2 s2 Z
 clear a0 a1 a2 a3 a4 a5 a6 a7 a8 a9 ag am af
 obtain⟨hq,rfl,ad⟩:=zhr Y.out hn
 have HQ:=zc hq
 have aj:=zc ad
 have U:Q.pos=q.pos+1:=by rw[hq];rfl
 have al:isT (Cx.mk o j false) Q.pos 4 cPoint=false:=by rw[U];exact hd
 clear hq ad Y
 have ap:w.heap.size+1<w2.heap.size:=D.out.lt
 unfold pv
 clear U
 go_wp2_with fail
 refine (zj (Cx.mk o j false) K E z S2 Q (-1) d 4 cPoint _ (J.out.alloc _).tok L (by decide)).mono ?_
 rintro e w3 ⟨rfl,I⟩
 rw[al]
 replace H:=zc ((H.out.alloc _).below I)
 replace D:=zc ((D.out.alloc _).below I)
 replace N:=zc ((Bx.new J.out _).below I)
 have aa:Hid (SB w.heap.size S w S2 w3):=(O.out.alloc _).below I
 have ae:Hid (Mem (Cx.mk o j false) K E z S2 Q w3):=(J.out.alloc _).later I
 clear I O J
 obtain⟨c0,c1,c2,c3,c4,c5,c6,c7,c8,c9,ak,an,cf⟩:=N.out.box
 go_wp2_with fail
 refine (zjf (Cx.mk o j false) K E z S2 Q d n2 _ ae.out (by rw[HQ.out];simp[adv])).mono ?_
 rintro e w4 ⟨S4,q4,z4,rfl,i4,m4,X⟩
 replace H:=zc (H.out.stp X)
 replace D:=zc (D.out.stp X)
 replace N:=zc (N.out.stp X)
 have ai:=zc (aa.out.step X)
 clear aa
 have ah:=zc m4
 have ao:=zc i4
 clear i4 m4 X ae
 clear c0 c1 c2 c3 c4 c5 c6 c7 c8 c9 ak an cf
 obtain⟨b0,b1,b2,b3,b4,b5,b6,b7,b8,b9,ar,av,bf⟩:=D.out.box
 unfold pv
 go_wp2
 refine bodyPost_ret (results_cell_row rfl _ _ (w.heap.size+1) 55 _ (0,0) _ rfl ((D.out.put ..)).heap Tryz.underlying55 rfl (by kernel_rfl)) rfl ?_
 rw[HV.out,←HQ.out,←aj.out]
 exact zac rfl ao.out (ah.out.put D.out ..) (ai.out.put (by omega) ..)
theorem zuH (E:List Tk) (j:Nat) (M I z:Nat) (S:Sv) (q:PS) (d:Nat) (w:World) (hm:Mem (Cx.mk E j false) M I z S q w) (hk:((zf (Cx.mk E j false) q.pos).kind==2)=false) (ho:isT (Cx.mk E j false) q.pos 4 cOpen=false) (hp:q.pos<(Cx.mk E j false).ts.length) (hn:plainB (Cx.mk E j false) q.pos false=true) (hd:isT (Cx.mk E j false) (q.pos+1) 4 cPoint=true):
  Calls Tryz.prog 128 #[pv (Cx.mk E j false) M I S q (-1) d] w (Out (Cx.mk E j false) M I z (pE (Cx.mk E j false) .part d q) d S w):=by
 have HM:=zc hm
 have ae:=hm.tok
 have N:(Cx.mk E j false).ts.length≤4000:=hm.few
 have aK:=(zan hm.tok).1
 clear hm
 have HV:Hid (pE (Cx.mk E j false) .part d q=bd (bd (.ok (adv (adv q))) (zk (Cx.mk E j false) true)) fun y=>za5 (Cx.mk E j false) (zf (Cx.mk E j false) q.pos).text y.2 y.1):=by show pE (Cx.mk E j false) .part d q=_;rw[zby,hk,ho,zk,hn];show (if isT (Cx.mk E j false) (adv q).pos 4 cPoint then _ else _)=_;rw[zz,hd];rfl
 have aM:q.pos<E.length:=hp
 obtain⟨c0,_,_,_⟩:=ae.cells hp (d:=⟨0,sNone,0,(Cx.mk E j false).fin⟩)
 change _=some (Value.int .i64 (zf (Cx.mk E j false) q.pos).kind) at c0
 generalize (zf (Cx.mk E j false) q.pos).kind=kd at c0 hk
 unfold pv
 go_enter Tryz.func128,Tryz.ntmps128
 go_wp2_with fail
 refine (zj (Cx.mk E j false) M I z S q (-1) d 4 cOpen _ (zv (zv ae _) _) N (by decide)).mono ?_
 rintro e w1 ⟨rfl,au⟩
 rw[ho]
 obtain⟨X0,X1,m1,t1⟩:=HM.out.two au
 have D:=zc X0
 have o:=zc X1
 have ap:=zc m1
 have av:=zc t1
 clear X0 X1 m1 t1 au
 obtain⟨a0,a1,a2,a3,a4,a5,a6,a7,a8,a9,az,aE,af⟩:=D.out.box
 go_wp2_with fail
 refine (zbz (Cx.mk E j false) M I z (.ok q) S q (-1) d false _ (zab q) ap.out).mono ?_
 rintro e w2 ⟨S2,q2,z2,n2,rfl,i2,m2,s2⟩
 replace D:=zc (D.out.stp s2)
 replace o:=zc (o.out.stp s2)
 have ai:=zc (av.out.step s2)
 clear av
 have ad:=zc m2
 have ao:=zc i2
 clear i2 m2 s2 ap
 clear a0 a1 a2 a3 a4 a5 a6 a7 a8 a9 az aE af
 obtain⟨hq,rfl,aw⟩:=zhr ao.out hn
 have HQ:=zc hq
 have am:=zc aw
 have aj:q2.pos=q.pos+1:=by rw[hq];rfl
 have an:isT (Cx.mk E j false) q2.pos 4 cPoint=true:=by rw[aj];exact hd
 clear hq aw ao
 have aI:w.heap.size+1<w2.heap.size:=o.out.lt
 unfold pv
 clear aj
 go_wp2_with fail
 refine (zj (Cx.mk E j false) M I z S2 q2 (-1) d 4 cPoint _ (ad.out.alloc _).tok N (by decide)).mono ?_
 rintro e w3 ⟨rfl,Q⟩
 rw[an]
 replace D:=zc ((D.out.alloc _).below Q)
 replace o:=zc ((o.out.alloc _).below Q)
 replace H:=zc ((Bx.new ad.out _).below Q)
 have aq:Hid (SB w.heap.size S w S2 w3):=(ai.out.alloc _).below Q
 have ax:Hid (Mem (Cx.mk E j false) M I z S2 q2 w3):=(ad.out.alloc _).later Q
 clear Q ai ad
 obtain⟨c0,c1,c2,c3,c4,c5,c6,c7,c8,c9,aD,aF,cf⟩:=H.out.box
 have al:q2.pos<(Cx.mk E j false).ts.length:=za1 an (by decide)
 have aJ:q2.pos<E.length:=al
 go_wp2_with fail
 refine (zbz (Cx.mk E j false) M I z (.ok (adv q2)) S2 (adv q2) (-1) d true _ (zab _) ((ax.out.adv al).set H.out 1 _)).mono ?_
 rintro e w4 ⟨S4,q4,z4,n4,rfl,i4,m4,s4⟩
 replace D:=zc ((D.out.set_other (by omega) 1 _).stp s4)
 replace o:=zc ((o.out.set_other (by omega) 1 _).stp s4)
 replace H:=zc ((H.out.at1 _).stp s4)
 have ab:Hid (SB w.heap.size S w S4 w4):=(aq.out.set (by omega) 1 _).step s4
 clear aq
 have L:=zc m4
 have Y:=zc i4
 clear i4 m4 s4 ax
 clear c0 c1 c2 c3 c4 c5 c6 c7 c8 c9 aD aF cf
 have aL:w.heap.size+1<w4.heap.size:=o.out.lt
 have ay:w2.heap.size<w4.heap.size:=H.out.lt
 cases hc:(decide (z4<0)&&isT (Cx.mk E j false) q4.pos 4 cOpen) with
 |true=>
  unfold pv
  go_wp2_with fail
  refine (zj (Cx.mk E j false) M I z S4 q4 z4 d 4 cOpen _ (L.out.alloc _).tok N (by decide)).mono ?_
  rintro e w5 ⟨rfl,J⟩
  rw[hc]
  replace D:=zc ((D.out.alloc _).below J)
  replace o:=zc ((o.out.alloc _).below J)
  replace H:=zc ((H.out.alloc _).below J)
  replace K:=zc ((Bx.new L.out _).below J)
  have Z:Hid (SB w.heap.size S w S4 w5):=(ab.out.alloc _).below J
  have V:Hid (Mem (Cx.mk E j false) M I z S4 q4 w5):=(L.out.alloc _).later J
  clear J ab L
  obtain⟨d0,d1,d2,d3,d4,d5,d6,d7,d8,d9,U,X,df⟩:=K.out.box
  go_wp2_with fail
  refine (zah (Cx.mk E j false) M I z _ S4 q4 z4 d cOpen _ Y.out.fst V.out).mono ?_
  rintro e w6 ⟨S6,q6,z6,rfl,i6,m6,O⟩
  replace D:=zc (D.out.stp O)
  replace o:=zc (o.out.stp O)
  replace H:=zc (H.out.stp O)
  replace K:=zc (K.out.stp O)
  have aa:=zc (Z.out.step O)
  clear Z
  have ac:=zc m6
  have ag:=zc i6
  clear i6 m6 O V
  clear d0 d1 d2 d3 d4 d5 d6 d7 d8 d9 U X df
  go_wp2_with fail
  refine (zah (Cx.mk E j false) M I z _ S6 q6 z6 d zU _ ag.out ac.out).mono ?_
  rintro e w7 ⟨S7,q7,z7,rfl,i7,m7,s7⟩
  replace D:=zc (D.out.stp s7)
  replace o:=zc (o.out.stp s7)
  replace H:=zc (H.out.stp s7)
  replace K:=zc (K.out.stp s7)
  have ah:=zc (aa.out.step s7)
  clear aa
  have ak:=zc m7
  have ar:=zc i7
  clear i7 m7 s7 ac
  obtain⟨d0,d1,d2,d3,d4,d5,d6,d7,d8,d9,U,X,df⟩:=K.out.box
  unfold pv
  go_wp2_with fail
  refine (zcX (Cx.mk E j false) M I z _ S7 q7 z7 d ⟨5,0,n2,n4,0,0⟩ _ ar.out (ak.out.put K.out ..) (zb5 ar.out)).mono ?_
  rintro e w8 ⟨S8,q8,z8,rfl,i8,m8,s8⟩
  replace D:=zc ((D.out.other (by omega) ..).stp s8)
  replace o:=zc ((o.out.other (by omega) ..).stp s8)
  replace H:=zc ((H.out.other (by omega) ..).stp s8)
  replace K:=zc ((K.out.put ..).stp s8)
  have aG:Hid (SB w.heap.size S w S8 w8):=(ah.out.put (by omega) ..).step s8
  clear ah
  have aA:=zc m8
  have aC:=zc i8
  clear i8 m8 s8 ak
  clear d0 d1 d2 d3 d4 d5 d6 d7 d8 d9 U X df
  obtain⟨b0,b1,b2,b3,b4,b5,b6,b7,b8,b9,aB,aH,bf⟩:=o.out.box
  unfold pv
  go_wp2
  refine bodyPost_ret (results_cell_row rfl _ _ (w.heap.size+1) 55 _ (0,0) _ rfl ((o.out.put ..)).heap Tryz.underlying55 rfl (by kernel_rfl)) rfl ?_
  rw[HV.out,←HQ.out,←am.out,←zm3 Y.out hc]
  exact zac rfl aC.out (aA.out.put o.out ..) (aG.out.put (by omega) ..)
 |false=>
  unfold pv
  go_wp2_with fail
  refine (zj (Cx.mk E j false) M I z S4 q4 z4 d 4 cOpen _ (L.out.alloc _).tok N (by decide)).mono ?_
  rintro e w5 ⟨rfl,J⟩
  rw[hc]
  replace D:=zc ((D.out.alloc _).below J)
  replace o:=zc ((o.out.alloc _).below J)
  replace H:=zc ((H.out.alloc _).below J)
  replace K:=zc ((Bx.new L.out _).below J)
  have Z:Hid (SB w.heap.size S w S4 w5):=(ab.out.alloc _).below J
  have V:Hid (Mem (Cx.mk E j false) M I z S4 q4 w5):=(L.out.alloc _).later J
  clear J ab L
  obtain⟨d0,d1,d2,d3,d4,d5,d6,d7,d8,d9,U,X,df⟩:=K.out.box
  go_wp2_with fail
  refine (zcX (Cx.mk E j false) M I z _ S4 q4 z4 d ⟨4,0,n2,n4,0,0⟩ _ Y.out.fst V.out (zm5 Y.out)).mono ?_
  rintro e w6 ⟨S6,q6,z6,rfl,i6,m6,O⟩
  replace D:=zc (D.out.stp O)
  replace o:=zc (o.out.stp O)
  replace H:=zc (H.out.stp O)
  replace K:=zc (K.out.stp O)
  have aa:=zc (Z.out.step O)
  clear Z
  have ac:=zc m6
  have ag:=zc i6
  clear i6 m6 O V
  clear d0 d1 d2 d3 d4 d5 d6 d7 d8 d9 U X df
  obtain⟨b0,b1,b2,b3,b4,b5,b6,b7,b8,b9,aB,aH,bf⟩:=o.out.box
  unfold pv
  go_wp2
  refine bodyPost_ret (results_cell_row rfl _ _ (w.heap.size+1) 55 _ (0,0) _ rfl ((o.out.put ..)).heap Tryz.underlying55 rfl (by kernel_rfl)) rfl ?_
  rw[HV.out,←HQ.out,←am.out,←zm4 Y.out hc]
  exact zac rfl ag.out (ac.out.put o.out ..) (aa.out.put (by omega) ..)
def zjg (C:Cx) (gt cap base m:Nat):Prop:=∀(x:PR) (S:Sv) (q:PS) (z:Int) (d:Nat) (w:World),Is x q z→Mem C gt cap base S q w→(z<0→C.ts.length-q.pos<m)→d≤20→
 Calls Tryz.prog 128 #[pv C gt cap S q z d] w (Out C gt cap base (bd x (pE C .part d)) d S w)
def zm8 (C:Cx) (gt cap base m:Nat):Prop:=∀(x:PR) (S:Sv) (q:PS) (z:Int) (d:Nat) (w:World),Is x q z→Mem C gt cap base S q w→(z<0→C.ts.length-q.pos<m)→d≤20→
 Calls Tryz.prog 102 #[pv C gt cap S q z d] w (Out C gt cap base (bd x (pE C .prod d)) d S w)
theorem SumOK.mono {C:Cx} {D o j m k:Nat} (h:SumOK C D o j m) (E:k≤m):SumOK C D o j k:=fun x S q z d w J K I H=>h x S q z d w J K (fun g=>Nat.lt_of_lt_of_le (I g) E) H
theorem zuI {C:Cx} {H D j m:Nat} (Z:SumOK C H D j m):zjg C H D j (m+1):=by
 intro x S q z d w X I Y hd
 by_cases Q:z<0
 ·obtain⟨rfl,rfl⟩:=zaF X Q
  rw[zh]
  have V:SumOK C H D j (C.ts.length-q.pos):=Z.mono (by have:=Y Q;omega)
  cases J:((zf C q.pos).kind==2) with
  |true=>exact zu6 C H D j S q d w I J
  |false=>
   cases L:isT C q.pos 4 cOpen with
   |true=>
    by_cases U:20≤d
    ·exact zu7 C H D j S q d w I J L U hd
    ·exact zu8 C H D j S q d w I J L (by omega) V
   |false=>
    obtain⟨E,o,M⟩:=C
    cases M with
    |true=>
     by_cases K:q.pos<E.length
     ·cases O:isT (Cx.mk E o true) q.pos 1 sUndef with
      |true=>exact zuB E o H D j S q d w I J L K O
      |false=>
       cases N:plainB (Cx.mk E o true) q.pos false with
       |false=>exact zuA E o H D j S q d w I J L K O N
       |true=>
        cases hd:isT (Cx.mk E o true) (q.pos+1) 4 cPoint with
        |false=>exact zuC E o H D j S q d w I J L K O N hd
        |true=>exact zuD E o H D j S q d w I J L K O N hd
     ·exact zu9 E o H D j S q d w I K
    |false=>
     by_cases K:q.pos<E.length
     ·cases N:plainB (Cx.mk E o false) q.pos false with
      |false=>exact zuF E o H D j S q d w I J L K N
      |true=>
       cases hd:isT (Cx.mk E o false) (q.pos+1) 4 cPoint with
       |false=>exact zuG E o H D j S q d w I J L K N hd
       |true=>exact zuH E o H D j S q d w I J L K N hd
     ·exact zuE E o H D j S q d w I K
 ·obtain⟨e,rfl,rfl⟩:=zd2 X Q
  rw[zec]
  obtain⟨E,o,M⟩:=C
  cases M with
  |true=>exact zm6 E o H D j S q d w I e
  |false=>exact zm7 E o H D j S q d w I e
theorem zjh {C:Cx} {x:PR} {q:PS} {z:Int} (h:Is x q z) (F:PS→Ex):bd x (zJ C (F q))=bd x fun q'=>zJ C (F q') q':=by
 cases x with
 |ok a=>obtain⟨rfl,_⟩:=h;rfl
 |error e=>rfl
theorem zm9 {C:Cx} {y:PS→Ex} {x:PR} {q:PS} {n:Nat} (j: ∀a,x= .ok a→n≤a.pos) (h:(bd x fun q'=>zJ C (y q') q')= .ok q):n≤q.pos:=by
 obtain⟨a,z,o⟩:=ze h
 obtain⟨rfl,_⟩:=zbx o
 exact j a z
theorem zuJ {C:Cx} {d m:Nat} {x:PR} {q q1:PS} {z j:Int} (I:Is x q z) (J:Is (bd x (pE C .part d)) q1 j) (D:z<0→C.ts.length-q.pos<m) (o:j<0):C.ts.length-q1.pos<m:=by
 obtain⟨e,_⟩:=zaF J o
 obtain⟨a,E,H⟩:=ze e
 subst E
 obtain⟨rfl,rfl⟩:=I
 have:=zbr H
 have:=D (by decide)
 omega
theorem zuK {C:Cx} {d m:Nat} {x:PR} {q q1:PS} {z j:Int} (I:Is x q z) (J:Is (bd x (pE C .prod d)) q1 j) (D:z<0→C.ts.length-q.pos<m) (o:j<0):C.ts.length-q1.pos<m:=by
 obtain⟨e,_⟩:=zaF J o
 obtain⟨a,E,H⟩:=ze e
 subst E
 obtain⟨rfl,rfl⟩:=I
 have:=zbr H
 have:=D (by decide)
 omega
theorem zuL {C:Cx} {d:Nat} {j q:PS} {z:Int} (h:Is (bd (.ok (adv j)) (pE C .part d)) q z) (o:z<0):1≤q.pos:=by
 obtain⟨e,_⟩:=zaF h o
 have:=zbr (show pE C .part d (adv j)= .ok q from e)
 rw[zz] at this
 omega
theorem zmA {C:Cx} {d:Nat} {j q:PS} {z:Int} (h:Is (bd (.ok (adv j)) (pE C .prod d)) q z) (o:z<0):1≤q.pos:=by
 obtain⟨e,_⟩:=zaF h o
 have:=zbr (show pE C .prod d (adv j)= .ok q from e)
 rw[zz] at this
 omega
theorem zuM {C:Cx} {d:Nat} {F:PS→Ex} {j q:PS} {z:Int} (h:Is (bd (bd (.ok (adv j)) (pE C .part d)) fun q'=>zJ C (F q') q') q z) (o:z<0):j.pos+1≤q.pos:=by
 obtain⟨e,_⟩:=zaF h o
 exact zm9 (fun a D=>by have:=zbr (show pE C .part d (adv j)= .ok a from D);rw[zz] at this;exact this) e
theorem zmB {C:Cx} {d:Nat} {F:PS→Ex} {j q:PS} {z:Int} (h:Is (bd (bd (.ok (adv j)) (pE C .prod d)) fun q'=>zJ C (F q') q') q z) (o:z<0):j.pos+1≤q.pos:=by
 obtain⟨e,_⟩:=zaF h o
 exact zm9 (fun a D=>by have:=zbr (show pE C .prod d (adv j)= .ok a from D);rw[zz] at this;exact this) e
theorem zuN {C:Cx} {d:Nat} {q:PS} (j:isT C q.pos 4 zp=true) (_:q.pos<C.ts.length):
  bd (.ok q) (pE C .prodT d)=bd (bd (bd (.ok (adv q)) (pE C .part d)) fun q'=>zJ C ⟨8,0,sNone,sNone,(q.ex.length:Int)-1,(q'.ex.length:Int)-1⟩ q') (pE C .prodT d):=by
 show pE C .prodT d q=_
 rw[zeK,if_pos j]
 rfl
theorem zmC {C:Cx} {d:Nat} {q:PS} {k:Int} (o:(isT C q.pos 4 zbq||isT C q.pos 4 zaI)=true) (j:zbw C q.pos=k) (_:q.pos<C.ts.length):
  bd (.ok q) (pE C .sumT d)=bd (bd (bd (.ok (adv q)) (pE C .prod d)) fun q'=>zJ C ⟨k,0,sNone,sNone,(q.ex.length:Int)-1,(q'.ex.length:Int)-1⟩ q') (pE C .sumT d):=by
 show pE C .sumT d q=_
 rw[zee,if_pos o,j]
 rfl
theorem zuO {C:Cx} {d:Nat} {x:PR} {q:PS} {z:Int} (o:Is x q z) (j:(decide (z<0)&&isT C q.pos 4 zp)=false):Is (bd x (pE C .prodT d)) q z:=by
 cases x with
 |ok a=>
  obtain⟨rfl,rfl⟩:=o
  rw[Bool.and_eq_false_iff] at j
  rw[zh,zeK,j.resolve_left (by decide)]
  exact⟨rfl,rfl⟩
 |error e=>exact o
theorem zuP {C:Cx} {d:Nat} {x:PR} {q:PS} {z:Int} (D:Is x q z) (o:(decide (z<0)&&isT C q.pos 4 zbq)=false) (j:(decide (z<0)&&isT C q.pos 4 zaI)=false):Is (bd x (pE C .sumT d)) q z:=by
 cases x with
 |ok a=>
  obtain⟨rfl,rfl⟩:=D
  rw[Bool.and_eq_false_iff] at o j
  rw[zh,zee,o.resolve_left (by decide),j.resolve_left (by decide)]
  exact⟨rfl,rfl⟩
 |error e=>exact D
theorem zuQ {C:Cx} {i:Nat} (h:isT C i 4 zbq=true):isT C i 4 zaI=false:=by
 simp only[isT,Bool.and_eq_true,beq_iff_eq] at h
 simp only[isT,h.2]
 rw[Bool.and_eq_false_iff]
 exact .inr (by simp)
theorem zmD {C:Cx} {O J H m:Nat} (hP:zjg C O J H m):zm8 C O J H m:=by
 intro x S q z d w hx hm hl ad
 have HP:=zc hP
 have HM:=zc hm
 have HX:=zc hx
 have HL:=zc hl
 have ag:=hm.few
 clear hP hm hx hl
 unfold pv
 go_enter Tryz.func102,Tryz.ntmps102
 go_wp2_with fail
 refine (HP.out x S q z d _ HX.out ((HM.out.alloc _).alloc _) HL.out ad).mono ?_
 rintro e w1 ⟨S1,q1,z1,rfl,i1,m1,s1⟩
 obtain⟨X0,X1,t1⟩:=HM.out.two2 s1
 have j:=zc X0
 have o:=zc X1
 have aw:=zc m1
 have ax:=zc t1
 have al:=zc i1
 clear X0 X1 i1 m1 t1 s1
 obtain⟨Y,a1,N,Q,a4,U,a6,a7,Z,X,D,E,af⟩:=j.out.box
 unfold pv
 go_wp2
 go_loopg [] (C.ts.length+1) (fun k wr=>∃(x':PR) (K:Sv) (L:PS) (z':Int),Is x' L z'∧bd x' (pE C .prodT d)=bd x (pE C .prod d)∧(z'<0→C.ts.length-L.pos<k)∧(z'<0→C.ts.length-L.pos<m)∧Mem C O J H K L wr∧SB w.heap.size S w K wr∧Bx O K wr w.heap.size #[.slice (some ⟨O,0,none⟩) C.ts.length J,.int .i64 L.pos,.int .i64 C.fin,.bool C.scr,.slice K.rq.a L.rq.length K.rq.cap,.slice K.im.a L.im.length K.im.cap,.slice K.ep.a L.ep.length K.ep.cap,.slice K.st.a L.st.length K.st.cap,.slice K.ex.a L.ex.length K.ex.cap,.slice K.la.a L.la.length K.la.cap,.int .i64 z',.int .i64 d]∧Bx O K wr (w.heap.size+1) #[.slice none 0 0,.int .i64 0,.int .i64 0,.bool false,.slice none 0 0,.slice none 0 0,.slice none 0 0,.slice none 0 0,.slice none 0 0,.slice none 0 0,.int .i64 0,.int .i64 0])
 case atStart=>exact⟨_,S1,q1,z1,al.out,by rw[zR];exact zaf fun a _=>(zf4 C d a).symm,fun _=>by omega,fun hz=>zuJ HX.out al.out HL.out hz,(aw.out.put j.out ..),(ax.out.put (by omega) ..),(j.out.put ..),(o.out.other (by omega) ..)⟩
 case round=>
  obtain⟨x2,S2,V,z2,i2,e2,l2,b2,m2,t2,X0,X1⟩:=hrel
  have j:=zc X0
  have o:=zc X1
  have M:=zc m2
  have aa:=zc t2
  have am:=zc i2
  have an:=zc e2
  have aq:=zc l2
  have au:=zc b2
  have aB:=m2.inv.ex
  clear X0 X1 i2 m2 t2 e2 l2 b2
  cases hc:(decide (z2<0)&&isT C V.pos 4 zp) with
  |true=>
   obtain⟨Y,a1,N,Q,a4,U,a6,a7,Z,X,D,E,af⟩:=j.out.box
   go_wp2_with fail
   refine (zj C O J H S2 V z2 d 4 zp _ M.out.tok ag (by decide)).mono ?_
   rintro e w3 ⟨rfl,I⟩
   rw[hc]
   replace j:=zc (j.out.below I)
   replace o:=zc (o.out.below I)
   have ab:=zc (aa.out.below I)
   have ac:=zc (M.out.later I)
   clear I aa M
   clear Y a1 N Q a4 U a6 a7 Z X D E af
   rw[Bool.and_eq_true,decide_eq_true_eq] at hc
   obtain⟨hz,hs⟩:=hc
   have hp:V.pos<C.ts.length:=za1 hs (by decide)
   obtain⟨rfl,rfl⟩:=zaF am.out hz
   have aA:=aq.out hz
   have aC:=au.out hz
   skip
   obtain⟨Y,a1,N,Q,a4,U,a6,a7,Z,X,D,E,af⟩:=j.out.box
   go_wp2_with fail
   refine (HP.out (.ok (adv V)) S2 (adv V) (-1) d _ (zab _) ((ac.out.adv hp).set j.out 1 _) (fun _=>by rw[zz];omega) ad).mono ?_
   rintro e w4 ⟨S4,q4,z4,rfl,i4,m4,s4⟩
   replace j:=zc ((j.out.at1 _).stp s4)
   replace o:=zc ((o.out.set_other (by omega) 1 _).stp s4)
   have ak:Hid (SB w.heap.size S w S4 w4):=(ab.out.set (by omega) 1 _).step s4
   clear ab
   have aj:=zc m4
   have ai:=zc i4
   clear i4 m4 s4 ac
   clear Y a1 N Q a4 U a6 a7 Z X D E af
   obtain⟨Y,a1,N,Q,a4,U,a6,a7,Z,X,D,E,af⟩:=j.out.box
   unfold pv
   go_upto_region 6 with fail
   refine zQ (R:=fun W=>Bx O S4 W (w.heap.size) _∧Bx O S4 W (w.heap.size+1) _∧Mem C O J H S4 q4 W∧SB w.heap.size S w S4 W) ⟨(j.out.put ..),(o.out.other (by omega) ..),(aj.out.put j.out ..),(ak.out.put (by omega) ..)⟩ ?_
   clear Y a1 N Q a4 U a6 a7 Z X D E af
   clear j o ak aj
   rintro w5 ⟨X0,X1,m5,t5⟩
   have j:=zc X0
   have o:=zc X1
   have ah:=zc m5
   have ao:=zc t5
   clear m5 t5 X0 X1
   obtain⟨Y,a1,N,Q,a4,U,a6,a7,Z,X,D,E,af⟩:=j.out.box
   have ay:=ah.out.inv.ex
   go_wp2_with fail
   refine (zcX C O J H _ S4 q4 z4 d ⟨8,0,sNone,sNone,(V.ex.length:Int)-1,(q4.ex.length:Int)-1⟩ _ ai.out ah.out (fun h=>zuL ai.out h)).mono ?_
   rintro e w6 ⟨S6,q6,z6,rfl,i6,m6,s6⟩
   replace j:=zc (j.out.stp s6)
   replace o:=zc (o.out.stp s6)
   have ap:=zc (ao.out.step s6)
   clear ao
   have ar:=zc m6
   have av:=zc i6
   clear i6 m6 s6 ah
   clear Y a1 N Q a4 U a6 a7 Z X D E af
   have HI:Hid (Is (bd (bd (.ok (adv V)) (pE C .part d)) fun L=>zJ C ⟨8,0,sNone,sNone,(V.ex.length:Int)-1,(L.ex.length:Int)-1⟩ L) q6 z6):=by rw[←zjh ai.out (fun L=>⟨8,0,sNone,sNone,(V.ex.length:Int)-1,(L.ex.length:Int)-1⟩)];exact av.out
   have ae:Hid (z6<0→V.pos+1≤q6.pos):=fun h=>zuM HI.out h
   obtain⟨Y,a1,N,Q,a4,U,a6,a7,Z,X,D,E,af⟩:=j.out.box
   unfold pv
   go_wp2
   go_roundg (gk-1)
   case rel=>exact⟨_,S6,q6,z6,HI.out,by rw[←an.out];exact (zuN (d:=d) hs hp).symm,fun h=>by have:=ae.out h;omega,fun h=>by have:=ae.out h;omega,(ar.out.put j.out ..),(ap.out.put (by omega) ..),(j.out.put ..),(o.out.other (by omega) ..)⟩
   case measure=>omega
  |false=>
   obtain⟨Y,a1,N,Q,a4,U,a6,a7,Z,X,D,E,af⟩:=j.out.box
   go_wp2_with fail
   refine (zj C O J H S2 V z2 d 4 zp _ M.out.tok ag (by decide)).mono ?_
   rintro e w3 ⟨rfl,I⟩
   rw[hc]
   replace j:=zc (j.out.below I)
   replace o:=zc (o.out.below I)
   have ab:=zc (aa.out.below I)
   have ac:=zc (M.out.later I)
   clear I aa M
   clear Y a1 N Q a4 U a6 a7 Z X D E af
   obtain⟨Y,a1,N,Q,a4,U,a6,a7,Z,X,D,E,af⟩:=j.out.box
   obtain⟨b0,b1,b2,b3,b4,b5,b6,b7,b8,b9,az,aD,bf⟩:=o.out.box
   go_wp2
   refine bodyPost_ret (results_cell_row rfl _ _ (w.heap.size+1) 55 _ (0,0) _ rfl ((o.out.put ..)).heap Tryz.underlying55 rfl (by kernel_rfl)) rfl ?_
   exact zac rfl (show Is (bd x (pE C .prod d)) V z2 from by rw[←an.out];exact zuO am.out hc) (ac.out.put o.out ..) (ab.out.put (by omega) ..)
theorem zmE {C:Cx} {gt K H m:Nat} (hP:zm8 C gt K H m):SumOK C gt K H m:=by
 intro x S q z d w hx hm hl am
 have HP:=zc hP
 have HM:=zc hm
 have HX:=zc hx
 have HL:=zc hl
 have ac:=hm.few
 clear hP hm hx hl
 unfold pv
 go_enter Tryz.func53,Tryz.ntmps53
 go_wp2_with fail
 refine (HP.out x S q z d _ HX.out ((HM.out.alloc _).alloc _) HL.out am).mono ?_
 rintro e w1 ⟨S1,q1,z1,rfl,i1,m1,s1⟩
 obtain⟨X0,X1,t1⟩:=HM.out.two2 s1
 have j:=zc X0
 have o:=zc X1
 have aH:=zc m1
 have aL:=zc t1
 have aC:=zc i1
 clear X0 X1 i1 m1 t1 s1
 obtain⟨Q,Y,L,M,Z,N,X,a7,U,O,D,E,V⟩:=j.out.box
 unfold pv
 go_wp2
 go_loopg [] (C.ts.length+1) (fun k wr=>∃(x':PR) (S':Sv) (q':PS) (z':Int),Is x' q' z'∧bd x' (pE C .sumT d)=bd x (pE C .sum d)∧(z'<0→C.ts.length-q'.pos<k)∧(z'<0→C.ts.length-q'.pos<m)∧Mem C gt K H S' q' wr∧SB w.heap.size S w S' wr∧Bx gt S' wr w.heap.size #[.slice (some ⟨gt,0,none⟩) C.ts.length K,.int .i64 q'.pos,.int .i64 C.fin,.bool C.scr,.slice S'.rq.a q'.rq.length S'.rq.cap,.slice S'.im.a q'.im.length S'.im.cap,.slice S'.ep.a q'.ep.length S'.ep.cap,.slice S'.st.a q'.st.length S'.st.cap,.slice S'.ex.a q'.ex.length S'.ex.cap,.slice S'.la.a q'.la.length S'.la.cap,.int .i64 z',.int .i64 d]∧Bx gt S' wr (w.heap.size+1) #[.slice none 0 0,.int .i64 0,.int .i64 0,.bool false,.slice none 0 0,.slice none 0 0,.slice none 0 0,.slice none 0 0,.slice none 0 0,.slice none 0 0,.int .i64 0,.int .i64 0])
 case atStart=>exact⟨_,S1,q1,z1,aC.out,by rw[zR];exact zaf fun a _=>(zh9 C d a).symm,fun _=>by omega,fun hz=>zuK HX.out aC.out HL.out hz,(aH.out.put j.out ..),(aL.out.put (by omega) ..),(j.out.put ..),(o.out.other (by omega) ..)⟩
 case round=>
  obtain⟨x2,S2,J,z2,i2,e2,l2,b2,m2,t2,X0,X1⟩:=hrel
  have j:=zc X0
  have o:=zc X1
  have ak:=zc m2
  have au:=zc t2
  have av:=zc i2
  have ax:=zc e2
  have az:=zc l2
  have aD:=zc b2
  have aN:=m2.inv.ex
  clear X0 X1 i2 m2 t2 e2 l2 b2
  cases hc:(decide (z2<0)&&isT C J.pos 4 zbq) with
  |true=>
   obtain⟨Q,Y,L,M,Z,N,X,a7,U,O,D,E,V⟩:=j.out.box
   go_wp2_with fail
   refine (zj C gt K H S2 J z2 d 4 zbq _ ak.out.tok ac (by decide)).mono ?_
   rintro e w3 ⟨rfl,aa⟩
   rw[hc]
   replace j:=zc (j.out.below aa)
   replace o:=zc (o.out.below aa)
   have ai:=zc (au.out.below aa)
   have ab:=zc (ak.out.later aa)
   clear aa au ak
   clear Q Y L M Z N X a7 U O D E V
   rw[Bool.and_eq_true,decide_eq_true_eq] at hc
   obtain⟨hz,hs⟩:=hc
   have aB:isT C J.pos 4 zaI=false:=zuQ hs
   have ad:(decide (z2<0)&&isT C J.pos 4 zaI)=false:=by rw[aB,Bool.and_false]
   obtain⟨Q,Y,L,M,Z,N,X,a7,U,O,D,E,V⟩:=j.out.box
   go_wp2_with fail
   refine (zj C gt K H S2 J z2 d 4 zaI _ ab.out.tok ac (by decide)).mono ?_
   rintro e w4 ⟨rfl,I⟩
   rw[ad]
   replace j:=zc (j.out.below I)
   replace o:=zc (o.out.below I)
   have ah:=zc (ai.out.below I)
   have ae:=zc (ab.out.later I)
   clear I ai ab
   clear Q Y L M Z N X a7 U O D E V
   clear ad
   have hp:J.pos<C.ts.length:=za1 hs (by decide)
   obtain⟨rfl,rfl⟩:=zaF av.out hz
   have aG:=az.out hz
   have aI:=aD.out hz
   skip
   obtain⟨Q,Y,L,M,Z,N,X,a7,U,O,D,E,V⟩:=j.out.box
   go_wp2_with fail
   refine (HP.out (.ok (adv J)) S2 (adv J) (-1) d _ (zab _) ((ae.out.adv hp).set j.out 1 _) (fun _=>by rw[zz];omega) am).mono ?_
   rintro e w5 ⟨S5,q5,z5,rfl,i5,m5,s5⟩
   replace j:=zc ((j.out.at1 _).stp s5)
   replace o:=zc ((o.out.set_other (by omega) 1 _).stp s5)
   have aq:Hid (SB w.heap.size S w S5 w5):=(ah.out.set (by omega) 1 _).step s5
   clear ah
   have ao:=zc m5
   have ay:=zc i5
   clear i5 m5 s5 ae
   clear Q Y L M Z N X a7 U O D E V
   obtain⟨Q,Y,L,M,Z,N,X,a7,U,O,D,E,V⟩:=j.out.box
   unfold pv
   go_upto_region 9 with fail
   refine zQ (R:=fun W=>Bx gt S5 W (w.heap.size) _∧Bx gt S5 W (w.heap.size+1) _∧Mem C gt K H S5 q5 W∧SB w.heap.size S w S5 W) ⟨(j.out.put ..),(o.out.other (by omega) ..),(ao.out.put j.out ..),(aq.out.put (by omega) ..)⟩ ?_
   clear Q Y L M Z N X a7 U O D E V
   clear j o aq ao
   rintro w6 ⟨X0,X1,m6,t6⟩
   have j:=zc X0
   have o:=zc X1
   have aj:=zc m6
   have al:=zc t6
   clear m6 t6 X0 X1
   obtain⟨Q,Y,L,M,Z,N,X,a7,U,O,D,E,V⟩:=j.out.box
   have aA:=aj.out.inv.ex
   go_wp2_with fail
   refine (zcX C gt K H _ S5 q5 z5 d ⟨6,0,sNone,sNone,(J.ex.length:Int)-1,(q5.ex.length:Int)-1⟩ _ ay.out aj.out (fun h=>zmA ay.out h)).mono ?_
   rintro e w7 ⟨S7,q7,z7,rfl,i7,m7,s7⟩
   replace j:=zc (j.out.stp s7)
   replace o:=zc (o.out.stp s7)
   have ar:=zc (al.out.step s7)
   clear al
   have an:=zc m7
   have aK:=zc i7
   clear i7 m7 s7 aj
   clear Q Y L M Z N X a7 U O D E V
   have HI:Hid (Is (bd (bd (.ok (adv J)) (pE C .prod d)) fun q'=>zJ C ⟨6,0,sNone,sNone,(J.ex.length:Int)-1,(q'.ex.length:Int)-1⟩ q') q7 z7):=by rw[←zjh ay.out (fun q'=>⟨6,0,sNone,sNone,(J.ex.length:Int)-1,(q'.ex.length:Int)-1⟩)];exact aK.out
   have ag:Hid (z7<0→J.pos+1≤q7.pos):=fun h=>zmB HI.out h
   obtain⟨Q,Y,L,M,Z,N,X,a7,U,O,D,E,V⟩:=j.out.box
   unfold pv
   go_wp2
   go_roundg (gk-1)
   case rel=>exact⟨_,S7,q7,z7,HI.out,by rw[←ax.out];exact (zmC (d:=d) (by rw[hs];rfl) (show zbw C J.pos=6 by rw[zbw,aB];rfl) hp).symm,fun h=>by have:=ag.out h;omega,fun h=>by have:=ag.out h;omega,(an.out.put j.out ..),(ar.out.put (by omega) ..),(j.out.put ..),(o.out.other (by omega) ..)⟩
   case measure=>omega
  |false=>
   obtain⟨Q,Y,L,M,Z,N,X,a7,U,O,D,E,V⟩:=j.out.box
   go_wp2_with fail
   refine (zj C gt K H S2 J z2 d 4 zbq _ ak.out.tok ac (by decide)).mono ?_
   rintro e w3 ⟨rfl,aa⟩
   rw[hc]
   replace j:=zc (j.out.below aa)
   replace o:=zc (o.out.below aa)
   have ai:=zc (au.out.below aa)
   have ab:=zc (ak.out.later aa)
   clear aa au ak
   clear Q Y L M Z N X a7 U O D E V
   cases ad:(decide (z2<0)&&isT C J.pos 4 zaI) with
   |true=>
    obtain⟨Q,Y,L,M,Z,N,X,a7,U,O,D,E,V⟩:=j.out.box
    go_wp2_with fail
    refine (zj C gt K H S2 J z2 d 4 zaI _ ab.out.tok ac (by decide)).mono ?_
    rintro e w4 ⟨rfl,I⟩
    rw[ad]
    replace j:=zc (j.out.below I)
    replace o:=zc (o.out.below I)
    have ah:=zc (ai.out.below I)
    have ae:=zc (ab.out.later I)
    clear I ai ab
    clear Q Y L M Z N X a7 U O D E V
    obtain⟨Q,Y,L,M,Z,N,X,a7,U,O,D,E,V⟩:=j.out.box
    go_wp2_with fail
    refine (zj C gt K H S2 J z2 d 4 zaI _ ae.out.tok ac (by decide)).mono ?_
    rintro e w5 ⟨rfl,ap⟩
    rw[ad]
    replace j:=zc (j.out.below ap)
    replace o:=zc (o.out.below ap)
    have aq:=zc (ah.out.below ap)
    have ao:=zc (ae.out.later ap)
    clear ap ah ae
    clear Q Y L M Z N X a7 U O D E V
    rw[Bool.and_eq_true,decide_eq_true_eq] at ad
    obtain⟨hz,hs⟩:=ad
    have hp:J.pos<C.ts.length:=za1 hs (by decide)
    obtain⟨rfl,rfl⟩:=zaF av.out hz
    have aG:=az.out hz
    have aI:=aD.out hz
    skip
    obtain⟨Q,Y,L,M,Z,N,X,a7,U,O,D,E,V⟩:=j.out.box
    go_wp2_with fail
    refine (HP.out (.ok (adv J)) S2 (adv J) (-1) d _ (zab _) ((ao.out.adv hp).set j.out 1 _) (fun _=>by rw[zz];omega) am).mono ?_
    rintro e w6 ⟨S6,q6,z6,rfl,i6,m6,s6⟩
    replace j:=zc ((j.out.at1 _).stp s6)
    replace o:=zc ((o.out.set_other (by omega) 1 _).stp s6)
    have al:Hid (SB w.heap.size S w S6 w6):=(aq.out.set (by omega) 1 _).step s6
    clear aq
    have aj:=zc m6
    have aw:=zc i6
    clear i6 m6 s6 ao
    clear Q Y L M Z N X a7 U O D E V
    obtain⟨Q,Y,L,M,Z,N,X,a7,U,O,D,E,V⟩:=j.out.box
    unfold pv
    go_upto_region 9 with fail
    refine zQ (R:=fun W=>Bx gt S6 W (w.heap.size) _∧Bx gt S6 W (w.heap.size+1) _∧Mem C gt K H S6 q6 W∧SB w.heap.size S w S6 W) ⟨(j.out.put ..),(o.out.other (by omega) ..),(aj.out.put j.out ..),(al.out.put (by omega) ..)⟩ ?_
    clear Q Y L M Z N X a7 U O D E V
    clear j o al aj
    rintro w7 ⟨X0,X1,m7,t7⟩
    have j:=zc X0
    have o:=zc X1
    have an:=zc m7
    have ar:=zc t7
    clear m7 t7 X0 X1
    obtain⟨Q,Y,L,M,Z,N,X,a7,U,O,D,E,V⟩:=j.out.box
    have aA:=an.out.inv.ex
    go_wp2_with fail
    refine (zcX C gt K H _ S6 q6 z6 d ⟨7,0,sNone,sNone,(J.ex.length:Int)-1,(q6.ex.length:Int)-1⟩ _ aw.out an.out (fun h=>zmA aw.out h)).mono ?_
    rintro e w8 ⟨S8,q8,z8,rfl,i8,m8,s8⟩
    replace j:=zc (j.out.stp s8)
    replace o:=zc (o.out.stp s8)
    have aJ:=zc (ar.out.step s8)
    clear ar
    have aE:=zc m8
    have aF:=zc i8
    clear i8 m8 s8 an
    clear Q Y L M Z N X a7 U O D E V
    have HI:Hid (Is (bd (bd (.ok (adv J)) (pE C .prod d)) fun q'=>zJ C ⟨7,0,sNone,sNone,(J.ex.length:Int)-1,(q'.ex.length:Int)-1⟩ q') q8 z8):=by rw[←zjh aw.out (fun q'=>⟨7,0,sNone,sNone,(J.ex.length:Int)-1,(q'.ex.length:Int)-1⟩)];exact aF.out
    have ag:Hid (z8<0→J.pos+1≤q8.pos):=fun h=>zmB HI.out h
    obtain⟨Q,Y,L,M,Z,N,X,a7,U,O,D,E,V⟩:=j.out.box
    unfold pv
    go_wp2
    go_roundg (gk-1)
    case rel=>exact⟨_,S8,q8,z8,HI.out,by rw[←ax.out];exact (zmC (d:=d) (by rw[hs,Bool.or_true]) (show zbw C J.pos=7 by rw[zbw,hs];rfl) hp).symm,fun h=>by have:=ag.out h;omega,fun h=>by have:=ag.out h;omega,(aE.out.put j.out ..),(aJ.out.put (by omega) ..),(j.out.put ..),(o.out.other (by omega) ..)⟩
    case measure=>omega
   |false=>
    obtain⟨Q,Y,L,M,Z,N,X,a7,U,O,D,E,V⟩:=j.out.box
    go_wp2_with fail
    refine (zj C gt K H S2 J z2 d 4 zaI _ ab.out.tok ac (by decide)).mono ?_
    rintro e w4 ⟨rfl,I⟩
    rw[ad]
    replace j:=zc (j.out.below I)
    replace o:=zc (o.out.below I)
    have ah:=zc (ai.out.below I)
    have ae:=zc (ab.out.later I)
    clear I ai ab
    clear Q Y L M Z N X a7 U O D E V
    obtain⟨Q,Y,L,M,Z,N,X,a7,U,O,D,E,V⟩:=j.out.box
    obtain⟨b0,b1,b2,b3,b4,b5,b6,b7,b8,b9,aM,aO,bf⟩:=o.out.box
    go_wp2
    refine bodyPost_ret (results_cell_row rfl _ _ (w.heap.size+1) 55 _ (0,0) _ rfl ((o.out.put ..)).heap Tryz.underlying55 rfl (by kernel_rfl)) rfl ?_
    exact zac rfl (show Is (bd x (pE C .sum d)) J z2 from by rw[←ax.out];exact zuP av.out hc ad) (ae.out.put o.out ..) (ah.out.put (by omega) ..)
theorem zuR (C:Cx) (H o j:Nat):zjg C H o j 0:=by
 intro x S q z d w M J L hd
 by_cases I:z<0
 ·have:=L I
  omega
 ·obtain⟨e,rfl,rfl⟩:=zd2 M I
  rw[zec]
  obtain⟨K,D,E⟩:=C
  cases E with
  |true=>exact zm6 K D H o j S q d w J e
  |false=>exact zm7 K D H o j S q d w J e
theorem zuS (C:Cx) (z o j:Nat) (m:Nat):SumOK C z o j m:=by
 induction m with
 |zero=>exact zmE (zmD (zuR C z o j))
 |succ m D=>exact zmE (zmD (zuI D))
theorem zdp (C:Cx) (D o j:Nat) (x:PR) (S:Sv) (q:PS) (z:Int) (w:World) (E:Is x q z) (H:Mem C D o j S q w):
  Calls Tryz.prog 53 #[pv C D o S q z 0] w (Out C D o j (bd x (pE C .sum 0)) 0 S w):=
 zuS C D o j (C.ts.length+1) x S q z 0 w E H (fun _=>by omega) (by omega)
end Go.Proofs.YthfeoomfiafldaaGreat
