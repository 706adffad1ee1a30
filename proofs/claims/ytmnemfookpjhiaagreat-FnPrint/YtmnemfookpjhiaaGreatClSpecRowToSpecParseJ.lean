/-
  A row of pairs of names beside a program under way. No program is spoken of but for the numbers of its types.
  What spec's l4Tail answers: the walk.
  What spec's l4List answers: the walk.
  What spec's l4Part answers,if l4Sum answers so behind it: the walks.
  What spec's l4Part answers where no number and no bracket stands,in a script: the walks.
  What spec's l4Part answers where no number and no bracket stands: the walks.
  What spec's l4Part,l4Product and l4Sum answer: the walks of the two loops,and the three together.
-/
import Derived.Deep.DeepCutAuto
import Derived.Deep.LoopGhost
import Derived.Test.YtmnemfookpjhiaaGreatClSpecBox
namespace Go.Proofs.YtmnemfookpjhiaaGreat
set_option maxRecDepth 100000
set_option maxHeartbeats 6400000
open Go.RowKit Go.PlainAid
structure Row (S:Sv) (w:World) (base B:Nat) (r:Rw) (l:List Ep):Prop where
 own:OwnR w base 121 4 r l.length (l.flatMap epL)
 free: ∀k,r.blk=some k→¬S.has k
 new: ∀k,r.blk=some k→B≤k
 addr: ∃g,r.a=some ⟨g,0,none⟩
theorem Row.ne {gt b:Nat} {S:Sv} {w:World} {base B:Nat} {r:Rw} {l:List Ep} {cs:Array Value} (h:Row S w base B r l) (hb:Bx gt S w b cs): ∀k,r.blk=some k→k≠b:=by
 rintro k hk rfl
 obtain⟨_,_,c,g⟩:=h.own.typed hk
 rw[hb.heap] at g
 simp only[Option.some.injEq,Obj.cells.injEq] at g
 exact absurd g.2.1 (by decide)
theorem Row.stp {S S':Sv} {w w':World} {base B:Nat} {r:Rw} {l:List Ep} (h:Row S w base B r l) (s:Stp S w S' w'):Row S' w' base B r l:=
 ⟨h.own.keep fun k hk=>s.block k (h.own.typed hk).2.1 (h.free k hk),fun k hk g=>(s.sub k g).elim (h.free k hk) fun g'=>by have:=(h.own.typed hk).2.1;omega,h.new,h.addr⟩
theorem Row.below {S:Sv} {w w':World} {base B:Nat} {r:Rw} {l:List Ep} (h:Row S w base B r l) (s:Below w.heap.size w w'):Row S w' base B r l:=h.stp (Stp.below s)
theorem Row.alloc {S:Sv} {w:World} {base B:Nat} {r:Rw} {l:List Ep} (h:Row S w base B r l) (o:Obj):Row S (w.alloc o) base B r l:=h.below ((Below.refl _ _).alloc (Nat.le_refl _) _)
theorem Row.drew {S:Sv} {w:World} {base B:Nat} {r:Rw} {l:List Ep} (h:Row S w base B r l):Row S w.drew base B r l:=⟨h.own,h.free,h.new,h.addr⟩
theorem Row.set {gt b:Nat} {S:Sv} {w:World} {base B:Nat} {r:Rw} {l:List Ep} {cs:Array Value} (h:Row S w base B r l) (hb:Bx gt S w b cs) (i:Nat) (u:Value):Row S (w.setCell ⟨b,i,none⟩ u) base B r l:=
 ⟨h.own.keep fun k hk=>zj (h.ne hb k hk),h.free,h.new,h.addr⟩
theorem Row.put {gt b:Nat} {S:Sv} {w:World} {base B:Nat} {r:Rw} {l:List Ep} {cs:Array Value} (h:Row S w base B r l) (hb:Bx gt S w b cs) (x0 x1 x2 x3 x4 x5 x6 x7 x8 x9 V8 N8:Value):Row S (set12 w b x0 x1 x2 x3 x4 x5 x6 x7 x8 x9 V8 N8) base B r l:=
 ⟨h.own.keep fun k hk=>zih (h.ne hb k hk) _ _ _ _ _ _ _ _ _ _ _ _,h.free,h.new,h.addr⟩
theorem Row.nil {C:Cx} {gt cap base B:Nat} {S:Sv} {q:PS} {w:World} (h:Mem C gt cap base S q w) (hB:B≤w.heap.size):Row S (w.alloc (.cells #[] 121 (0,0))) base B ⟨some ⟨w.heap.size,0,none⟩,0⟩ []:=by
 refine⟨World.ownsRow_lit w #[] 0 h.base (by unfold maxLen;omega) rfl,fun k hk g=>?_,fun k hk=>?_,⟨_,rfl⟩⟩
 ·simp only[Rw.blk,Value.ownBlock,Option.some.injEq] at hk
  have:=(h.own.has g).2
  omega
 ·simp only[Rw.blk,Value.ownBlock,Option.some.injEq] at hk
  omega
/-- The row grows by a pair: all else stays. -/
theorem Row.grow {C:Cx} {gt cap base B:Nat} {S:Sv} {q:PS} {W w':World} {r r':Rw} {l:List Ep} {x:Ep} (h:Row S W base B r l) (hm:Mem C gt cap base S q W) (hB:B≤W.heap.size) (hg:W.grownBy w' r.blk) (hr:OwnR w' base 121 4 r' (l.length+1) (l.flatMap epL++epL x)) (U1:r'.blk=r.blk∨r'.blk=some W.heap.size):
  Row S w' base B r' (l++[x])∧Mem C gt cap base S q w':=by
 refine⟨⟨?_,fun k hk g=>?_,fun k hk=>?_,hr.addr.resolve_left (by omega)⟩,?_⟩
 ·have e:(l++[x]).length=l.length+1:=by simp
  rw[e]
  L0 using hr
 ·rcases U1 with e|e
  ·exact h.free k (by rw[←e];exact hk) g
  ·have h1:W.heap.size=k:=Option.some.inj (e.symm.trans hk)
   have:=(hm.own.has g).2
   omega
 ·rcases U1 with e|e
  ·exact h.new k (by rw[←e];exact hk)
  ·have h1:W.heap.size=k:=Option.some.inj (e.symm.trans hk)
   omega
 ·have K3: ∀k,k<W.heap.size→r.blk≠some k→w'.heap[k]? =W.heap[k]?:=fun k hk J1=>hg.block k hk fun e=>J1 e.symm
  refine⟨hm.own.keep fun k hk=>K3 k (hm.own.has hk).2 fun e=>h.free k e hk,hm.inv,zct hm.tok (K3 gt (zbt hm.tok).1 fun e=>?_),hm.few,Nat.le_trans hm.base hg.size⟩
  obtain⟨_,_,c,g⟩:=h.own.typed e
  obtain⟨c',g'⟩:=zkx hm.tok
  rw[g] at g'
  simp only[Option.some.injEq,Obj.cells.injEq] at g'
  exact absurd g'.2.1 (by decide)
theorem Row.bx {gt b:Nat} {S:Sv} {W w':World} {base B:Nat} {r:Rw} {l:List Ep} {cs:Array Value} (h:Row S W base B r l) (hb:Bx gt S W b cs) (hg:W.grownBy w' r.blk):Bx gt S w' b cs:=
 ⟨(hg.block b hb.lt fun e=>h.ne hb b e.symm rfl).trans hb.heap,hb.free,hb.ne⟩
theorem Row.sb {S S0:Sv} {w W w':World} {base:Nat} {B:Nat} {r:Rw} {l:List Ep} (h:Row S W base B r l) (hs:SB B S0 w S W) (hg:W.grownBy w' r.blk):SB B S0 w S w':=
 ⟨hg.os.trans hs.os,hg.tape.trans hs.tape,hg.output.trans hs.output,Nat.le_trans hs.size hg.size,hs.low,fun k hk hn=>(hg.block k (by have:=hs.size;have:=hs.low;omega) fun e=>by have:=h.new k e.symm;omega).trans (hs.block k hk hn),hs.sub⟩
theorem Mem.list3 {C:Cx} {gt cap base:Nat} {S S1:Sv} {q:PS} {w w1:World} {ca cb:Array Value} (h:Mem C gt cap base S q w) (s:Stp S (((w.alloc (.cells ca 100 (0,0))).alloc (.cells cb 100 (0,0))).alloc (.cells #[] 121 (0,0))) S1 w1):
  Bx gt S1 w1 w.heap.size ca∧Bx gt S1 w1 (w.heap.size+1) cb∧Row S1 w1 base w.heap.size ⟨some ⟨w.heap.size+1+1,0,none⟩,0⟩ []∧SB w.heap.size S w S1 w1:=by
 refine⟨(((Bx.new h _).alloc _).alloc _).stp s,?_,?_,(SB.start (zie w _ _ _)).step s⟩
 ·have:=((Bx.new (h.alloc (.cells ca 100 (0,0))) cb).alloc (.cells #[] 121 (0,0))).stp s
  rw[ze] at this
  exact this
 ·have:=(Row.nil (B:=w.heap.size) ((h.alloc (.cells ca 100 (0,0))).alloc (.cells cb 100 (0,0))) (zdo w _ _).size).stp s
  rw[zjh] at this
  exact this
def Is3 (y:PRL) (q:PS) (z:Int) (l:List Ep):Prop:=
 match y with
 | .ok a=>q=a.1∧z= -1∧l=a.2
 | .error e=>z=(e:Int)
def Out3 (C:Cx) (gt cap base:Nat) (y:PRL) (d:Nat) (S:Sv) (w:World) (e:Ending) (w':World):Prop:=
 ∃S' q' z' r l,e= .returned (.tuple #[pv C gt cap S' q' z' d,.slice r.a l.length r.cap,.bool (anyB l)])∧Is3 y q' z' l∧Mem C gt cap base S' q' w'∧Stp S w S' w'∧Row S' w' base w.heap.size r l∧l.length≤4001
theorem zxf (l:List Ep) (x:Ep):anyB (l++[x])=(anyB l||(x.loc.toList==[100,101,102,97,117,108,116])):=by simp[anyB]
theorem zre {fn:Func} {p u v:Tmp} {ty:TypeId} (h:fn.results= #[.cell p ty,.tmp u,.tmp v]) (tmps:Array Value) (P:Program) (w:World):
  (results fn tmps).run P w=((asAddr (tmps.getD p undef)).run P w).andThen fun a w'=>((loadVar ty a).run P w').andThen fun x H6=>.ok (.tuple #[x,tmps.getD u undef,tmps.getD v undef]) H6:=by
 simp only[results,h]
 simp[Sem.run_bind,Result.andThen]
theorem zku {P:Program} {fn:Func} {p u v:Tmp} {ty:TypeId} (h:fn.results= #[.cell p ty,.tmp u,.tmp v]) (tmps:Array Value) (w:World) (g:Nat) (t:TypeId) (cs:Array Value) (fr:Nat×Nat) (d:TypeDesc)
  (hp:tmps.getD p undef= .pointer (some ⟨g,0,none⟩)) (hg:w.heap[g]? =some (.cells cs t fr))
  (hu:P.underlying ty=some d) (hd:(match d with| .struct _| .array _ _=>true|_=>false)=true) (hi:(P.info? ty).map (·.size)=some cs.size):
  (results fn tmps).run P w= .ok (.tuple #[.agg cs,tmps.getD u undef,tmps.getD v undef]) w:=by
 rw[zre h,hp]
 simp[asAddr,Result.andThen,run_loadVar_row w g t ty cs fr d hg hu hd hi]
theorem zdi {C:Cx} {x:PR} {k:Int} {s:ByteArray} {q:PS} {z:Int} (h:Is (bd x (tokP C k s)) q z):z<0→1≤q.pos:=by
 intro hz
 obtain⟨e,_⟩:=zcs h hz
 obtain⟨a,_,h2⟩:=zc e
 obtain⟨rfl,_⟩:=zea h2
 simp[adv]
theorem zmq (C:Cx) (gt cap base:Nat) (S:Sv) (q:PS) (d:Nat) (nm:ByteArray) (w:World) (hm:Mem C gt cap base S q w) (hp:1≤q.pos):
  Calls Tryz.prog 267 #[pv C gt cap S q (-1) d,.string nm] w (Out C gt cap base (zfi C nm q) d S w):=by
 have HM:=hidI hm
 have G1:=hm.tok
 have I0:=hm.few
 clear hm
 cases hi:isT C q.pos 4 zt with
 |true=>
  have HV:Hid (zfi C nm q=bd (bd (bd (.ok q) (tokP C 4 zt)) (tokP C 4 zcz)) (zbs C ⟨3,0,nm,sNone,0,0⟩)):=if_pos hi
  unfold pv
  go_enter Tryz.func267,Tryz.ntmps267
  go_wp2_with f0
  refine (zf C gt cap base S q (-1) d 4 zt _ (zg (zg G1 _) _) I0 (by decide)).mono ?_
  rintro e w1 ⟨rfl,P0⟩
  rw[hi]
  obtain⟨X0,X1,m1,t1⟩:=HM.out.two P0
  have j0:=hidI X0
  have n0:=hidI X1
  have Q0:=hidI m1
  have N1:=hidI t1
  clear X0 X1 m1 t1 P0
  clear G1
  obtain⟨a0,a1,a2,a3,a4,a5,a6,a7,a8,a9,E0,B0,af⟩:=j0.out.box
  go_wp2_with f0
  refine (zq C gt cap base (.ok q) S q (-1) d zt _ (zby q) Q0.out).mono ?_
  rintro e w2 ⟨S2,q2,z2,rfl,i2,m2,s2⟩
  replace j0:=hidI (j0.out.stp s2)
  replace n0:=hidI (n0.out.stp s2)
  have F1:=hidI (N1.out.step s2)
  clear N1
  have M0:=hidI m2
  have D6:=hidI i2
  clear i2 m2 s2 Q0
  clear a0 a1 a2 a3 a4 a5 a6 a7 a8 a9 E0 B0 af
  go_wp2_with f0
  refine (zq C gt cap base _ S2 q2 z2 d zcz _ D6.out M0.out).mono ?_
  rintro e w3 ⟨S3,q3,z3,rfl,i3,m3,s3⟩
  replace j0:=hidI (j0.out.stp s3)
  replace n0:=hidI (n0.out.stp s3)
  have Q1:=hidI (F1.out.step s3)
  clear F1
  have U0:=hidI m3
  have g7:=hidI i3
  clear i3 m3 s3 M0
  obtain⟨a0,a1,a2,a3,a4,a5,a6,a7,a8,a9,E0,B0,af⟩:=j0.out.box
  unfold pv
  go_wp2_with f0
  refine (zfb C gt cap base _ S3 q3 z3 d ⟨3,0,nm,sNone,0,0⟩ _ g7.out (U0.out.put j0.out _ _ _ _ _ _ _ _ _ _ _ _) (zdi g7.out)).mono ?_
  rintro e w4 ⟨S4,q4,z4,rfl,i4,m4,s4⟩
  replace j0:=hidI ((j0.out.put _ _ _ _ _ _ _ _ _ _ _ _).stp s4)
  replace n0:=hidI ((n0.out.other (by omega) _ _ _ _ _ _ _ _ _ _ _ _).stp s4)
  have F2:Hid (SB w.heap.size S w S4 w4):=(Q1.out.put (by omega) _ _ _ _ _ _ _ _ _ _ _ _).step s4
  clear Q1
  have V1:=hidI m4
  have L7:=hidI i4
  clear i4 m4 s4 U0
  clear a0 a1 a2 a3 a4 a5 a6 a7 a8 a9 E0 B0 af
  obtain⟨b0,b1,b2,b3,b4,b5,b6,b7,b8,b9,Z4,j5,bf⟩:=n0.out.box
  unfold pv
  go_wp2
  refine bodyPost_ret (results_cell_row rfl _ _ (w.heap.size+1) 100 _ (0,0) _ rfl ((n0.out.put _ _ _ _ _ _ _ _ _ _ _ _)).heap Tryz.underlying100 rfl (by o0)) rfl ?_
  rw[HV.out]
  exact zx rfl L7.out (V1.out.put n0.out _ _ _ _ _ _ _ _ _ _ _ _) (F2.out.put (by omega) _ _ _ _ _ _ _ _ _ _ _ _)
 |false=>
  have HV:Hid (zfi C nm q=bd (.ok q) (zbs C ⟨2,0,nm,sNone,0,0⟩)):=by show zfi C nm q=_;rw[zfi,hi];rfl
  unfold pv
  go_enter Tryz.func267,Tryz.ntmps267
  go_wp2_with f0
  refine (zf C gt cap base S q (-1) d 4 zt _ (zg (zg G1 _) _) I0 (by decide)).mono ?_
  rintro e w1 ⟨rfl,P0⟩
  rw[hi]
  obtain⟨X0,X1,m1,t1⟩:=HM.out.two P0
  have j0:=hidI X0
  have n0:=hidI X1
  have Q0:=hidI m1
  have N1:=hidI t1
  clear X0 X1 m1 t1 P0
  clear G1
  obtain⟨a0,a1,a2,a3,a4,a5,a6,a7,a8,a9,E0,B0,af⟩:=j0.out.box
  go_wp2_with f0
  refine (zfb C gt cap base (.ok q) S q (-1) d ⟨2,0,nm,sNone,0,0⟩ _ (zby q) Q0.out (fun _=>hp)).mono ?_
  rintro e w2 ⟨S2,q2,z2,rfl,i2,m2,s2⟩
  replace j0:=hidI (j0.out.stp s2)
  replace n0:=hidI (n0.out.stp s2)
  have F1:=hidI (N1.out.step s2)
  clear N1
  have M0:=hidI m2
  have D6:=hidI i2
  clear i2 m2 s2 Q0
  clear a0 a1 a2 a3 a4 a5 a6 a7 a8 a9 E0 B0 af
  obtain⟨b0,b1,b2,b3,b4,b5,b6,b7,b8,b9,Z4,j5,bf⟩:=n0.out.box
  unfold pv
  go_wp2
  refine bodyPost_ret (results_cell_row rfl _ _ (w.heap.size+1) 100 _ (0,0) _ rfl ((n0.out.put _ _ _ _ _ _ _ _ _ _ _ _)).heap Tryz.underlying100 rfl (by o0)) rfl ?_
  rw[HV.out]
  exact zx rfl D6.out (M0.out.put n0.out _ _ _ _ _ _ _ _ _ _ _ _) (F1.out.put (by omega) _ _ _ _ _ _ _ _ _ _ _ _)
theorem zbiq {C:Cx} {L4:Bool} {l:List Ep} {Y:PRN} {n3 n5:ByteArray} {q3 q5 q6:PS} {z3 z5 z6:Int} (h3:Is2 Y q3 z3 n3) (h5:Is2 (bd Y (asP C L4)) q5 z5 n5) (hc:(decide (z5<0)&&isT C q5.pos 4 zen)=false) (h6:Is (bd (fstP (bd Y (asP C L4))) (tokP C 4 zef)) q6 z6):
  Is3 (bd Y fun a=>bd (asP C L4 a) fun b=>if isT C b.1.pos 4 zen then zcx C L4 (adv b.1) (l++[⟨0,b.2,a.2,sNone⟩]) else bd (tokP C 4 zef b.1) fun q'=>.ok (q',l++[⟨0,b.2,a.2,sNone⟩])) q6 z6 (l++[⟨0,n5,n3,sNone⟩]):=by
 cases Y with
 |error e=>exact h6
 |ok a=>
  obtain⟨_,_,rfl⟩:=h3
  rw[zbe] at h5 h6 ⊢
  cases hA:asP C L4 a with
  |error e=>rw[hA] at h6;exact h6
  |ok b=>
   rw[hA] at h5 h6
   obtain⟨rfl,rfl,rfl⟩:=h5
   rw[Bool.and_eq_false_iff] at hc
   rw[zbe,hc.resolve_left (by decide)]
   have e:bd (fstP (.ok b)) (tokP C 4 zef)=tokP C 4 zef b.1:=rfl
   rw[e] at h6
   show Is3 (bd (tokP C 4 zef b.1) _) _ _ _
   cases hT:tokP C 4 zef b.1 with
   |error e=>rw[hT] at h6;exact h6
   |ok c=>rw[hT] at h6;exact⟨h6.1,h6.2,rfl⟩
theorem zbfv {C:Cx} {L4:Bool} {l:List Ep} {q2 q3 q5:PS} {n3 n5:ByteArray} {z3 z5:Int} (h3:Is2 (bd (.ok q2) (zn C true)) q3 z3 n3) (h5:Is2 (bd (bd (.ok q2) (zn C true)) (asP C L4)) q5 z5 n5) (hz:z5<0) (hc:isT C q5.pos 4 zen=true):
  (bd (.ok q2) fun q=>zcx C L4 q l)=(bd (.ok (adv q5)) fun q=>zcx C L4 q (l++[⟨0,n5,n3,sNone⟩]))∧q2.pos+1≤q5.pos:=by
 rw[zbe] at h3 h5 ⊢
 rw[zbe,zky]
 cases hY:zn C true q2 with
 |error e=>rw[hY] at h5;have:z5=(e:Int):=h5;omega
 |ok a=>
  rw[hY] at h3 h5
  obtain⟨_,_,rfl⟩:=h3
  rw[zbe] at h5 ⊢
  obtain⟨rfl,_⟩:=zcv hY
  cases hA:asP C L4 (adv q2,(zd C q2.pos).text) with
  |error e=>rw[hA] at h5;have:z5=(e:Int):=h5;omega
  |ok b=>
   rw[hA] at h5
   obtain⟨rfl,rfl,rfl⟩:=h5
   have:=zoq hA
   rw[zbe,hc]
   exact⟨rfl,this⟩
theorem zbfw {C:Cx} {L4:Bool} {x:PR} {q q6:PS} {z z6:Int} {l:List Ep} (hi:Is x q z) (hz: ¬z<0) (h6:Is (bd x (tokP C 4 zef)) q6 z6):Is3 (bd x fun q=>zcx C L4 q l) q6 z6 l:=by
 obtain⟨e,rfl,_⟩:=zjf hi hz
 exact h6
theorem zbod {C:Cx} {L4:Bool} {Y:PRN} {q3 q4:PS} {z3 z4:Int} {n3 n4:ByteArray} (h3:Is2 Y q3 z3 n3) (hb:(decide (z3<0)&&isT C q3.pos 1 sAs)=true) (h4:Is2 (bd (.ok (adv q3)) (zn C L4)) q4 z4 n4):Is2 (bd Y (asP C L4)) q4 z4 n4:=by
 rw[Bool.and_eq_true,decide_eq_true_eq] at hb
 cases Y with
 |error e=>have:z3=(e:Int):=h3;omega
 |ok a=>
  obtain⟨rfl,_,_⟩:=h3
  rw[zbe,asP,if_pos hb.2]
  exact h4
theorem zblm {C:Cx} {L4:Bool} {Y:PRN} {q3:PS} {z3:Int} {n3:ByteArray} (h3:Is2 Y q3 z3 n3) (hb:(decide (z3<0)&&isT C q3.pos 1 sAs)=false) (hd:((n3.toList==[100,101,102,97,117,108,116])&& !exp)=true):Is2 (bd Y (asP C L4)) q3 (zft C q3.pos z3) n3:=by
 cases Y with
 |error e=>
  have h:z3=(e:Int):=h3
  show zft C q3.pos z3=(e:Int)
  rw[zft,if_neg (by omega)]
  exact h
 |ok a=>
  obtain⟨rfl,rfl,rfl⟩:=h3
  rw[Bool.and_eq_false_iff] at hb
  rw[zbe,asP,hb.resolve_left (by decide),hd]
  rfl
theorem zxg {C:Cx} {L4:Bool} {Y:PRN} {q3:PS} {z3:Int} {n3:ByteArray} (h3:Is2 Y q3 z3 n3) (hb:(decide (z3<0)&&isT C q3.pos 1 sAs)=false) (hd:((n3.toList==[100,101,102,97,117,108,116])&& !exp)=false):Is2 (bd Y (asP C L4)) q3 z3 n3:=by
 cases Y with
 |error e=>exact h3
 |ok a=>
  obtain⟨rfl,rfl,rfl⟩:=h3
  rw[Bool.and_eq_false_iff] at hb
  rw[zbe,asP,hb.resolve_left (by decide),hd]
  exact⟨rfl,rfl,rfl⟩
theorem zql (C:Cx) (gt cap base:Nat) (S:Sv) (q:PS) (d:Nat) (L4:Bool) (w:World) (hm:Mem C gt cap base S q w):
  Calls Tryz.prog 195 #[pv C gt cap S q (-1) d,.bool L4] w (Out3 C gt cap base (zje C L4 q) d S w):=by
 obtain⟨i0,hi,Q4,V4,N4⟩:=info_parts Tryz.infoExp
 have HM:=hidI hm
 have I0:=hm.few
 clear hm
 unfold pv
 go_enter Tryz.func195,Tryz.ntmps195
 go_wp2_with f0
 refine (zq C gt cap base (.ok q) S q (-1) d zbo _ (zby q) (((HM.out.alloc _).alloc _).alloc _)).mono ?_
 rintro e w1 ⟨S1,q1,z1,rfl,i1,m1,s1⟩
 obtain⟨X0,X1,R0,t1⟩:=HM.out.list3 s1
 have j0:=hidI X0
 have n0:=hidI X1
 have hR:=hidI R0
 have N1:=hidI t1
 have Q0:=hidI m1
 have L6:=hidI i1
 clear i1 m1 s1 X0 X1 R0 t1
 obtain⟨a0,a1,a2,a3,a4,a5,a6,a7,a8,a9,E0,B0,af⟩:=j0.out.box
 unfold pv
 go_wp2
 go_loopg [7,8] (C.ts.length+1) (fun k o an wr=>∃(x':PR) (S':Sv) (q':PS) (z':Int) (r:Rw) (l:List Ep),Is x' q' z'∧bd x' (fun q=>zcx C L4 q l)=zje C L4 q∧(z'<0→C.ts.length-q'.pos<k)∧(l.length≤q'.pos∨l=[])∧o= .slice r.a l.length r.cap∧an= .bool (anyB l)∧Mem C gt cap base S' q' wr∧SB w.heap.size S w S' wr∧Bx gt S' wr w.heap.size #[.slice (some ⟨gt,0,none⟩) C.ts.length cap,.int .i64 q'.pos,.int .i64 C.fin,.bool C.scr,.slice S'.rq.a q'.rq.length S'.rq.cap,.slice S'.im.a q'.im.length S'.im.cap,.slice S'.ep.a q'.ep.length S'.ep.cap,.slice S'.st.a q'.st.length S'.st.cap,.slice S'.ex.a q'.ex.length S'.ex.cap,.slice S'.la.a q'.la.length S'.la.cap,.int .i64 z',.int .i64 d]∧Bx gt S' wr (w.heap.size+1) #[.slice none 0 0,.int .i64 0,.int .i64 0,.bool false,.slice none 0 0,.slice none 0 0,.slice none 0 0,.slice none 0 0,.slice none 0 0,.slice none 0 0,.int .i64 0,.int .i64 0]∧Row S' wr base w.heap.size r l)
 case atStart=>exact⟨_,S1,q1,z1,_,[],L6.out,rfl,fun _=>by omega,.inr rfl,rfl,rfl,(Q0.out.put j0.out _ _ _ _ _ _ _ _ _ _ _ _),(N1.out.put (by omega) _ _ _ _ _ _ _ _ _ _ _ _),(j0.out.put _ _ _ _ _ _ _ _ _ _ _ _),(n0.out.other (by omega) _ _ _ _ _ _ _ _ _ _ _ _),(hR.out.put j0.out _ _ _ _ _ _ _ _ _ _ _ _)⟩
 case round=>
  obtain⟨x2,S2,q2,z2,r,l,i2,e2,l2,n2,rfl,rfl,m2,t2,X0,X1,R0⟩:=hrel
  have j0:=hidI X0
  have n0:=hidI X1
  have M0:=hidI m2
  have F1:=hidI t2
  have D6:=hidI i2
  have Ea:=hidI e2
  have Rc:=hidI l2
  have hR:=hidI R0
  have Fb:l.length≤4000:=n2.elim (fun g=>by have:=m2.inv.pos;omega) (fun g=>by rw[g];simp)
  have Fd:=hidI n2
  clear X0 X1 i2 m2 t2 e2 l2 R0 n2
  by_cases hz:z2<0
  ·skip
   obtain⟨rfl,rfl⟩:=zcs D6.out hz
   have hlk:=Rc.out hz
   obtain⟨a0,a1,a2,a3,a4,a5,a6,a7,a8,a9,E0,B0,af⟩:=j0.out.box
   go_wp2_with f0
   refine (zcb C gt cap base (.ok q2) S2 q2 (-1) d true _ (zby q2) M0.out).mono ?_
   rintro e w3 ⟨S3,q3,z3,n3,rfl,i3,m3,s3⟩
   replace j0:=hidI (j0.out.stp s3)
   replace n0:=hidI (n0.out.stp s3)
   have Q1:=hidI (F1.out.step s3)
   have L5:Hid (Row S3 w3 base w.heap.size r l):=hR.out.stp s3
   clear hR
   have hR:=hidI L5
   clear L5
   clear F1
   have U0:=hidI m3
   have g7:=hidI i3
   clear i3 m3 s3 M0
   clear a0 a1 a2 a3 a4 a5 a6 a7 a8 a9 E0 B0 af
   have u5:w.heap.size+1<w3.heap.size:=n0.out.lt
   unfold pv
   go_upto_region 6 with f0
   refine zo (R:=fun W=>Bx gt S3 W (w.heap.size) _∧Bx gt S3 W (w.heap.size+1) _∧Bx gt S3 W (w3.heap.size) _∧Row S3 W base w.heap.size r l∧Mem C gt cap base S3 q3 W∧SB w.heap.size S w S3 W) ⟨(j0.out.alloc _),(n0.out.alloc _),(Bx.new U0.out _),(hR.out.alloc _),(U0.out.alloc _),(Q1.out.alloc _)⟩ ?_
   clear j0 n0 Q1 U0
   clear hR
   rintro w4 ⟨X0,X1,X2,R0,m4,t4⟩
   have hR:=hidI R0
   clear R0
   have j0:=hidI X0
   have n0:=hidI X1
   have G0:=hidI X2
   have V1:=hidI m4
   have F2:=hidI t4
   clear m4 t4 X0 X1 X2
   obtain⟨a0,a1,a2,a3,a4,a5,a6,a7,a8,a9,E0,B0,af⟩:=j0.out.box
   obtain⟨c0,c1,c2,c3,c4,c5,c6,c7,c8,c9,c10,c11,cf⟩:=G0.out.box
   go_upto_region 7 with f0
   refine zo (R:=fun W=>Bx gt S3 W (w.heap.size) _∧Bx gt S3 W (w.heap.size+1) _∧Bx gt S3 W (w3.heap.size) _∧Row S3 W base w.heap.size r l∧Mem C gt cap base S3 q3 W∧SB w.heap.size S w S3 W) ⟨(j0.out.put _ _ _ _ _ _ _ _ _ _ _ _),(n0.out.other (by omega) _ _ _ _ _ _ _ _ _ _ _ _),(G0.out.other (by omega) _ _ _ _ _ _ _ _ _ _ _ _),(hR.out.put j0.out _ _ _ _ _ _ _ _ _ _ _ _),(V1.out.put j0.out _ _ _ _ _ _ _ _ _ _ _ _),(F2.out.put (by omega) _ _ _ _ _ _ _ _ _ _ _ _)⟩ ?_
   clear a0 a1 a2 a3 a4 a5 a6 a7 a8 a9 E0 B0 af c0 c1 c2 c3 c4 c5 c6 c7 c8 c9 c10 c11 cf
   clear j0 n0 G0 F2 V1
   clear hR
   rintro w5 ⟨X0,X1,X2,R0,m5,t5⟩
   have hR:=hidI R0
   clear R0
   have j0:=hidI X0
   have n0:=hidI X1
   have G0:=hidI X2
   have Z1:=hidI m5
   have P2:=hidI t5
   clear m5 t5 X0 X1 X2
   skip
   obtain⟨a0,a1,a2,a3,a4,a5,a6,a7,a8,a9,E0,B0,af⟩:=j0.out.box
   skip
   go_wp2_with f0
   refine (zf C gt cap base S3 q3 z3 d 1 sAs _ Z1.out.tok I0 (by decide)).mono ?_
   rintro e w6 ⟨rfl,E4⟩
   replace j0:=hidI (j0.out.below E4)
   replace n0:=hidI (n0.out.below E4)
   replace G0:=hidI (G0.out.below E4)
   have J2:=hidI (P2.out.below E4)
   have j2:=hidI (Z1.out.later E4)
   have L5:Hid (Row S3 w6 base w.heap.size r l):=hR.out.below E4
   clear hR
   have hR:=hidI L5
   clear L5
   clear E4 P2 Z1
   clear a0 a1 a2 a3 a4 a5 a6 a7 a8 a9 E0 B0 af
   go_upto_if 28 with f0
   go_cut [11] (fun o7 wx=>∃(S5:Sv) (q5:PS) (z5:Int) (n5:ByteArray),o7= .string n5∧Is2 (bd (bd (.ok q2) (zn C true)) (asP C L4)) q5 z5 n5∧Mem C gt cap base S5 q5 wx∧SB w.heap.size S w S5 wx∧Bx gt S5 wx w.heap.size #[.slice (some ⟨gt,0,none⟩) C.ts.length cap,.int .i64 q5.pos,.int .i64 C.fin,.bool C.scr,.slice S5.rq.a q5.rq.length S5.rq.cap,.slice S5.im.a q5.im.length S5.im.cap,.slice S5.ep.a q5.ep.length S5.ep.cap,.slice S5.st.a q5.st.length S5.st.cap,.slice S5.ex.a q5.ex.length S5.ex.cap,.slice S5.la.a q5.la.length S5.la.cap,.int .i64 z5,.int .i64 d]∧Bx gt S5 wx (w.heap.size+1) #[.slice none 0 0,.int .i64 0,.int .i64 0,.bool false,.slice none 0 0,.slice none 0 0,.slice none 0 0,.slice none 0 0,.slice none 0 0,.slice none 0 0,.int .i64 0,.int .i64 0]∧Row S5 wx base w.heap.size r l)
   case first=>
    cases hb:(decide (z3<0)&&isT C q3.pos 1 sAs) with
    |true=>
     have V6:q3.pos<C.ts.length:=by rw[Bool.and_eq_true] at hb;exact zcl hb.2 (by decide)
     obtain⟨a0,a1,a2,a3,a4,a5,a6,a7,a8,a9,E0,B0,af⟩:=j0.out.box
     have hz3:z3= -1:=by rw[Bool.and_eq_true,decide_eq_true_eq] at hb;exact (zcs g7.out.fst hb.1).2
     subst hz3
     go_wp2_with f0
     refine (zcb C gt cap base (.ok (adv q3)) S3 (adv q3) (-1) d L4 _ (zby _) ((j2.out.adv V6).set j0.out 1 _)).mono ?_
     rintro e w7 ⟨S7,q7,z7,n7,rfl,i7,m7,s7⟩
     have Yd:Hid (Bx gt S7 w7 _ _):=(j0.out.at1 _).stp s7
     have Pd:Hid (Bx gt S7 w7 _ _):=(n0.out.set_other (by omega) 1 _).stp s7
     have Qf:Hid (Bx gt S7 w7 _ _):=(G0.out.set_other (by omega) 1 _).stp s7
     have P3:Hid (SB w.heap.size S w S7 w7):=(J2.out.set (by omega) 1 _).step s7
     replace hR:=hidI ((hR.out.set j0.out 1 _).stp s7)
     clear j0 n0 G0 J2
     have j0:=hidI Yd
     have n0:=hidI Pd
     have G0:=hidI Qf
     clear Yd Pd Qf
     have N2:=hidI m7
     have Z5:=hidI i7
     clear i7 m7 s7 j2
     clear a0 a1 a2 a3 a4 a5 a6 a7 a8 a9 E0 B0 af
     have Ta:w.heap.size+1<w7.heap.size:=n0.out.lt
     have Za:w3.heap.size<w7.heap.size:=G0.out.lt
     unfold pv
     go_upto_region 11 with f0
     refine zo (R:=fun W=>Bx gt S7 W (w.heap.size) _∧Bx gt S7 W (w.heap.size+1) _∧Bx gt S7 W (w3.heap.size) _∧Bx gt S7 W (w7.heap.size) _∧Row S7 W base w.heap.size r l∧Mem C gt cap base S7 q7 W∧SB w.heap.size S w S7 W) ⟨(j0.out.alloc _),(n0.out.alloc _),(G0.out.alloc _),(Bx.new N2.out _),(hR.out.alloc _),(N2.out.alloc _),(P3.out.alloc _)⟩ ?_
     clear j0 n0 G0 P3 N2
     clear hR
     rintro w8 ⟨X0,X1,X2,X3,R0,m8,t8⟩
     have hR:=hidI R0
     clear R0
     have j0:=hidI X0
     have n0:=hidI X1
     have G0:=hidI X2
     have G4:=hidI X3
     have H4:=hidI m8
     have J4:=hidI t8
     clear m8 t8 X0 X1 X2 X3
     obtain⟨a0,a1,a2,a3,a4,a5,a6,a7,a8,a9,E0,B0,af⟩:=j0.out.box
     obtain⟨d0,d1,d2,d3,d4,d5,d6,d7,d8,d9,V7,W7,df⟩:=G4.out.box
     go_wp2
     go_meet
     case rel=>exact⟨S7,q7,z7,n7,rfl,zbod g7.out hb Z5.out,(H4.out.put j0.out _ _ _ _ _ _ _ _ _ _ _ _),(J4.out.put (by omega) _ _ _ _ _ _ _ _ _ _ _ _),(j0.out.put _ _ _ _ _ _ _ _ _ _ _ _),(n0.out.other (by omega) _ _ _ _ _ _ _ _ _ _ _ _),(hR.out.put j0.out _ _ _ _ _ _ _ _ _ _ _ _)⟩
    |false=>
     cases e3:(n3.toList==[100,101,102,97,117,108,116]) with
     |true=>
      cases L4 with
      |false=>
       obtain⟨a0,a1,a2,a3,a4,a5,a6,a7,a8,a9,E0,B0,af⟩:=j0.out.box
       go_wp2_with f0
       refine (zgi C gt cap base S3 q3 z3 d _ j2.out.tok I0).mono ?_
       rintro e w7 ⟨rfl,A7⟩
       replace j0:=hidI (j0.out.below A7)
       replace n0:=hidI (n0.out.below A7)
       replace G0:=hidI (G0.out.below A7)
       have P3:=hidI (J2.out.below A7)
       have N2:=hidI (j2.out.later A7)
       have L5:Hid (Row S3 w7 base w.heap.size r l):=hR.out.below A7
       clear hR
       have hR:=hidI L5
       clear L5
       clear A7 J2 j2
       clear a0 a1 a2 a3 a4 a5 a6 a7 a8 a9 E0 B0 af
       obtain⟨a0,a1,a2,a3,a4,a5,a6,a7,a8,a9,E0,B0,af⟩:=j0.out.box
       unfold pv
       go_wp2
       go_meet
       case rel=>exact⟨S3,q3,(zft C q3.pos z3),n3,rfl,zblm g7.out hb (by rw[e3];rfl),(N2.out.put j0.out _ _ _ _ _ _ _ _ _ _ _ _),(P3.out.put (by omega) _ _ _ _ _ _ _ _ _ _ _ _),(j0.out.put _ _ _ _ _ _ _ _ _ _ _ _),(n0.out.other (by omega) _ _ _ _ _ _ _ _ _ _ _ _),(hR.out.put j0.out _ _ _ _ _ _ _ _ _ _ _ _)⟩
      |true=>
       obtain⟨a0,a1,a2,a3,a4,a5,a6,a7,a8,a9,E0,B0,af⟩:=j0.out.box
       go_wp2
       go_meet
       case rel=>exact⟨S3,q3,z3,n3,rfl,zxg g7.out hb (by rw[e3];rfl),j2.out,J2.out,j0.out,n0.out,hR.out⟩
     |false=>
      obtain⟨a0,a1,a2,a3,a4,a5,a6,a7,a8,a9,E0,B0,af⟩:=j0.out.box
      go_wp2
      go_meet
      case rel=>exact⟨S3,q3,z3,n3,rfl,zxg g7.out hb (by rw[e3];rfl),j2.out,J2.out,j0.out,n0.out,hR.out⟩
   case rest=>
    obtain⟨S5,q5,z5,n5,rfl,i5,m5,t5,X0,X1,R0⟩:=hcut
    clear j0 n0 G0 hR j2 J2
    have j0:=hidI X0
    have n0:=hidI X1
    have Z1:=hidI m5
    have P2:=hidI t5
    have T7:=hidI i5
    have hR:=hidI R0
    clear X0 X1 i5 m5 t5 R0
    go_upto_region 15 with f0
    go_cut [8] (fun s8 wx=>s8= .bool (anyB l||(n3.toList==[100,101,102,97,117,108,116]))∧wx=wc)
    case first=>
     cases ha:anyB l with
     |true=>
      go_wp2
      go_meet
      case rel=>exact⟨by rw[ha];rfl,rfl⟩
     |false=>
      cases e3:(n3.toList==[100,101,102,97,117,108,116]) with
      |true=>
       go_wp2
       go_meet
       case rel=>exact⟨by rw[ha,e3];rfl,rfl⟩
      |false=>
       go_wp2
       go_meet
       case rel=>exact⟨by rw[ha,e3];rfl,rfl⟩
    case rest=>
     obtain⟨rfl,rfl⟩:=hcut
     have O0:=fun o=>hR.out.own.alloc o
     have Ma:=Z1.out.base
     go_wp2_with (at_builtin;refine zgr _ rfl _ _ 50 rfl base 121 i0 _ 4 56 Tryz.underlying50 hi Q4 V4 N4 rfl (by decide) (by decide) r l.length _ (by rfl) (O0 _) wc.heap.size (epL ⟨0,n5,n3,sNone⟩) (by rfl) (by exact heap_alloc_new wc _) rfl (by intro u hu;simp[epL] at hu;rcases hu with rfl|rfl|rfl|rfl<;>rfl) (by omega) (by rw[ze];omega) ?_)
     intro r' w6 hr hg U1
     obtain⟨R6,m6⟩:=(hR.out.alloc _).grow (x:=⟨0,n5,n3,sNone⟩) (Z1.out.alloc _) (by rw[ze];have:=P2.out.size;omega) hg hr (by rw[ze];exact U1)
     have Yd:Hid (Bx gt S5 w6 _ _):=(hR.out.alloc _).bx (j0.out.alloc _) hg
     have Pd:Hid (Bx gt S5 w6 _ _):=(hR.out.alloc _).bx (n0.out.alloc _) hg
     have J2:Hid (SB w.heap.size S w S5 w6):=(hR.out.alloc _).sb (P2.out.alloc _) hg
     have j2:=hidI m6
     clear j0 n0 hR hr hg U1 O0 Ma Z1 P2 m6
     have j0:=hidI Yd
     have n0:=hidI Pd
     have hR:=hidI R6
     clear Yd Pd R6
     cases hc:(decide (z5<0)&&isT C q5.pos 4 zen) with
     |true=>
      obtain⟨a0,a1,a2,a3,a4,a5,a6,a7,a8,a9,E0,B0,af⟩:=j0.out.box
      go_wp2_with f0
      refine (zf C gt cap base S5 q5 z5 d 4 zen _ j2.out.tok I0 (by decide)).mono ?_
      rintro e w7 ⟨rfl,A7⟩
      rw[hc]
      replace j0:=hidI (j0.out.below A7)
      replace n0:=hidI (n0.out.below A7)
      have P3:=hidI (J2.out.below A7)
      have N2:=hidI (j2.out.later A7)
      have L5:Hid (Row S5 w7 base w.heap.size r' (l++[⟨0,n5,n3,sNone⟩])):=hR.out.below A7
      clear hR
      have hR:=hidI L5
      clear L5
      clear A7 J2 j2
      clear a0 a1 a2 a3 a4 a5 a6 a7 a8 a9 E0 B0 af
      rw[Bool.and_eq_true,decide_eq_true_eq] at hc
      obtain⟨hz5,R9⟩:=hc
      have hp5:q5.pos<C.ts.length:=zcl R9 (by decide)
      obtain⟨E5,P5⟩:=zbfv (l:=l) g7.out T7.out hz5 R9
      have HE:=hidI E5
      obtain rfl:z5= -1:=(zcs T7.out.fst hz5).2
      have HLL:Hid ((l++[(⟨0,n5,n3,sNone⟩:Ep)]).length≤q5.pos+1∨l++[(⟨0,n5,n3,sNone⟩:Ep)]=[]):=.inl (by simp only[List.length_append,List.length_singleton];exact Fd.out.elim (fun g=>by omega) (fun g=>by rw[g];simp))
      clear E5
      obtain⟨a0,a1,a2,a3,a4,a5,a6,a7,a8,a9,E0,B0,af⟩:=j0.out.box
      go_wp2
      go_roundg (gk-1)
      case rel=>exact⟨.ok (adv q5),S5,adv q5,-1,r',l++[⟨0,n5,n3,sNone⟩],zby _,by rw[←Ea.out];exact HE.out.symm,fun _=>by rw[zp];omega,HLL.out,by simp,by rw[zxf],((N2.out.adv hp5).set j0.out 1 _),(P3.out.set (by omega) 1 _),(j0.out.at1 _),(n0.out.set_other (by omega) 1 _),(hR.out.set j0.out 1 _)⟩
      case measure=>omega
     |false=>
      obtain⟨a0,a1,a2,a3,a4,a5,a6,a7,a8,a9,E0,B0,af⟩:=j0.out.box
      go_wp2_with f0
      refine (zf C gt cap base S5 q5 z5 d 4 zen _ j2.out.tok I0 (by decide)).mono ?_
      rintro e w7 ⟨rfl,A7⟩
      rw[hc]
      replace j0:=hidI (j0.out.below A7)
      replace n0:=hidI (n0.out.below A7)
      have P3:=hidI (J2.out.below A7)
      have N2:=hidI (j2.out.later A7)
      have L5:Hid (Row S5 w7 base w.heap.size r' (l++[⟨0,n5,n3,sNone⟩])):=hR.out.below A7
      clear hR
      have hR:=hidI L5
      clear L5
      clear A7 J2 j2
      clear a0 a1 a2 a3 a4 a5 a6 a7 a8 a9 E0 B0 af
      obtain⟨a0,a1,a2,a3,a4,a5,a6,a7,a8,a9,E0,B0,af⟩:=j0.out.box
      go_wp2_with f0
      refine (zq C gt cap base _ S5 q5 z5 d zef _ T7.out.fst N2.out).mono ?_
      rintro e w8 ⟨S8,q8,z8,rfl,i8,m8,s8⟩
      replace j0:=hidI (j0.out.stp s8)
      replace n0:=hidI (n0.out.stp s8)
      have J4:=hidI (P3.out.step s8)
      have L5:Hid (Row S8 w8 base w.heap.size r' (l++[⟨0,n5,n3,sNone⟩])):=hR.out.stp s8
      clear hR
      have hR:=hidI L5
      clear L5
      clear P3
      have H4:=hidI m8
      have H7:=hidI i8
      clear i8 m8 s8 N2
      clear a0 a1 a2 a3 a4 a5 a6 a7 a8 a9 E0 B0 af
      obtain⟨b0,b1,b2,b3,b4,b5,b6,b7,b8,b9,Z4,j5,bf⟩:=n0.out.box
      unfold pv
      go_wp2
      refine bodyPost_ret (zku rfl _ _ (w.heap.size+1) 100 _ (0,0) _ rfl ((n0.out.put _ _ _ _ _ _ _ _ _ _ _ _)).heap Tryz.underlying100 rfl (by o0)) rfl ?_
      exact⟨S8,q8,z8,r',l++[⟨0,n5,n3,sNone⟩],by simp[pv,zxf],by rw[←Ea.out,zbe,zky];exact zbiq g7.out T7.out hc H7.out,(H4.out.put n0.out _ _ _ _ _ _ _ _ _ _ _ _),((J4.out.put (by omega) _ _ _ _ _ _ _ _ _ _ _ _)).done,(hR.out.put n0.out _ _ _ _ _ _ _ _ _ _ _ _),by simp;omega⟩
  ·skip
   obtain⟨a0,a1,a2,a3,a4,a5,a6,a7,a8,a9,E0,B0,af⟩:=j0.out.box
   go_wp2_with f0
   refine (zq C gt cap base _ S2 q2 z2 d zef _ D6.out M0.out).mono ?_
   rintro e w3 ⟨S3,q3,z3,rfl,i3,m3,s3⟩
   replace j0:=hidI (j0.out.stp s3)
   replace n0:=hidI (n0.out.stp s3)
   have Q1:=hidI (F1.out.step s3)
   have L5:Hid (Row S3 w3 base w.heap.size r l):=hR.out.stp s3
   clear hR
   have hR:=hidI L5
   clear L5
   clear F1
   have U0:=hidI m3
   have g7:=hidI i3
   clear i3 m3 s3 M0
   clear a0 a1 a2 a3 a4 a5 a6 a7 a8 a9 E0 B0 af
   obtain⟨b0,b1,b2,b3,b4,b5,b6,b7,b8,b9,Z4,j5,bf⟩:=n0.out.box
   unfold pv
   go_wp2
   refine bodyPost_ret (zku rfl _ _ (w.heap.size+1) 100 _ (0,0) _ rfl ((n0.out.put _ _ _ _ _ _ _ _ _ _ _ _)).heap Tryz.underlying100 rfl (by o0)) rfl ?_
   exact⟨S3,q3,z3,r,l,rfl,by rw[←Ea.out];exact zbfw D6.out (by omega) g7.out,(U0.out.put n0.out _ _ _ _ _ _ _ _ _ _ _ _),((Q1.out.put (by omega) _ _ _ _ _ _ _ _ _ _ _ _)).done,(hR.out.put n0.out _ _ _ _ _ _ _ _ _ _ _ _),by omega⟩
/-- l4Sum answers as it should, where fewer than m tokens are left. -/
def SumOK (C:Cx) (gt cap base m:Nat):Prop:=∀(x:PR) (S:Sv) (q:PS) (z:Int) (d:Nat) (w:World),Is x q z→Mem C gt cap base S q w→(z<0→C.ts.length-q.pos<m)→d≤20→
 Calls Tryz.prog 125 #[pv C gt cap S q z d] w (Out C gt cap base (bd x (pE C .sum d)) d S w)
theorem znq {C:Cx} {o:Bool} {q q1:PS} {z1:Int} {n1:ByteArray} (h:Is2 (bd (.ok q) (zn C o)) q1 z1 n1) (hp:zba C q.pos o=true):q1=adv q∧z1= -1∧n1=(zd C q.pos).text:=by
 rw[zbe,zn,if_pos hp] at h
 exact h
theorem zpu {C:Cx} {o:Bool} {q q1:PS} {z1:Int} {n1:ByteArray} (h:Is2 (bd (.ok q) (zn C o)) q1 z1 n1) (hp:zba C q.pos o=false):z1=(here C q.pos:Int):=by
 rw[zbe,zn,hp] at h
 exact h
theorem zxh {C:Cx} {n:ByteArray} {y:Except Nat (PS×ByteArray)} {q:PS} {z:Int} {f:ByteArray} (h:Is2 y q z f) (hi:(decide (z<0)&&isT C q.pos 4 zt)=true):bd (bd (bd (fstP y) (tokP C 4 zt)) (tokP C 4 zcz)) (zbs C ⟨5,0,n,f,0,0⟩)=bd y fun a=>memP C n a.2 a.1:=by
 rw[Bool.and_eq_true,decide_eq_true_eq] at hi
 cases y with
 |ok a=>
  obtain⟨rfl,_,rfl⟩:=h
  show _=memP C n a.2 a.1
  rw[memP,if_pos hi.2]
  rfl
 |error e=>rfl
theorem zuh {C:Cx} {n:ByteArray} {y:Except Nat (PS×ByteArray)} {q:PS} {z:Int} {f:ByteArray} (h:Is2 y q z f) (hi:(decide (z<0)&&isT C q.pos 4 zt)=false):bd (fstP y) (zbs C ⟨4,0,n,f,0,0⟩)=bd y fun a=>memP C n a.2 a.1:=by
 cases y with
 |ok a=>
  obtain⟨rfl,rfl,rfl⟩:=h
  rw[Bool.and_eq_false_iff] at hi
  show _=memP C n a.2 a.1
  rw[memP,hi.resolve_left (by decide)]
  rfl
 |error e=>rfl
theorem zxi {C:Cx} {o:Bool} {x:PR} {q:PS} {z:Int} {n:ByteArray} (h:Is2 (bd x (zn C o)) q z n):z<0→1≤q.pos:=by
 intro hz
 cases hx:bd x (zn C o) with
 |error e=>rw[hx] at h;have:z=(e:Int):=h;omega
 |ok a=>
  rw[hx] at h
  obtain⟨rfl,_,_⟩:=h
  obtain⟨b,_,h2⟩:=zc hx
  obtain⟨rfl,_⟩:=zcv h2
  simp[adv]
theorem zbdc (C:Cx) (gt cap base:Nat) (S:Sv) (q:PS) (d:Nat) (w:World) (hm:Mem C gt cap base S q w) (h2:((zd C q.pos).kind==2)=true):
  Calls Tryz.prog 248 #[pv C gt cap S q (-1) d] w (Out C gt cap base (pE C .part d q) d S w):=by
 have HM:=hidI hm
 have G1:=hm.tok
 have I0:C.ts.length≤4000:=hm.few
 have l8:=(zbt hm.tok).1
 clear hm
 have hp:q.pos<C.ts.length:=zpp h2 (by decide)
 have HV:Hid (pE C .part d q=bd (.ok (adv q)) (zbs C ⟨1,(zd C q.pos).num,sNone,sNone,0,0⟩)):=by show pE C .part d q=_;rw[zeb,if_pos h2];rfl
 obtain⟨c0,_,c2,_⟩:=G1.cells hp (d:=⟨0,sNone,0,C.fin⟩)
 change _=some (Value.int .i64 (zd C q.pos).kind) at c0
 change _=some (Value.int .i64 (zd C q.pos).num) at c2
 have W0:Hid (Mem C gt cap base S (adv q) w):=HM.out.adv hp
 generalize (zd C q.pos).kind=kd at c0 h2
 have HN:Hid (∀n,n=(zd C q.pos).num→pE C .part d q=bd (.ok (adv q)) (zbs C ⟨1,n,sNone,sNone,0,0⟩)):=fun n e=>by rw[e];exact HV.out
 generalize lb:(zd C q.pos).num=nm at c2
 have nc:Hid (nm=(zd C q.pos).num):=lb.symm
 clear lb HV G1
 unfold pv
 go_enter Tryz.func248,Tryz.ntmps248
 go_wp2_with f0
 refine (zfb C gt cap base (.ok (adv q)) S (adv q) (-1) d ⟨1,nm,sNone,sNone,0,0⟩ _ (zby _) ((W0.out.alloc _).alloc _) (fun _=>by simp[adv])).mono ?_
 rintro e w1 ⟨S1,q1,z1,rfl,i1,m1,s1⟩
 obtain⟨X0,X1,t1⟩:=W0.out.two2 s1
 have n0:=hidI X1
 have Q0:=hidI m1
 have N1:=hidI t1
 have L6:=hidI i1
 clear X0 X1 i1 m1 t1 s1
 obtain⟨b0,b1,b2,b3,b4,b5,b6,b7,b8,b9,Z4,j5,bf⟩:=n0.out.box
 unfold pv
 go_wp2
 refine bodyPost_ret (results_cell_row rfl _ _ (w.heap.size+1) 100 _ (0,0) _ rfl ((n0.out.put _ _ _ _ _ _ _ _ _ _ _ _)).heap Tryz.underlying100 rfl (by o0)) rfl ?_
 rw[HN.out nm nc.out]
 exact zx rfl L6.out (Q0.out.put n0.out _ _ _ _ _ _ _ _ _ _ _ _) (N1.out.put (by omega) _ _ _ _ _ _ _ _ _ _ _ _)
theorem zzu (C:Cx) (gt cap base:Nat) (S:Sv) (q:PS) (d:Nat) (w:World) (hm:Mem C gt cap base S q w) (hk:((zd C q.pos).kind==2)=false) (ho:isT C q.pos 4 zt=true) (hd:20≤d) (hdd:d≤20):
  Calls Tryz.prog 248 #[pv C gt cap S q (-1) d] w (Out C gt cap base (pE C .part d q) d S w):=by
 have HM:=hidI hm
 have G1:=hm.tok
 have I0:C.ts.length≤4000:=hm.few
 have l8:=(zbt hm.tok).1
 clear hm
 have hp:q.pos<C.ts.length:=zcl ho (by decide)
 have HV:Hid (pE C .part d q= .error (here C q.pos)):=by show pE C .part d q=_;rw[zeb,hk,ho];simp[hd]
 have qd:decide ((20:Int)≤(d:Int))=true:=decide_eq_true (by omega)
 obtain⟨c0,_,_,_⟩:=G1.cells hp (d:=⟨0,sNone,0,C.fin⟩)
 change _=some (Value.int .i64 (zd C q.pos).kind) at c0
 generalize (zd C q.pos).kind=kd at c0 hk
 unfold pv
 go_enter Tryz.func248,Tryz.ntmps248
 go_wp2_with f0
 refine (zf C gt cap base S q (-1) d 4 zt _ (zg (zg G1 _) _) I0 (by decide)).mono ?_
 rintro e w1 ⟨rfl,P0⟩
 rw[ho]
 obtain⟨X0,X1,m1,t1⟩:=HM.out.two P0
 have j0:=hidI X0
 have n0:=hidI X1
 have Q0:=hidI m1
 have N1:=hidI t1
 clear X0 X1 m1 t1 P0
 obtain⟨a0,a1,a2,a3,a4,a5,a6,a7,a8,a9,E0,B0,af⟩:=j0.out.box
 go_wp2_with f0
 refine (zgi C gt cap base S q (-1) d _ Q0.out.tok I0).mono ?_
 rintro e w2 ⟨rfl,J0⟩
 replace j0:=hidI (j0.out.below J0)
 replace n0:=hidI (n0.out.below J0)
 have F1:=hidI (N1.out.below J0)
 have M0:=hidI (Q0.out.later J0)
 clear J0 N1 Q0
 clear a0 a1 a2 a3 a4 a5 a6 a7 a8 a9 E0 B0 af
 obtain⟨b0,b1,b2,b3,b4,b5,b6,b7,b8,b9,Z4,j5,bf⟩:=n0.out.box
 unfold pv
 go_wp2
 refine bodyPost_ret (results_cell_row rfl _ _ (w.heap.size+1) 100 _ (0,0) _ rfl ((n0.out.put _ _ _ _ _ _ _ _ _ _ _ _)).heap Tryz.underlying100 rfl (by o0)) rfl ?_
 rw[HV.out]
 exact zx rfl (show Is (.error (here C q.pos)) q _ from rfl) (M0.out.put n0.out _ _ _ _ _ _ _ _ _ _ _ _) (F1.out.put (by omega) _ _ _ _ _ _ _ _ _ _ _ _)
theorem zzv (C:Cx) (gt cap base:Nat) (S:Sv) (q:PS) (d:Nat) (w:World) (hm:Mem C gt cap base S q w) (hk:((zd C q.pos).kind==2)=false) (ho:isT C q.pos 4 zt=true) (hd:d<20) (hS:SumOK C gt cap base (C.ts.length-q.pos)):
  Calls Tryz.prog 248 #[pv C gt cap S q (-1) d] w (Out C gt cap base (pE C .part d q) d S w):=by
 have HM:=hidI hm
 have G1:=hm.tok
 have I0:C.ts.length≤4000:=hm.few
 have l8:=(zbt hm.tok).1
 clear hm
 have hp:q.pos<C.ts.length:=zcl ho (by decide)
 have HV:Hid (pE C .part d q=bd (bd (.ok (adv q)) (pE C .sum (d+1))) (tokP C 4 zcz)):=by show pE C .part d q=_;rw[zeb,hk,ho,if_neg (by decide),if_pos rfl,if_neg (by omega)];rfl
 have HS:=hidI hS
 clear hS
 have qd:decide ((20:Int)≤(d:Int))=false:=decide_eq_false (by omega)
 obtain⟨c0,_,_,_⟩:=G1.cells hp (d:=⟨0,sNone,0,C.fin⟩)
 change _=some (Value.int .i64 (zd C q.pos).kind) at c0
 generalize (zd C q.pos).kind=kd at c0 hk
 unfold pv
 go_enter Tryz.func248,Tryz.ntmps248
 go_wp2_with f0
 refine (zf C gt cap base S q (-1) d 4 zt _ (zg (zg G1 _) _) I0 (by decide)).mono ?_
 rintro e w1 ⟨rfl,P0⟩
 rw[ho]
 obtain⟨X0,X1,m1,t1⟩:=HM.out.two P0
 have j0:=hidI X0
 have n0:=hidI X1
 have Q0:=hidI m1
 have N1:=hidI t1
 clear X0 X1 m1 t1 P0
 obtain⟨a0,a1,a2,a3,a4,a5,a6,a7,a8,a9,E0,B0,af⟩:=j0.out.box
 go_wp2_with f0
 refine (HS.out (.ok (adv q)) S (adv q) (-1) (d+1) _ (zby _) (((Q0.out.adv hp).set j0.out 1 _).set (j0.out.at1 _) 11 _) (fun _=>by show C.ts.length-(q.pos+1)<_;omega) (by omega)).mono ?_
 rintro e w2 ⟨S2,q2,z2,rfl,i2,m2,s2⟩
 replace j0:=hidI (((j0.out.at1 _).at11 _).stp s2)
 replace n0:=hidI (((n0.out.set_other (by omega) 1 _).set_other (by omega) 11 _).stp s2)
 have F1:Hid (SB w.heap.size S w S2 w2):=((N1.out.set (by omega) 1 _).set (by omega) 11 _).step s2
 clear N1
 have M0:=hidI m2
 have D6:=hidI i2
 clear i2 m2 s2 Q0
 clear a0 a1 a2 a3 a4 a5 a6 a7 a8 a9 E0 B0 af
 go_wp2_with f0
 refine (zq C gt cap base _ S2 q2 z2 (d+1) zcz _ D6.out M0.out).mono ?_
 rintro e w3 ⟨S3,q3,z3,rfl,i3,m3,s3⟩
 replace j0:=hidI (j0.out.stp s3)
 replace n0:=hidI (n0.out.stp s3)
 have Q1:=hidI (F1.out.step s3)
 clear F1
 have U0:=hidI m3
 have g7:=hidI i3
 clear i3 m3 s3 M0
 obtain⟨a0,a1,a2,a3,a4,a5,a6,a7,a8,a9,E0,B0,af⟩:=j0.out.box
 obtain⟨D,hD⟩: ∃D:Nat,D=d+1:=⟨_,rfl⟩
 rw[←hD]
 have rb:(D:Int)-1=d:=by omega
 have hd2:D≤20:=by omega
 clear hD hd qd
 unfold pv
 go_upto_region 11 with f0
 refine zo (R:=fun W=>Bx gt S3 W (w.heap.size) _∧Bx gt S3 W (w.heap.size+1) _∧Mem C gt cap base S3 q3 W∧SB w.heap.size S w S3 W) ⟨(j0.out.put _ _ _ _ _ _ _ _ _ _ _ _),(n0.out.other (by omega) _ _ _ _ _ _ _ _ _ _ _ _),(U0.out.put j0.out _ _ _ _ _ _ _ _ _ _ _ _),(Q1.out.put (by omega) _ _ _ _ _ _ _ _ _ _ _ _)⟩ ?_
 clear a0 a1 a2 a3 a4 a5 a6 a7 a8 a9 E0 B0 af
 clear j0 n0 Q1 U0
 rintro w4 ⟨X0,X1,m4,t4⟩
 have j0:=hidI X0
 have n0:=hidI X1
 have V1:=hidI m4
 have F2:=hidI t4
 clear m4 t4 X0 X1
 obtain⟨a0,a1,a2,a3,a4,a5,a6,a7,a8,a9,E0,B0,af⟩:=j0.out.box
 obtain⟨b0,b1,b2,b3,b4,b5,b6,b7,b8,b9,Z4,j5,bf⟩:=n0.out.box
 go_wp2
 refine bodyPost_ret (results_cell_row rfl _ _ (w.heap.size+1) 100 _ (0,0) _ rfl (((n0.out.set_other (by omega) 11 _).put _ _ _ _ _ _ _ _ _ _ _ _)).heap Tryz.underlying100 rfl (by o0)) rfl ?_
 rw[HV.out]
 exact zx rfl g7.out ((V1.out.set j0.out 11 _).put (n0.out.set_other (by omega) 11 _) _ _ _ _ _ _ _ _ _ _ _ _) ((F2.out.set (by omega) 11 _).put (by omega) _ _ _ _ _ _ _ _ _ _ _ _)
theorem zsf (ts:List Tk) (fin:Nat) (gt cap base:Nat) (S:Sv) (q:PS) (d:Nat) (w:World) (hm:Mem (Cx.mk ts fin true) gt cap base S q w) (hp: ¬q.pos<(Cx.mk ts fin true).ts.length):
  Calls Tryz.prog 248 #[pv (Cx.mk ts fin true) gt cap S q (-1) d] w (Out (Cx.mk ts fin true) gt cap base (pE (Cx.mk ts fin true) .part d q) d S w):=by
 have HM:=hidI hm
 have G1:=hm.tok
 have I0:(Cx.mk ts fin true).ts.length≤4000:=hm.few
 have l8:=(zbt hm.tok).1
 clear hm
 have hk:((zd (Cx.mk ts fin true) q.pos).kind==2)=false:=by rw[zgg (by omega)];rfl
 have ho:isT (Cx.mk ts fin true) q.pos 4 zt=false:=zmw hp (by decide)
 have hu:isT (Cx.mk ts fin true) q.pos 1 zcq=false:=zmw hp (by decide)
 have hn:zba (Cx.mk ts fin true) q.pos false=false:=zot hp
 have HV:Hid (pE (Cx.mk ts fin true) .part d q= .error (here (Cx.mk ts fin true) q.pos)):=by show pE (Cx.mk ts fin true) .part d q=_;rw[zeb,hk,ho,hu,zn,hn];rfl
 have Q9: ¬q.pos<ts.length:=hp
 unfold pv
 go_enter Tryz.func248,Tryz.ntmps248
 go_wp2_with f0
 refine (zf (Cx.mk ts fin true) gt cap base S q (-1) d 4 zt _ (zg (zg G1 _) _) I0 (by decide)).mono ?_
 rintro e w1 ⟨rfl,P0⟩
 rw[ho]
 obtain⟨X0,X1,m1,t1⟩:=HM.out.two P0
 have j0:=hidI X0
 have n0:=hidI X1
 have Q0:=hidI m1
 have N1:=hidI t1
 clear X0 X1 m1 t1 P0
 obtain⟨a0,a1,a2,a3,a4,a5,a6,a7,a8,a9,E0,B0,af⟩:=j0.out.box
 go_wp2_with f0
 refine (zf (Cx.mk ts fin true) gt cap base S q (-1) d 1 zcq _ Q0.out.tok I0 (by decide)).mono ?_
 rintro e w2 ⟨rfl,J0⟩
 rw[hu]
 replace j0:=hidI (j0.out.below J0)
 replace n0:=hidI (n0.out.below J0)
 have F1:=hidI (N1.out.below J0)
 have M0:=hidI (Q0.out.later J0)
 clear J0 N1 Q0
 clear a0 a1 a2 a3 a4 a5 a6 a7 a8 a9 E0 B0 af
 obtain⟨a0,a1,a2,a3,a4,a5,a6,a7,a8,a9,E0,B0,af⟩:=j0.out.box
 go_wp2_with f0
 refine (zcb (Cx.mk ts fin true) gt cap base (.ok q) S q (-1) d false _ (zby q) M0.out).mono ?_
 rintro e w3 ⟨S3,q3,z3,n3,rfl,i3,m3,s3⟩
 replace j0:=hidI (j0.out.stp s3)
 replace n0:=hidI (n0.out.stp s3)
 have Q1:=hidI (F1.out.step s3)
 clear F1
 have U0:=hidI m3
 have g7:=hidI i3
 clear i3 m3 s3 M0
 clear a0 a1 a2 a3 a4 a5 a6 a7 a8 a9 E0 B0 af
 obtain rfl:=zpu g7.out hn
 have dz:decide ((0:Int)≤(here (Cx.mk ts fin true) q.pos:Int))=true:=decide_eq_true (by omega)
 have u5:w.heap.size+1<w3.heap.size:=n0.out.lt
 unfold pv
 go_upto_region 17 with f0
 refine zo (R:=fun W=>Bx gt S3 W (w.heap.size) _∧Bx gt S3 W (w.heap.size+1) _∧Bx gt S3 W (w3.heap.size) _∧Mem (Cx.mk ts fin true) gt cap base S3 q3 W∧SB w.heap.size S w S3 W) ⟨(j0.out.alloc _),(n0.out.alloc _),(Bx.new U0.out _),(U0.out.alloc _),(Q1.out.alloc _)⟩ ?_
 clear j0 n0 Q1 U0
 rintro w4 ⟨X0,X1,X2,m4,t4⟩
 have j0:=hidI X0
 have n0:=hidI X1
 have G0:=hidI X2
 have V1:=hidI m4
 have F2:=hidI t4
 clear m4 t4 X0 X1 X2
 obtain⟨b0,b1,b2,b3,b4,b5,b6,b7,b8,b9,Z4,j5,bf⟩:=n0.out.box
 obtain⟨c0,c1,c2,c3,c4,c5,c6,c7,c8,c9,c10,c11,cf⟩:=G0.out.box
 go_wp2
 refine bodyPost_ret (results_cell_row rfl _ _ (w.heap.size+1) 100 _ (0,0) _ rfl ((n0.out.put _ _ _ _ _ _ _ _ _ _ _ _)).heap Tryz.underlying100 rfl (by o0)) rfl ?_
 rw[HV.out]
 exact zx rfl (show Is (.error (here (Cx.mk ts fin true) q.pos)) q3 _ from rfl) (V1.out.put n0.out _ _ _ _ _ _ _ _ _ _ _ _) (F2.out.put (by omega) _ _ _ _ _ _ _ _ _ _ _ _)
theorem zrf (ts:List Tk) (fin:Nat) (gt cap base:Nat) (S:Sv) (q:PS) (d:Nat) (w:World) (hm:Mem (Cx.mk ts fin true) gt cap base S q w) (hk:((zd (Cx.mk ts fin true) q.pos).kind==2)=false) (ho:isT (Cx.mk ts fin true) q.pos 4 zt=false) (hp:q.pos<(Cx.mk ts fin true).ts.length) (hu:isT (Cx.mk ts fin true) q.pos 1 zcq=false) (hn:zba (Cx.mk ts fin true) q.pos false=false):
  Calls Tryz.prog 248 #[pv (Cx.mk ts fin true) gt cap S q (-1) d] w (Out (Cx.mk ts fin true) gt cap base (pE (Cx.mk ts fin true) .part d q) d S w):=by
 have HM:=hidI hm
 have G1:=hm.tok
 have I0:(Cx.mk ts fin true).ts.length≤4000:=hm.few
 have l8:=(zbt hm.tok).1
 clear hm
 have HV:Hid (pE (Cx.mk ts fin true) .part d q= .error (here (Cx.mk ts fin true) q.pos)):=by show pE (Cx.mk ts fin true) .part d q=_;rw[zeb,hk,ho,hu,zn,hn];rfl
 have Q9:q.pos<ts.length:=hp
 obtain⟨c0,_,_,_⟩:=G1.cells hp (d:=⟨0,sNone,0,(Cx.mk ts fin true).fin⟩)
 change _=some (Value.int .i64 (zd (Cx.mk ts fin true) q.pos).kind) at c0
 generalize (zd (Cx.mk ts fin true) q.pos).kind=kd at c0 hk
 unfold pv
 go_enter Tryz.func248,Tryz.ntmps248
 go_wp2_with f0
 refine (zf (Cx.mk ts fin true) gt cap base S q (-1) d 4 zt _ (zg (zg G1 _) _) I0 (by decide)).mono ?_
 rintro e w1 ⟨rfl,P0⟩
 rw[ho]
 obtain⟨X0,X1,m1,t1⟩:=HM.out.two P0
 have j0:=hidI X0
 have n0:=hidI X1
 have Q0:=hidI m1
 have N1:=hidI t1
 clear X0 X1 m1 t1 P0
 obtain⟨a0,a1,a2,a3,a4,a5,a6,a7,a8,a9,E0,B0,af⟩:=j0.out.box
 go_wp2_with f0
 refine (zf (Cx.mk ts fin true) gt cap base S q (-1) d 1 zcq _ Q0.out.tok I0 (by decide)).mono ?_
 rintro e w2 ⟨rfl,J0⟩
 rw[hu]
 replace j0:=hidI (j0.out.below J0)
 replace n0:=hidI (n0.out.below J0)
 have F1:=hidI (N1.out.below J0)
 have M0:=hidI (Q0.out.later J0)
 clear J0 N1 Q0
 clear a0 a1 a2 a3 a4 a5 a6 a7 a8 a9 E0 B0 af
 obtain⟨a0,a1,a2,a3,a4,a5,a6,a7,a8,a9,E0,B0,af⟩:=j0.out.box
 go_wp2_with f0
 refine (zcb (Cx.mk ts fin true) gt cap base (.ok q) S q (-1) d false _ (zby q) M0.out).mono ?_
 rintro e w3 ⟨S3,q3,z3,n3,rfl,i3,m3,s3⟩
 replace j0:=hidI (j0.out.stp s3)
 replace n0:=hidI (n0.out.stp s3)
 have Q1:=hidI (F1.out.step s3)
 clear F1
 have U0:=hidI m3
 have g7:=hidI i3
 clear i3 m3 s3 M0
 clear a0 a1 a2 a3 a4 a5 a6 a7 a8 a9 E0 B0 af
 obtain rfl:=zpu g7.out hn
 have dz:decide ((0:Int)≤(here (Cx.mk ts fin true) q.pos:Int))=true:=decide_eq_true (by omega)
 have u5:w.heap.size+1<w3.heap.size:=n0.out.lt
 unfold pv
 go_upto_region 17 with f0
 refine zo (R:=fun W=>Bx gt S3 W (w.heap.size) _∧Bx gt S3 W (w.heap.size+1) _∧Bx gt S3 W (w3.heap.size) _∧Mem (Cx.mk ts fin true) gt cap base S3 q3 W∧SB w.heap.size S w S3 W) ⟨(j0.out.alloc _),(n0.out.alloc _),(Bx.new U0.out _),(U0.out.alloc _),(Q1.out.alloc _)⟩ ?_
 clear j0 n0 Q1 U0
 rintro w4 ⟨X0,X1,X2,m4,t4⟩
 have j0:=hidI X0
 have n0:=hidI X1
 have G0:=hidI X2
 have V1:=hidI m4
 have F2:=hidI t4
 clear m4 t4 X0 X1 X2
 obtain⟨b0,b1,b2,b3,b4,b5,b6,b7,b8,b9,Z4,j5,bf⟩:=n0.out.box
 obtain⟨c0,c1,c2,c3,c4,c5,c6,c7,c8,c9,c10,c11,cf⟩:=G0.out.box
 go_wp2
 refine bodyPost_ret (results_cell_row rfl _ _ (w.heap.size+1) 100 _ (0,0) _ rfl ((n0.out.put _ _ _ _ _ _ _ _ _ _ _ _)).heap Tryz.underlying100 rfl (by o0)) rfl ?_
 rw[HV.out]
 exact zx rfl (show Is (.error (here (Cx.mk ts fin true) q.pos)) q3 _ from rfl) (V1.out.put n0.out _ _ _ _ _ _ _ _ _ _ _ _) (F2.out.put (by omega) _ _ _ _ _ _ _ _ _ _ _ _)
theorem zmh (ts:List Tk) (fin:Nat) (gt cap base:Nat) (S:Sv) (q:PS) (d:Nat) (w:World) (hm:Mem (Cx.mk ts fin true) gt cap base S q w) (e0:Nat):
  Calls Tryz.prog 248 #[pv (Cx.mk ts fin true) gt cap S q (e0:Int) d] w (Out (Cx.mk ts fin true) gt cap base (.error e0) d S w):=by
 have HM:=hidI hm
 have G1:=hm.tok
 have I0:(Cx.mk ts fin true).ts.length≤4000:=hm.few
 have l8:=(zbt hm.tok).1
 clear hm
 have hz: ¬(e0:Int)<0:=by omega
 have hs: ∀k s,(decide ((e0:Int)<0)&&isT (Cx.mk ts fin true) q.pos k s)=false:=fun k s=>by rw[decide_eq_false hz];rfl
 unfold pv
 go_enter Tryz.func248,Tryz.ntmps248
 go_wp2_with f0
 refine (zf (Cx.mk ts fin true) gt cap base S q (e0:Int) d 4 zt _ (zg (zg G1 _) _) I0 (by decide)).mono ?_
 rintro e w1 ⟨rfl,P0⟩
 rw[hs]
 obtain⟨X0,X1,m1,t1⟩:=HM.out.two P0
 have j0:=hidI X0
 have n0:=hidI X1
 have Q0:=hidI m1
 have N1:=hidI t1
 clear X0 X1 m1 t1 P0
 obtain⟨a0,a1,a2,a3,a4,a5,a6,a7,a8,a9,E0,B0,af⟩:=j0.out.box
 go_wp2_with f0
 refine (zf (Cx.mk ts fin true) gt cap base S q (e0:Int) d 1 zcq _ Q0.out.tok I0 (by decide)).mono ?_
 rintro e w2 ⟨rfl,J0⟩
 rw[hs]
 replace j0:=hidI (j0.out.below J0)
 replace n0:=hidI (n0.out.below J0)
 have F1:=hidI (N1.out.below J0)
 have M0:=hidI (Q0.out.later J0)
 clear J0 N1 Q0
 clear a0 a1 a2 a3 a4 a5 a6 a7 a8 a9 E0 B0 af
 obtain⟨a0,a1,a2,a3,a4,a5,a6,a7,a8,a9,E0,B0,af⟩:=j0.out.box
 go_wp2_with f0
 refine (zcb (Cx.mk ts fin true) gt cap base (.error e0) S q (e0:Int) d false _ (show Is (.error e0) q _ from rfl) M0.out).mono ?_
 rintro e w3 ⟨S3,q3,z3,n3,rfl,i3,m3,s3⟩
 replace j0:=hidI (j0.out.stp s3)
 replace n0:=hidI (n0.out.stp s3)
 have Q1:=hidI (F1.out.step s3)
 clear F1
 have U0:=hidI m3
 have g7:=hidI i3
 clear i3 m3 s3 M0
 clear a0 a1 a2 a3 a4 a5 a6 a7 a8 a9 E0 B0 af
 obtain rfl:z3=(e0:Int):=g7.out
 have dz:decide ((0:Int)≤(e0:Int))=true:=decide_eq_true (by omega)
 have u5:w.heap.size+1<w3.heap.size:=n0.out.lt
 unfold pv
 go_upto_region 17 with f0
 refine zo (R:=fun W=>Bx gt S3 W (w.heap.size) _∧Bx gt S3 W (w.heap.size+1) _∧Bx gt S3 W (w3.heap.size) _∧Mem (Cx.mk ts fin true) gt cap base S3 q3 W∧SB w.heap.size S w S3 W) ⟨(j0.out.alloc _),(n0.out.alloc _),(Bx.new U0.out _),(U0.out.alloc _),(Q1.out.alloc _)⟩ ?_
 clear j0 n0 Q1 U0
 rintro w4 ⟨X0,X1,X2,m4,t4⟩
 have j0:=hidI X0
 have n0:=hidI X1
 have G0:=hidI X2
 have V1:=hidI m4
 have F2:=hidI t4
 clear m4 t4 X0 X1 X2
 obtain⟨b0,b1,b2,b3,b4,b5,b6,b7,b8,b9,Z4,j5,bf⟩:=n0.out.box
 obtain⟨c0,c1,c2,c3,c4,c5,c6,c7,c8,c9,c10,c11,cf⟩:=G0.out.box
 go_wp2
 refine bodyPost_ret (results_cell_row rfl _ _ (w.heap.size+1) 100 _ (0,0) _ rfl ((n0.out.put _ _ _ _ _ _ _ _ _ _ _ _)).heap Tryz.underlying100 rfl (by o0)) rfl ?_
 exact zx rfl (show Is (.error e0) q3 _ from rfl) (V1.out.put n0.out _ _ _ _ _ _ _ _ _ _ _ _) (F2.out.put (by omega) _ _ _ _ _ _ _ _ _ _ _ _)
theorem zqc (ts:List Tk) (fin:Nat) (gt cap base:Nat) (S:Sv) (q:PS) (d:Nat) (w:World) (hm:Mem (Cx.mk ts fin true) gt cap base S q w) (hk:((zd (Cx.mk ts fin true) q.pos).kind==2)=false) (ho:isT (Cx.mk ts fin true) q.pos 4 zt=false) (hp:q.pos<(Cx.mk ts fin true).ts.length) (hu:isT (Cx.mk ts fin true) q.pos 1 zcq=true):
  Calls Tryz.prog 248 #[pv (Cx.mk ts fin true) gt cap S q (-1) d] w (Out (Cx.mk ts fin true) gt cap base (pE (Cx.mk ts fin true) .part d q) d S w):=by
 have HM:=hidI hm
 have G1:=hm.tok
 have I0:(Cx.mk ts fin true).ts.length≤4000:=hm.few
 have l8:=(zbt hm.tok).1
 clear hm
 have HV:Hid (pE (Cx.mk ts fin true) .part d q=zfi (Cx.mk ts fin true) zcq (adv q)):=by show pE (Cx.mk ts fin true) .part d q=_;rw[zeb,hk,ho,hu];rfl
 have Q9:q.pos<ts.length:=hp
 obtain⟨c0,_,_,_⟩:=G1.cells hp (d:=⟨0,sNone,0,(Cx.mk ts fin true).fin⟩)
 change _=some (Value.int .i64 (zd (Cx.mk ts fin true) q.pos).kind) at c0
 generalize (zd (Cx.mk ts fin true) q.pos).kind=kd at c0 hk
 unfold pv
 go_enter Tryz.func248,Tryz.ntmps248
 go_wp2_with f0
 refine (zf (Cx.mk ts fin true) gt cap base S q (-1) d 4 zt _ (zg (zg G1 _) _) I0 (by decide)).mono ?_
 rintro e w1 ⟨rfl,P0⟩
 rw[ho]
 obtain⟨X0,X1,m1,t1⟩:=HM.out.two P0
 have j0:=hidI X0
 have n0:=hidI X1
 have Q0:=hidI m1
 have N1:=hidI t1
 clear X0 X1 m1 t1 P0
 obtain⟨a0,a1,a2,a3,a4,a5,a6,a7,a8,a9,E0,B0,af⟩:=j0.out.box
 go_wp2_with f0
 refine (zf (Cx.mk ts fin true) gt cap base S q (-1) d 1 zcq _ Q0.out.tok I0 (by decide)).mono ?_
 rintro e w2 ⟨rfl,J0⟩
 rw[hu]
 replace j0:=hidI (j0.out.below J0)
 replace n0:=hidI (n0.out.below J0)
 have F1:=hidI (N1.out.below J0)
 have M0:=hidI (Q0.out.later J0)
 clear J0 N1 Q0
 clear a0 a1 a2 a3 a4 a5 a6 a7 a8 a9 E0 B0 af
 obtain⟨a0,a1,a2,a3,a4,a5,a6,a7,a8,a9,E0,B0,af⟩:=j0.out.box
 go_wp2_with f0
 refine (zmq (Cx.mk ts fin true) gt cap base S (adv q) d zcq _ ((M0.out.adv hp).set j0.out 1 _) (by simp[adv])).mono ?_
 rintro e w3 ⟨S3,q3,z3,rfl,i3,m3,s3⟩
 replace j0:=hidI ((j0.out.at1 _).stp s3)
 replace n0:=hidI ((n0.out.set_other (by omega) 1 _).stp s3)
 have Q1:Hid (SB w.heap.size S w S3 w3):=(F1.out.set (by omega) 1 _).step s3
 clear F1
 have U0:=hidI m3
 have g7:=hidI i3
 clear i3 m3 s3 M0
 clear a0 a1 a2 a3 a4 a5 a6 a7 a8 a9 E0 B0 af
 obtain⟨b0,b1,b2,b3,b4,b5,b6,b7,b8,b9,Z4,j5,bf⟩:=n0.out.box
 unfold pv
 go_wp2
 refine bodyPost_ret (results_cell_row rfl _ _ (w.heap.size+1) 100 _ (0,0) _ rfl ((n0.out.put _ _ _ _ _ _ _ _ _ _ _ _)).heap Tryz.underlying100 rfl (by o0)) rfl ?_
 rw[HV.out]
 exact zx rfl g7.out (U0.out.put n0.out _ _ _ _ _ _ _ _ _ _ _ _) (Q1.out.put (by omega) _ _ _ _ _ _ _ _ _ _ _ _)
theorem zrg (ts:List Tk) (fin:Nat) (gt cap base:Nat) (S:Sv) (q:PS) (d:Nat) (w:World) (hm:Mem (Cx.mk ts fin true) gt cap base S q w) (hk:((zd (Cx.mk ts fin true) q.pos).kind==2)=false) (ho:isT (Cx.mk ts fin true) q.pos 4 zt=false) (hp:q.pos<(Cx.mk ts fin true).ts.length) (hu:isT (Cx.mk ts fin true) q.pos 1 zcq=false) (hn:zba (Cx.mk ts fin true) q.pos false=true) (hd:isT (Cx.mk ts fin true) (q.pos+1) 4 cPoint=false):
  Calls Tryz.prog 248 #[pv (Cx.mk ts fin true) gt cap S q (-1) d] w (Out (Cx.mk ts fin true) gt cap base (pE (Cx.mk ts fin true) .part d q) d S w):=by
 have HM:=hidI hm
 have G1:=hm.tok
 have I0:(Cx.mk ts fin true).ts.length≤4000:=hm.few
 have l8:=(zbt hm.tok).1
 clear hm
 have HV:Hid (pE (Cx.mk ts fin true) .part d q=zfi (Cx.mk ts fin true) (zd (Cx.mk ts fin true) q.pos).text (adv q)):=by show pE (Cx.mk ts fin true) .part d q=_;rw[zeb,hk,ho,hu,zn,hn];show (if isT (Cx.mk ts fin true) (adv q).pos 4 cPoint then _ else _)=_;rw[zp,hd];rfl
 have Q9:q.pos<ts.length:=hp
 obtain⟨c0,_,_,_⟩:=G1.cells hp (d:=⟨0,sNone,0,(Cx.mk ts fin true).fin⟩)
 change _=some (Value.int .i64 (zd (Cx.mk ts fin true) q.pos).kind) at c0
 generalize (zd (Cx.mk ts fin true) q.pos).kind=kd at c0 hk
 unfold pv
 go_enter Tryz.func248,Tryz.ntmps248
 go_wp2_with f0
 refine (zf (Cx.mk ts fin true) gt cap base S q (-1) d 4 zt _ (zg (zg G1 _) _) I0 (by decide)).mono ?_
 rintro e w1 ⟨rfl,P0⟩
 rw[ho]
 obtain⟨X0,X1,m1,t1⟩:=HM.out.two P0
 have j0:=hidI X0
 have n0:=hidI X1
 have Q0:=hidI m1
 have N1:=hidI t1
 clear X0 X1 m1 t1 P0
 obtain⟨a0,a1,a2,a3,a4,a5,a6,a7,a8,a9,E0,B0,af⟩:=j0.out.box
 go_wp2_with f0
 refine (zf (Cx.mk ts fin true) gt cap base S q (-1) d 1 zcq _ Q0.out.tok I0 (by decide)).mono ?_
 rintro e w2 ⟨rfl,J0⟩
 rw[hu]
 replace j0:=hidI (j0.out.below J0)
 replace n0:=hidI (n0.out.below J0)
 have F1:=hidI (N1.out.below J0)
 have M0:=hidI (Q0.out.later J0)
 clear J0 N1 Q0
 clear a0 a1 a2 a3 a4 a5 a6 a7 a8 a9 E0 B0 af
 obtain⟨a0,a1,a2,a3,a4,a5,a6,a7,a8,a9,E0,B0,af⟩:=j0.out.box
 go_wp2_with f0
 refine (zcb (Cx.mk ts fin true) gt cap base (.ok q) S q (-1) d false _ (zby q) M0.out).mono ?_
 rintro e w3 ⟨S3,q3,z3,n3,rfl,i3,m3,s3⟩
 replace j0:=hidI (j0.out.stp s3)
 replace n0:=hidI (n0.out.stp s3)
 have Q1:=hidI (F1.out.step s3)
 clear F1
 have U0:=hidI m3
 have g7:=hidI i3
 clear i3 m3 s3 M0
 clear a0 a1 a2 a3 a4 a5 a6 a7 a8 a9 E0 B0 af
 obtain⟨hq,rfl,lb⟩:=znq g7.out hn
 have HQ:=hidI hq
 have nc:=hidI lb
 have lc:q3.pos=q.pos+1:=by rw[hq];rfl
 have qc:isT (Cx.mk ts fin true) q3.pos 4 cPoint=false:=by rw[lc];exact hd
 clear hq lb g7
 have u5:w.heap.size+1<w3.heap.size:=n0.out.lt
 unfold pv
 clear lc
 go_wp2_with f0
 refine (zf (Cx.mk ts fin true) gt cap base S3 q3 (-1) d 4 cPoint _ (U0.out.alloc _).tok I0 (by decide)).mono ?_
 rintro e w4 ⟨rfl,Z0⟩
 rw[qc]
 replace j0:=hidI ((j0.out.alloc _).below Z0)
 replace n0:=hidI ((n0.out.alloc _).below Z0)
 replace G0:=hidI ((Bx.new U0.out _).below Z0)
 have F2:Hid (SB w.heap.size S w S3 w4):=(Q1.out.alloc _).below Z0
 have V1:Hid (Mem (Cx.mk ts fin true) gt cap base S3 q3 w4):=(U0.out.alloc _).later Z0
 clear Z0 Q1 U0
 obtain⟨c0,c1,c2,c3,c4,c5,c6,c7,c8,c9,c10,c11,cf⟩:=G0.out.box
 go_wp2_with f0
 refine (zmq (Cx.mk ts fin true) gt cap base S3 q3 d n3 _ V1.out (by rw[HQ.out];simp[adv])).mono ?_
 rintro e w5 ⟨S5,q5,z5,rfl,i5,m5,s5⟩
 replace j0:=hidI (j0.out.stp s5)
 replace n0:=hidI (n0.out.stp s5)
 replace G0:=hidI (G0.out.stp s5)
 have P2:=hidI (F2.out.step s5)
 clear F2
 have Z1:=hidI m5
 have T7:=hidI i5
 clear i5 m5 s5 V1
 clear c0 c1 c2 c3 c4 c5 c6 c7 c8 c9 c10 c11 cf
 obtain⟨b0,b1,b2,b3,b4,b5,b6,b7,b8,b9,Z4,j5,bf⟩:=n0.out.box
 unfold pv
 go_wp2
 refine bodyPost_ret (results_cell_row rfl _ _ (w.heap.size+1) 100 _ (0,0) _ rfl ((n0.out.put _ _ _ _ _ _ _ _ _ _ _ _)).heap Tryz.underlying100 rfl (by o0)) rfl ?_
 rw[HV.out,←HQ.out,←nc.out]
 exact zx rfl T7.out (Z1.out.put n0.out _ _ _ _ _ _ _ _ _ _ _ _) (P2.out.put (by omega) _ _ _ _ _ _ _ _ _ _ _ _)
theorem zoy (ts:List Tk) (fin:Nat) (gt cap base:Nat) (S:Sv) (q:PS) (d:Nat) (w:World) (hm:Mem (Cx.mk ts fin true) gt cap base S q w) (hk:((zd (Cx.mk ts fin true) q.pos).kind==2)=false) (ho:isT (Cx.mk ts fin true) q.pos 4 zt=false) (hp:q.pos<(Cx.mk ts fin true).ts.length) (hu:isT (Cx.mk ts fin true) q.pos 1 zcq=false) (hn:zba (Cx.mk ts fin true) q.pos false=true) (hd:isT (Cx.mk ts fin true) (q.pos+1) 4 cPoint=true):
  Calls Tryz.prog 248 #[pv (Cx.mk ts fin true) gt cap S q (-1) d] w (Out (Cx.mk ts fin true) gt cap base (pE (Cx.mk ts fin true) .part d q) d S w):=by
 have HM:=hidI hm
 have G1:=hm.tok
 have I0:(Cx.mk ts fin true).ts.length≤4000:=hm.few
 have l8:=(zbt hm.tok).1
 clear hm
 have HV:Hid (pE (Cx.mk ts fin true) .part d q=bd (bd (.ok (adv (adv q))) (zn (Cx.mk ts fin true) true)) fun y=>memP (Cx.mk ts fin true) (zd (Cx.mk ts fin true) q.pos).text y.2 y.1):=by show pE (Cx.mk ts fin true) .part d q=_;rw[zeb,hk,ho,hu,zn,hn];show (if isT (Cx.mk ts fin true) (adv q).pos 4 cPoint then _ else _)=_;rw[zp,hd];rfl
 have Q9:q.pos<ts.length:=hp
 obtain⟨c0,_,_,_⟩:=G1.cells hp (d:=⟨0,sNone,0,(Cx.mk ts fin true).fin⟩)
 change _=some (Value.int .i64 (zd (Cx.mk ts fin true) q.pos).kind) at c0
 generalize (zd (Cx.mk ts fin true) q.pos).kind=kd at c0 hk
 unfold pv
 go_enter Tryz.func248,Tryz.ntmps248
 go_wp2_with f0
 refine (zf (Cx.mk ts fin true) gt cap base S q (-1) d 4 zt _ (zg (zg G1 _) _) I0 (by decide)).mono ?_
 rintro e w1 ⟨rfl,P0⟩
 rw[ho]
 obtain⟨X0,X1,m1,t1⟩:=HM.out.two P0
 have j0:=hidI X0
 have n0:=hidI X1
 have Q0:=hidI m1
 have N1:=hidI t1
 clear X0 X1 m1 t1 P0
 obtain⟨a0,a1,a2,a3,a4,a5,a6,a7,a8,a9,E0,B0,af⟩:=j0.out.box
 go_wp2_with f0
 refine (zf (Cx.mk ts fin true) gt cap base S q (-1) d 1 zcq _ Q0.out.tok I0 (by decide)).mono ?_
 rintro e w2 ⟨rfl,J0⟩
 rw[hu]
 replace j0:=hidI (j0.out.below J0)
 replace n0:=hidI (n0.out.below J0)
 have F1:=hidI (N1.out.below J0)
 have M0:=hidI (Q0.out.later J0)
 clear J0 N1 Q0
 clear a0 a1 a2 a3 a4 a5 a6 a7 a8 a9 E0 B0 af
 obtain⟨a0,a1,a2,a3,a4,a5,a6,a7,a8,a9,E0,B0,af⟩:=j0.out.box
 go_wp2_with f0
 refine (zcb (Cx.mk ts fin true) gt cap base (.ok q) S q (-1) d false _ (zby q) M0.out).mono ?_
 rintro e w3 ⟨S3,q3,z3,n3,rfl,i3,m3,s3⟩
 replace j0:=hidI (j0.out.stp s3)
 replace n0:=hidI (n0.out.stp s3)
 have Q1:=hidI (F1.out.step s3)
 clear F1
 have U0:=hidI m3
 have g7:=hidI i3
 clear i3 m3 s3 M0
 clear a0 a1 a2 a3 a4 a5 a6 a7 a8 a9 E0 B0 af
 obtain⟨hq,rfl,lb⟩:=znq g7.out hn
 have HQ:=hidI hq
 have nc:=hidI lb
 have lc:q3.pos=q.pos+1:=by rw[hq];rfl
 have qc:isT (Cx.mk ts fin true) q3.pos 4 cPoint=true:=by rw[lc];exact hd
 clear hq lb g7
 have u5:w.heap.size+1<w3.heap.size:=n0.out.lt
 unfold pv
 clear lc
 go_wp2_with f0
 refine (zf (Cx.mk ts fin true) gt cap base S3 q3 (-1) d 4 cPoint _ (U0.out.alloc _).tok I0 (by decide)).mono ?_
 rintro e w4 ⟨rfl,Z0⟩
 rw[qc]
 replace j0:=hidI ((j0.out.alloc _).below Z0)
 replace n0:=hidI ((n0.out.alloc _).below Z0)
 replace G0:=hidI ((Bx.new U0.out _).below Z0)
 have F2:Hid (SB w.heap.size S w S3 w4):=(Q1.out.alloc _).below Z0
 have V1:Hid (Mem (Cx.mk ts fin true) gt cap base S3 q3 w4):=(U0.out.alloc _).later Z0
 clear Z0 Q1 U0
 obtain⟨c0,c1,c2,c3,c4,c5,c6,c7,c8,c9,c10,c11,cf⟩:=G0.out.box
 have Q3:q3.pos<(Cx.mk ts fin true).ts.length:=zcl qc (by decide)
 have hp2':q3.pos<ts.length:=Q3
 go_wp2_with f0
 refine (zcb (Cx.mk ts fin true) gt cap base (.ok (adv q3)) S3 (adv q3) (-1) d true _ (zby _) ((V1.out.adv Q3).set G0.out 1 _)).mono ?_
 rintro e w5 ⟨S5,q5,z5,n5,rfl,i5,m5,s5⟩
 replace j0:=hidI ((j0.out.set_other (by omega) 1 _).stp s5)
 replace n0:=hidI ((n0.out.set_other (by omega) 1 _).stp s5)
 replace G0:=hidI ((G0.out.at1 _).stp s5)
 have P2:Hid (SB w.heap.size S w S5 w5):=(F2.out.set (by omega) 1 _).step s5
 clear F2
 have Z1:=hidI m5
 have T7:=hidI i5
 clear i5 m5 s5 V1
 clear c0 c1 c2 c3 c4 c5 c6 c7 c8 c9 c10 c11 cf
 have Ta:w.heap.size+1<w5.heap.size:=n0.out.lt
 have Za:w3.heap.size<w5.heap.size:=G0.out.lt
 cases hc:(decide (z5<0)&&isT (Cx.mk ts fin true) q5.pos 4 zt) with
 |true=>
  unfold pv
  go_wp2_with f0
  refine (zf (Cx.mk ts fin true) gt cap base S5 q5 z5 d 4 zt _ (Z1.out.alloc _).tok I0 (by decide)).mono ?_
  rintro e w6 ⟨rfl,E4⟩
  rw[hc]
  replace j0:=hidI ((j0.out.alloc _).below E4)
  replace n0:=hidI ((n0.out.alloc _).below E4)
  replace G0:=hidI ((G0.out.alloc _).below E4)
  replace G4:=hidI ((Bx.new Z1.out _).below E4)
  have J2:Hid (SB w.heap.size S w S5 w6):=(P2.out.alloc _).below E4
  have j2:Hid (Mem (Cx.mk ts fin true) gt cap base S5 q5 w6):=(Z1.out.alloc _).later E4
  clear E4 P2 Z1
  obtain⟨d0,d1,d2,d3,d4,d5,d6,d7,d8,d9,V7,W7,df⟩:=G4.out.box
  go_wp2_with f0
  refine (zq (Cx.mk ts fin true) gt cap base _ S5 q5 z5 d zt _ T7.out.fst j2.out).mono ?_
  rintro e w7 ⟨S7,q7,z7,rfl,i7,m7,s7⟩
  replace j0:=hidI (j0.out.stp s7)
  replace n0:=hidI (n0.out.stp s7)
  replace G0:=hidI (G0.out.stp s7)
  replace G4:=hidI (G4.out.stp s7)
  have P3:=hidI (J2.out.step s7)
  clear J2
  have N2:=hidI m7
  have Z5:=hidI i7
  clear i7 m7 s7 j2
  clear d0 d1 d2 d3 d4 d5 d6 d7 d8 d9 V7 W7 df
  go_wp2_with f0
  refine (zq (Cx.mk ts fin true) gt cap base _ S7 q7 z7 d zcz _ Z5.out N2.out).mono ?_
  rintro e w8 ⟨S8,q8,z8,rfl,i8,m8,s8⟩
  replace j0:=hidI (j0.out.stp s8)
  replace n0:=hidI (n0.out.stp s8)
  replace G0:=hidI (G0.out.stp s8)
  replace G4:=hidI (G4.out.stp s8)
  have J4:=hidI (P3.out.step s8)
  clear P3
  have H4:=hidI m8
  have H7:=hidI i8
  clear i8 m8 s8 N2
  obtain⟨d0,d1,d2,d3,d4,d5,d6,d7,d8,d9,V7,W7,df⟩:=G4.out.box
  unfold pv
  go_wp2_with f0
  refine (zfb (Cx.mk ts fin true) gt cap base _ S8 q8 z8 d ⟨5,0,n3,n5,0,0⟩ _ H7.out (H4.out.put G4.out _ _ _ _ _ _ _ _ _ _ _ _) (zdi H7.out)).mono ?_
  rintro e w9 ⟨S9,q9,z9,rfl,i9,m9,s9⟩
  replace j0:=hidI ((j0.out.other (by omega) _ _ _ _ _ _ _ _ _ _ _ _).stp s9)
  replace n0:=hidI ((n0.out.other (by omega) _ _ _ _ _ _ _ _ _ _ _ _).stp s9)
  replace G0:=hidI ((G0.out.other (by omega) _ _ _ _ _ _ _ _ _ _ _ _).stp s9)
  replace G4:=hidI ((G4.out.put _ _ _ _ _ _ _ _ _ _ _ _).stp s9)
  have J5:Hid (SB w.heap.size S w S9 w9):=(J4.out.put (by omega) _ _ _ _ _ _ _ _ _ _ _ _).step s9
  clear J4
  have G5:=hidI m9
  have y6:=hidI i9
  clear i9 m9 s9 H4
  clear d0 d1 d2 d3 d4 d5 d6 d7 d8 d9 V7 W7 df
  obtain⟨b0,b1,b2,b3,b4,b5,b6,b7,b8,b9,Z4,j5,bf⟩:=n0.out.box
  unfold pv
  go_wp2
  refine bodyPost_ret (results_cell_row rfl _ _ (w.heap.size+1) 100 _ (0,0) _ rfl ((n0.out.put _ _ _ _ _ _ _ _ _ _ _ _)).heap Tryz.underlying100 rfl (by o0)) rfl ?_
  rw[HV.out,←HQ.out,←nc.out,←zxh T7.out hc]
  exact zx rfl y6.out (G5.out.put n0.out _ _ _ _ _ _ _ _ _ _ _ _) (J5.out.put (by omega) _ _ _ _ _ _ _ _ _ _ _ _)
 |false=>
  unfold pv
  go_wp2_with f0
  refine (zf (Cx.mk ts fin true) gt cap base S5 q5 z5 d 4 zt _ (Z1.out.alloc _).tok I0 (by decide)).mono ?_
  rintro e w6 ⟨rfl,E4⟩
  rw[hc]
  replace j0:=hidI ((j0.out.alloc _).below E4)
  replace n0:=hidI ((n0.out.alloc _).below E4)
  replace G0:=hidI ((G0.out.alloc _).below E4)
  replace G4:=hidI ((Bx.new Z1.out _).below E4)
  have J2:Hid (SB w.heap.size S w S5 w6):=(P2.out.alloc _).below E4
  have j2:Hid (Mem (Cx.mk ts fin true) gt cap base S5 q5 w6):=(Z1.out.alloc _).later E4
  clear E4 P2 Z1
  obtain⟨d0,d1,d2,d3,d4,d5,d6,d7,d8,d9,V7,W7,df⟩:=G4.out.box
  go_wp2_with f0
  refine (zfb (Cx.mk ts fin true) gt cap base _ S5 q5 z5 d ⟨4,0,n3,n5,0,0⟩ _ T7.out.fst j2.out (zxi T7.out)).mono ?_
  rintro e w7 ⟨S7,q7,z7,rfl,i7,m7,s7⟩
  replace j0:=hidI (j0.out.stp s7)
  replace n0:=hidI (n0.out.stp s7)
  replace G0:=hidI (G0.out.stp s7)
  replace G4:=hidI (G4.out.stp s7)
  have P3:=hidI (J2.out.step s7)
  clear J2
  have N2:=hidI m7
  have Z5:=hidI i7
  clear i7 m7 s7 j2
  clear d0 d1 d2 d3 d4 d5 d6 d7 d8 d9 V7 W7 df
  obtain⟨b0,b1,b2,b3,b4,b5,b6,b7,b8,b9,Z4,j5,bf⟩:=n0.out.box
  unfold pv
  go_wp2
  refine bodyPost_ret (results_cell_row rfl _ _ (w.heap.size+1) 100 _ (0,0) _ rfl ((n0.out.put _ _ _ _ _ _ _ _ _ _ _ _)).heap Tryz.underlying100 rfl (by o0)) rfl ?_
  rw[HV.out,←HQ.out,←nc.out,←zuh T7.out hc]
  exact zx rfl Z5.out (N2.out.put n0.out _ _ _ _ _ _ _ _ _ _ _ _) (P3.out.put (by omega) _ _ _ _ _ _ _ _ _ _ _ _)
theorem zrh (ts:List Tk) (fin:Nat) (gt cap base:Nat) (S:Sv) (q:PS) (d:Nat) (w:World) (hm:Mem (Cx.mk ts fin false) gt cap base S q w) (hp: ¬q.pos<(Cx.mk ts fin false).ts.length):
  Calls Tryz.prog 248 #[pv (Cx.mk ts fin false) gt cap S q (-1) d] w (Out (Cx.mk ts fin false) gt cap base (pE (Cx.mk ts fin false) .part d q) d S w):=by
 have HM:=hidI hm
 have G1:=hm.tok
 have I0:(Cx.mk ts fin false).ts.length≤4000:=hm.few
 have l8:=(zbt hm.tok).1
 clear hm
 have hk:((zd (Cx.mk ts fin false) q.pos).kind==2)=false:=by rw[zgg (by omega)];rfl
 have ho:isT (Cx.mk ts fin false) q.pos 4 zt=false:=zmw hp (by decide)
 have hu:isT (Cx.mk ts fin false) q.pos 1 zcq=false:=zmw hp (by decide)
 have hn:zba (Cx.mk ts fin false) q.pos false=false:=zot hp
 have HV:Hid (pE (Cx.mk ts fin false) .part d q= .error (here (Cx.mk ts fin false) q.pos)):=by show pE (Cx.mk ts fin false) .part d q=_;rw[zeb,hk,ho,zn,hn];rfl
 have Q9: ¬q.pos<ts.length:=hp
 unfold pv
 go_enter Tryz.func248,Tryz.ntmps248
 go_wp2_with f0
 refine (zf (Cx.mk ts fin false) gt cap base S q (-1) d 4 zt _ (zg (zg G1 _) _) I0 (by decide)).mono ?_
 rintro e w1 ⟨rfl,P0⟩
 rw[ho]
 obtain⟨X0,X1,m1,t1⟩:=HM.out.two P0
 have j0:=hidI X0
 have n0:=hidI X1
 have Q0:=hidI m1
 have N1:=hidI t1
 clear X0 X1 m1 t1 P0
 obtain⟨a0,a1,a2,a3,a4,a5,a6,a7,a8,a9,E0,B0,af⟩:=j0.out.box
 go_wp2_with f0
 refine (zcb (Cx.mk ts fin false) gt cap base (.ok q) S q (-1) d false _ (zby q) Q0.out).mono ?_
 rintro e w2 ⟨S2,q2,z2,n2,rfl,i2,m2,s2⟩
 replace j0:=hidI (j0.out.stp s2)
 replace n0:=hidI (n0.out.stp s2)
 have F1:=hidI (N1.out.step s2)
 clear N1
 have M0:=hidI m2
 have D6:=hidI i2
 clear i2 m2 s2 Q0
 clear a0 a1 a2 a3 a4 a5 a6 a7 a8 a9 E0 B0 af
 obtain rfl:=zpu D6.out hn
 have dz:decide ((0:Int)≤(here (Cx.mk ts fin false) q.pos:Int))=true:=decide_eq_true (by omega)
 have u5:w.heap.size+1<w2.heap.size:=n0.out.lt
 unfold pv
 go_upto_region 17 with f0
 refine zo (R:=fun W=>Bx gt S2 W (w.heap.size) _∧Bx gt S2 W (w.heap.size+1) _∧Bx gt S2 W (w2.heap.size) _∧Mem (Cx.mk ts fin false) gt cap base S2 q2 W∧SB w.heap.size S w S2 W) ⟨(j0.out.alloc _),(n0.out.alloc _),(Bx.new M0.out _),(M0.out.alloc _),(F1.out.alloc _)⟩ ?_
 clear j0 n0 F1 M0
 rintro w3 ⟨X0,X1,X2,m3,t3⟩
 have j0:=hidI X0
 have n0:=hidI X1
 have G0:=hidI X2
 have U0:=hidI m3
 have Q1:=hidI t3
 clear m3 t3 X0 X1 X2
 obtain⟨b0,b1,b2,b3,b4,b5,b6,b7,b8,b9,Z4,j5,bf⟩:=n0.out.box
 obtain⟨c0,c1,c2,c3,c4,c5,c6,c7,c8,c9,c10,c11,cf⟩:=G0.out.box
 go_wp2
 refine bodyPost_ret (results_cell_row rfl _ _ (w.heap.size+1) 100 _ (0,0) _ rfl ((n0.out.put _ _ _ _ _ _ _ _ _ _ _ _)).heap Tryz.underlying100 rfl (by o0)) rfl ?_
 rw[HV.out]
 exact zx rfl (show Is (.error (here (Cx.mk ts fin false) q.pos)) q2 _ from rfl) (U0.out.put n0.out _ _ _ _ _ _ _ _ _ _ _ _) (Q1.out.put (by omega) _ _ _ _ _ _ _ _ _ _ _ _)
theorem zqd (ts:List Tk) (fin:Nat) (gt cap base:Nat) (S:Sv) (q:PS) (d:Nat) (w:World) (hm:Mem (Cx.mk ts fin false) gt cap base S q w) (hk:((zd (Cx.mk ts fin false) q.pos).kind==2)=false) (ho:isT (Cx.mk ts fin false) q.pos 4 zt=false) (hp:q.pos<(Cx.mk ts fin false).ts.length) (hn:zba (Cx.mk ts fin false) q.pos false=false):
  Calls Tryz.prog 248 #[pv (Cx.mk ts fin false) gt cap S q (-1) d] w (Out (Cx.mk ts fin false) gt cap base (pE (Cx.mk ts fin false) .part d q) d S w):=by
 have HM:=hidI hm
 have G1:=hm.tok
 have I0:(Cx.mk ts fin false).ts.length≤4000:=hm.few
 have l8:=(zbt hm.tok).1
 clear hm
 have HV:Hid (pE (Cx.mk ts fin false) .part d q= .error (here (Cx.mk ts fin false) q.pos)):=by show pE (Cx.mk ts fin false) .part d q=_;rw[zeb,hk,ho,zn,hn];rfl
 have Q9:q.pos<ts.length:=hp
 obtain⟨c0,_,_,_⟩:=G1.cells hp (d:=⟨0,sNone,0,(Cx.mk ts fin false).fin⟩)
 change _=some (Value.int .i64 (zd (Cx.mk ts fin false) q.pos).kind) at c0
 generalize (zd (Cx.mk ts fin false) q.pos).kind=kd at c0 hk
 unfold pv
 go_enter Tryz.func248,Tryz.ntmps248
 go_wp2_with f0
 refine (zf (Cx.mk ts fin false) gt cap base S q (-1) d 4 zt _ (zg (zg G1 _) _) I0 (by decide)).mono ?_
 rintro e w1 ⟨rfl,P0⟩
 rw[ho]
 obtain⟨X0,X1,m1,t1⟩:=HM.out.two P0
 have j0:=hidI X0
 have n0:=hidI X1
 have Q0:=hidI m1
 have N1:=hidI t1
 clear X0 X1 m1 t1 P0
 obtain⟨a0,a1,a2,a3,a4,a5,a6,a7,a8,a9,E0,B0,af⟩:=j0.out.box
 go_wp2_with f0
 refine (zcb (Cx.mk ts fin false) gt cap base (.ok q) S q (-1) d false _ (zby q) Q0.out).mono ?_
 rintro e w2 ⟨S2,q2,z2,n2,rfl,i2,m2,s2⟩
 replace j0:=hidI (j0.out.stp s2)
 replace n0:=hidI (n0.out.stp s2)
 have F1:=hidI (N1.out.step s2)
 clear N1
 have M0:=hidI m2
 have D6:=hidI i2
 clear i2 m2 s2 Q0
 clear a0 a1 a2 a3 a4 a5 a6 a7 a8 a9 E0 B0 af
 obtain rfl:=zpu D6.out hn
 have dz:decide ((0:Int)≤(here (Cx.mk ts fin false) q.pos:Int))=true:=decide_eq_true (by omega)
 have u5:w.heap.size+1<w2.heap.size:=n0.out.lt
 unfold pv
 go_upto_region 17 with f0
 refine zo (R:=fun W=>Bx gt S2 W (w.heap.size) _∧Bx gt S2 W (w.heap.size+1) _∧Bx gt S2 W (w2.heap.size) _∧Mem (Cx.mk ts fin false) gt cap base S2 q2 W∧SB w.heap.size S w S2 W) ⟨(j0.out.alloc _),(n0.out.alloc _),(Bx.new M0.out _),(M0.out.alloc _),(F1.out.alloc _)⟩ ?_
 clear j0 n0 F1 M0
 rintro w3 ⟨X0,X1,X2,m3,t3⟩
 have j0:=hidI X0
 have n0:=hidI X1
 have G0:=hidI X2
 have U0:=hidI m3
 have Q1:=hidI t3
 clear m3 t3 X0 X1 X2
 obtain⟨b0,b1,b2,b3,b4,b5,b6,b7,b8,b9,Z4,j5,bf⟩:=n0.out.box
 obtain⟨c0,c1,c2,c3,c4,c5,c6,c7,c8,c9,c10,c11,cf⟩:=G0.out.box
 go_wp2
 refine bodyPost_ret (results_cell_row rfl _ _ (w.heap.size+1) 100 _ (0,0) _ rfl ((n0.out.put _ _ _ _ _ _ _ _ _ _ _ _)).heap Tryz.underlying100 rfl (by o0)) rfl ?_
 rw[HV.out]
 exact zx rfl (show Is (.error (here (Cx.mk ts fin false) q.pos)) q2 _ from rfl) (U0.out.put n0.out _ _ _ _ _ _ _ _ _ _ _ _) (Q1.out.put (by omega) _ _ _ _ _ _ _ _ _ _ _ _)
theorem zlr (ts:List Tk) (fin:Nat) (gt cap base:Nat) (S:Sv) (q:PS) (d:Nat) (w:World) (hm:Mem (Cx.mk ts fin false) gt cap base S q w) (e0:Nat):
  Calls Tryz.prog 248 #[pv (Cx.mk ts fin false) gt cap S q (e0:Int) d] w (Out (Cx.mk ts fin false) gt cap base (.error e0) d S w):=by
 have HM:=hidI hm
 have G1:=hm.tok
 have I0:(Cx.mk ts fin false).ts.length≤4000:=hm.few
 have l8:=(zbt hm.tok).1
 clear hm
 have hz: ¬(e0:Int)<0:=by omega
 have hs: ∀k s,(decide ((e0:Int)<0)&&isT (Cx.mk ts fin false) q.pos k s)=false:=fun k s=>by rw[decide_eq_false hz];rfl
 unfold pv
 go_enter Tryz.func248,Tryz.ntmps248
 go_wp2_with f0
 refine (zf (Cx.mk ts fin false) gt cap base S q (e0:Int) d 4 zt _ (zg (zg G1 _) _) I0 (by decide)).mono ?_
 rintro e w1 ⟨rfl,P0⟩
 rw[hs]
 obtain⟨X0,X1,m1,t1⟩:=HM.out.two P0
 have j0:=hidI X0
 have n0:=hidI X1
 have Q0:=hidI m1
 have N1:=hidI t1
 clear X0 X1 m1 t1 P0
 obtain⟨a0,a1,a2,a3,a4,a5,a6,a7,a8,a9,E0,B0,af⟩:=j0.out.box
 go_wp2_with f0
 refine (zcb (Cx.mk ts fin false) gt cap base (.error e0) S q (e0:Int) d false _ (show Is (.error e0) q _ from rfl) Q0.out).mono ?_
 rintro e w2 ⟨S2,q2,z2,n2,rfl,i2,m2,s2⟩
 replace j0:=hidI (j0.out.stp s2)
 replace n0:=hidI (n0.out.stp s2)
 have F1:=hidI (N1.out.step s2)
 clear N1
 have M0:=hidI m2
 have D6:=hidI i2
 clear i2 m2 s2 Q0
 clear a0 a1 a2 a3 a4 a5 a6 a7 a8 a9 E0 B0 af
 obtain rfl:z2=(e0:Int):=D6.out
 have dz:decide ((0:Int)≤(e0:Int))=true:=decide_eq_true (by omega)
 have u5:w.heap.size+1<w2.heap.size:=n0.out.lt
 unfold pv
 go_upto_region 17 with f0
 refine zo (R:=fun W=>Bx gt S2 W (w.heap.size) _∧Bx gt S2 W (w.heap.size+1) _∧Bx gt S2 W (w2.heap.size) _∧Mem (Cx.mk ts fin false) gt cap base S2 q2 W∧SB w.heap.size S w S2 W) ⟨(j0.out.alloc _),(n0.out.alloc _),(Bx.new M0.out _),(M0.out.alloc _),(F1.out.alloc _)⟩ ?_
 clear j0 n0 F1 M0
 rintro w3 ⟨X0,X1,X2,m3,t3⟩
 have j0:=hidI X0
 have n0:=hidI X1
 have G0:=hidI X2
 have U0:=hidI m3
 have Q1:=hidI t3
 clear m3 t3 X0 X1 X2
 obtain⟨b0,b1,b2,b3,b4,b5,b6,b7,b8,b9,Z4,j5,bf⟩:=n0.out.box
 obtain⟨c0,c1,c2,c3,c4,c5,c6,c7,c8,c9,c10,c11,cf⟩:=G0.out.box
 go_wp2
 refine bodyPost_ret (results_cell_row rfl _ _ (w.heap.size+1) 100 _ (0,0) _ rfl ((n0.out.put _ _ _ _ _ _ _ _ _ _ _ _)).heap Tryz.underlying100 rfl (by o0)) rfl ?_
 exact zx rfl (show Is (.error e0) q2 _ from rfl) (U0.out.put n0.out _ _ _ _ _ _ _ _ _ _ _ _) (Q1.out.put (by omega) _ _ _ _ _ _ _ _ _ _ _ _)
theorem zqe (ts:List Tk) (fin:Nat) (gt cap base:Nat) (S:Sv) (q:PS) (d:Nat) (w:World) (hm:Mem (Cx.mk ts fin false) gt cap base S q w) (hk:((zd (Cx.mk ts fin false) q.pos).kind==2)=false) (ho:isT (Cx.mk ts fin false) q.pos 4 zt=false) (hp:q.pos<(Cx.mk ts fin false).ts.length) (hn:zba (Cx.mk ts fin false) q.pos false=true) (hd:isT (Cx.mk ts fin false) (q.pos+1) 4 cPoint=false):
  Calls Tryz.prog 248 #[pv (Cx.mk ts fin false) gt cap S q (-1) d] w (Out (Cx.mk ts fin false) gt cap base (pE (Cx.mk ts fin false) .part d q) d S w):=by
 have HM:=hidI hm
 have G1:=hm.tok
 have I0:(Cx.mk ts fin false).ts.length≤4000:=hm.few
 have l8:=(zbt hm.tok).1
 clear hm
 have HV:Hid (pE (Cx.mk ts fin false) .part d q=zfi (Cx.mk ts fin false) (zd (Cx.mk ts fin false) q.pos).text (adv q)):=by show pE (Cx.mk ts fin false) .part d q=_;rw[zeb,hk,ho,zn,hn];show (if isT (Cx.mk ts fin false) (adv q).pos 4 cPoint then _ else _)=_;rw[zp,hd];rfl
 have Q9:q.pos<ts.length:=hp
 obtain⟨c0,_,_,_⟩:=G1.cells hp (d:=⟨0,sNone,0,(Cx.mk ts fin false).fin⟩)
 change _=some (Value.int .i64 (zd (Cx.mk ts fin false) q.pos).kind) at c0
 generalize (zd (Cx.mk ts fin false) q.pos).kind=kd at c0 hk
 unfold pv
 go_enter Tryz.func248,Tryz.ntmps248
 go_wp2_with f0
 refine (zf (Cx.mk ts fin false) gt cap base S q (-1) d 4 zt _ (zg (zg G1 _) _) I0 (by decide)).mono ?_
 rintro e w1 ⟨rfl,P0⟩
 rw[ho]
 obtain⟨X0,X1,m1,t1⟩:=HM.out.two P0
 have j0:=hidI X0
 have n0:=hidI X1
 have Q0:=hidI m1
 have N1:=hidI t1
 clear X0 X1 m1 t1 P0
 obtain⟨a0,a1,a2,a3,a4,a5,a6,a7,a8,a9,E0,B0,af⟩:=j0.out.box
 go_wp2_with f0
 refine (zcb (Cx.mk ts fin false) gt cap base (.ok q) S q (-1) d false _ (zby q) Q0.out).mono ?_
 rintro e w2 ⟨S2,q2,z2,n2,rfl,i2,m2,s2⟩
 replace j0:=hidI (j0.out.stp s2)
 replace n0:=hidI (n0.out.stp s2)
 have F1:=hidI (N1.out.step s2)
 clear N1
 have M0:=hidI m2
 have D6:=hidI i2
 clear i2 m2 s2 Q0
 clear a0 a1 a2 a3 a4 a5 a6 a7 a8 a9 E0 B0 af
 obtain⟨hq,rfl,lb⟩:=znq D6.out hn
 have HQ:=hidI hq
 have nc:=hidI lb
 have lc:q2.pos=q.pos+1:=by rw[hq];rfl
 have qc:isT (Cx.mk ts fin false) q2.pos 4 cPoint=false:=by rw[lc];exact hd
 clear hq lb D6
 have u5:w.heap.size+1<w2.heap.size:=n0.out.lt
 unfold pv
 clear lc
 go_wp2_with f0
 refine (zf (Cx.mk ts fin false) gt cap base S2 q2 (-1) d 4 cPoint _ (M0.out.alloc _).tok I0 (by decide)).mono ?_
 rintro e w3 ⟨rfl,N0⟩
 rw[qc]
 replace j0:=hidI ((j0.out.alloc _).below N0)
 replace n0:=hidI ((n0.out.alloc _).below N0)
 replace G0:=hidI ((Bx.new M0.out _).below N0)
 have Q1:Hid (SB w.heap.size S w S2 w3):=(F1.out.alloc _).below N0
 have U0:Hid (Mem (Cx.mk ts fin false) gt cap base S2 q2 w3):=(M0.out.alloc _).later N0
 clear N0 F1 M0
 obtain⟨c0,c1,c2,c3,c4,c5,c6,c7,c8,c9,c10,c11,cf⟩:=G0.out.box
 go_wp2_with f0
 refine (zmq (Cx.mk ts fin false) gt cap base S2 q2 d n2 _ U0.out (by rw[HQ.out];simp[adv])).mono ?_
 rintro e w4 ⟨S4,q4,z4,rfl,i4,m4,s4⟩
 replace j0:=hidI (j0.out.stp s4)
 replace n0:=hidI (n0.out.stp s4)
 replace G0:=hidI (G0.out.stp s4)
 have F2:=hidI (Q1.out.step s4)
 clear Q1
 have V1:=hidI m4
 have L7:=hidI i4
 clear i4 m4 s4 U0
 clear c0 c1 c2 c3 c4 c5 c6 c7 c8 c9 c10 c11 cf
 obtain⟨b0,b1,b2,b3,b4,b5,b6,b7,b8,b9,Z4,j5,bf⟩:=n0.out.box
 unfold pv
 go_wp2
 refine bodyPost_ret (results_cell_row rfl _ _ (w.heap.size+1) 100 _ (0,0) _ rfl ((n0.out.put _ _ _ _ _ _ _ _ _ _ _ _)).heap Tryz.underlying100 rfl (by o0)) rfl ?_
 rw[HV.out,←HQ.out,←nc.out]
 exact zx rfl L7.out (V1.out.put n0.out _ _ _ _ _ _ _ _ _ _ _ _) (F2.out.put (by omega) _ _ _ _ _ _ _ _ _ _ _ _)
theorem zoj (ts:List Tk) (fin:Nat) (gt cap base:Nat) (S:Sv) (q:PS) (d:Nat) (w:World) (hm:Mem (Cx.mk ts fin false) gt cap base S q w) (hk:((zd (Cx.mk ts fin false) q.pos).kind==2)=false) (ho:isT (Cx.mk ts fin false) q.pos 4 zt=false) (hp:q.pos<(Cx.mk ts fin false).ts.length) (hn:zba (Cx.mk ts fin false) q.pos false=true) (hd:isT (Cx.mk ts fin false) (q.pos+1) 4 cPoint=true):
  Calls Tryz.prog 248 #[pv (Cx.mk ts fin false) gt cap S q (-1) d] w (Out (Cx.mk ts fin false) gt cap base (pE (Cx.mk ts fin false) .part d q) d S w):=by
 have HM:=hidI hm
 have G1:=hm.tok
 have I0:(Cx.mk ts fin false).ts.length≤4000:=hm.few
 have l8:=(zbt hm.tok).1
 clear hm
 have HV:Hid (pE (Cx.mk ts fin false) .part d q=bd (bd (.ok (adv (adv q))) (zn (Cx.mk ts fin false) true)) fun y=>memP (Cx.mk ts fin false) (zd (Cx.mk ts fin false) q.pos).text y.2 y.1):=by show pE (Cx.mk ts fin false) .part d q=_;rw[zeb,hk,ho,zn,hn];show (if isT (Cx.mk ts fin false) (adv q).pos 4 cPoint then _ else _)=_;rw[zp,hd];rfl
 have Q9:q.pos<ts.length:=hp
 obtain⟨c0,_,_,_⟩:=G1.cells hp (d:=⟨0,sNone,0,(Cx.mk ts fin false).fin⟩)
 change _=some (Value.int .i64 (zd (Cx.mk ts fin false) q.pos).kind) at c0
 generalize (zd (Cx.mk ts fin false) q.pos).kind=kd at c0 hk
 unfold pv
 go_enter Tryz.func248,Tryz.ntmps248
 go_wp2_with f0
 refine (zf (Cx.mk ts fin false) gt cap base S q (-1) d 4 zt _ (zg (zg G1 _) _) I0 (by decide)).mono ?_
 rintro e w1 ⟨rfl,P0⟩
 rw[ho]
 obtain⟨X0,X1,m1,t1⟩:=HM.out.two P0
 have j0:=hidI X0
 have n0:=hidI X1
 have Q0:=hidI m1
 have N1:=hidI t1
 clear X0 X1 m1 t1 P0
 obtain⟨a0,a1,a2,a3,a4,a5,a6,a7,a8,a9,E0,B0,af⟩:=j0.out.box
 go_wp2_with f0
 refine (zcb (Cx.mk ts fin false) gt cap base (.ok q) S q (-1) d false _ (zby q) Q0.out).mono ?_
 rintro e w2 ⟨S2,q2,z2,n2,rfl,i2,m2,s2⟩
 replace j0:=hidI (j0.out.stp s2)
 replace n0:=hidI (n0.out.stp s2)
 have F1:=hidI (N1.out.step s2)
 clear N1
 have M0:=hidI m2
 have D6:=hidI i2
 clear i2 m2 s2 Q0
 clear a0 a1 a2 a3 a4 a5 a6 a7 a8 a9 E0 B0 af
 obtain⟨hq,rfl,lb⟩:=znq D6.out hn
 have HQ:=hidI hq
 have nc:=hidI lb
 have lc:q2.pos=q.pos+1:=by rw[hq];rfl
 have qc:isT (Cx.mk ts fin false) q2.pos 4 cPoint=true:=by rw[lc];exact hd
 clear hq lb D6
 have u5:w.heap.size+1<w2.heap.size:=n0.out.lt
 unfold pv
 clear lc
 go_wp2_with f0
 refine (zf (Cx.mk ts fin false) gt cap base S2 q2 (-1) d 4 cPoint _ (M0.out.alloc _).tok I0 (by decide)).mono ?_
 rintro e w3 ⟨rfl,N0⟩
 rw[qc]
 replace j0:=hidI ((j0.out.alloc _).below N0)
 replace n0:=hidI ((n0.out.alloc _).below N0)
 replace G0:=hidI ((Bx.new M0.out _).below N0)
 have Q1:Hid (SB w.heap.size S w S2 w3):=(F1.out.alloc _).below N0
 have U0:Hid (Mem (Cx.mk ts fin false) gt cap base S2 q2 w3):=(M0.out.alloc _).later N0
 clear N0 F1 M0
 obtain⟨c0,c1,c2,c3,c4,c5,c6,c7,c8,c9,c10,c11,cf⟩:=G0.out.box
 have Q3:q2.pos<(Cx.mk ts fin false).ts.length:=zcl qc (by decide)
 have hp2':q2.pos<ts.length:=Q3
 go_wp2_with f0
 refine (zcb (Cx.mk ts fin false) gt cap base (.ok (adv q2)) S2 (adv q2) (-1) d true _ (zby _) ((U0.out.adv Q3).set G0.out 1 _)).mono ?_
 rintro e w4 ⟨S4,q4,z4,n4,rfl,i4,m4,s4⟩
 replace j0:=hidI ((j0.out.set_other (by omega) 1 _).stp s4)
 replace n0:=hidI ((n0.out.set_other (by omega) 1 _).stp s4)
 replace G0:=hidI ((G0.out.at1 _).stp s4)
 have F2:Hid (SB w.heap.size S w S4 w4):=(Q1.out.set (by omega) 1 _).step s4
 clear Q1
 have V1:=hidI m4
 have L7:=hidI i4
 clear i4 m4 s4 U0
 clear c0 c1 c2 c3 c4 c5 c6 c7 c8 c9 c10 c11 cf
 have Ta:w.heap.size+1<w4.heap.size:=n0.out.lt
 have Za:w2.heap.size<w4.heap.size:=G0.out.lt
 cases hc:(decide (z4<0)&&isT (Cx.mk ts fin false) q4.pos 4 zt) with
 |true=>
  unfold pv
  go_wp2_with f0
  refine (zf (Cx.mk ts fin false) gt cap base S4 q4 z4 d 4 zt _ (V1.out.alloc _).tok I0 (by decide)).mono ?_
  rintro e w5 ⟨rfl,E3⟩
  rw[hc]
  replace j0:=hidI ((j0.out.alloc _).below E3)
  replace n0:=hidI ((n0.out.alloc _).below E3)
  replace G0:=hidI ((G0.out.alloc _).below E3)
  replace G4:=hidI ((Bx.new V1.out _).below E3)
  have P2:Hid (SB w.heap.size S w S4 w5):=(F2.out.alloc _).below E3
  have Z1:Hid (Mem (Cx.mk ts fin false) gt cap base S4 q4 w5):=(V1.out.alloc _).later E3
  clear E3 F2 V1
  obtain⟨d0,d1,d2,d3,d4,d5,d6,d7,d8,d9,V7,W7,df⟩:=G4.out.box
  go_wp2_with f0
  refine (zq (Cx.mk ts fin false) gt cap base _ S4 q4 z4 d zt _ L7.out.fst Z1.out).mono ?_
  rintro e w6 ⟨S6,q6,z6,rfl,i6,m6,s6⟩
  replace j0:=hidI (j0.out.stp s6)
  replace n0:=hidI (n0.out.stp s6)
  replace G0:=hidI (G0.out.stp s6)
  replace G4:=hidI (G4.out.stp s6)
  have J2:=hidI (P2.out.step s6)
  clear P2
  have j2:=hidI m6
  have D7:=hidI i6
  clear i6 m6 s6 Z1
  clear d0 d1 d2 d3 d4 d5 d6 d7 d8 d9 V7 W7 df
  go_wp2_with f0
  refine (zq (Cx.mk ts fin false) gt cap base _ S6 q6 z6 d zcz _ D7.out j2.out).mono ?_
  rintro e w7 ⟨S7,q7,z7,rfl,i7,m7,s7⟩
  replace j0:=hidI (j0.out.stp s7)
  replace n0:=hidI (n0.out.stp s7)
  replace G0:=hidI (G0.out.stp s7)
  replace G4:=hidI (G4.out.stp s7)
  have P3:=hidI (J2.out.step s7)
  clear J2
  have N2:=hidI m7
  have Z5:=hidI i7
  clear i7 m7 s7 j2
  obtain⟨d0,d1,d2,d3,d4,d5,d6,d7,d8,d9,V7,W7,df⟩:=G4.out.box
  unfold pv
  go_wp2_with f0
  refine (zfb (Cx.mk ts fin false) gt cap base _ S7 q7 z7 d ⟨5,0,n2,n4,0,0⟩ _ Z5.out (N2.out.put G4.out _ _ _ _ _ _ _ _ _ _ _ _) (zdi Z5.out)).mono ?_
  rintro e w8 ⟨S8,q8,z8,rfl,i8,m8,s8⟩
  replace j0:=hidI ((j0.out.other (by omega) _ _ _ _ _ _ _ _ _ _ _ _).stp s8)
  replace n0:=hidI ((n0.out.other (by omega) _ _ _ _ _ _ _ _ _ _ _ _).stp s8)
  replace G0:=hidI ((G0.out.other (by omega) _ _ _ _ _ _ _ _ _ _ _ _).stp s8)
  replace G4:=hidI ((G4.out.put _ _ _ _ _ _ _ _ _ _ _ _).stp s8)
  have J4:Hid (SB w.heap.size S w S8 w8):=(P3.out.put (by omega) _ _ _ _ _ _ _ _ _ _ _ _).step s8
  clear P3
  have H4:=hidI m8
  have H7:=hidI i8
  clear i8 m8 s8 N2
  clear d0 d1 d2 d3 d4 d5 d6 d7 d8 d9 V7 W7 df
  obtain⟨b0,b1,b2,b3,b4,b5,b6,b7,b8,b9,Z4,j5,bf⟩:=n0.out.box
  unfold pv
  go_wp2
  refine bodyPost_ret (results_cell_row rfl _ _ (w.heap.size+1) 100 _ (0,0) _ rfl ((n0.out.put _ _ _ _ _ _ _ _ _ _ _ _)).heap Tryz.underlying100 rfl (by o0)) rfl ?_
  rw[HV.out,←HQ.out,←nc.out,←zxh L7.out hc]
  exact zx rfl H7.out (H4.out.put n0.out _ _ _ _ _ _ _ _ _ _ _ _) (J4.out.put (by omega) _ _ _ _ _ _ _ _ _ _ _ _)
 |false=>
  unfold pv
  go_wp2_with f0
  refine (zf (Cx.mk ts fin false) gt cap base S4 q4 z4 d 4 zt _ (V1.out.alloc _).tok I0 (by decide)).mono ?_
  rintro e w5 ⟨rfl,E3⟩
  rw[hc]
  replace j0:=hidI ((j0.out.alloc _).below E3)
  replace n0:=hidI ((n0.out.alloc _).below E3)
  replace G0:=hidI ((G0.out.alloc _).below E3)
  replace G4:=hidI ((Bx.new V1.out _).below E3)
  have P2:Hid (SB w.heap.size S w S4 w5):=(F2.out.alloc _).below E3
  have Z1:Hid (Mem (Cx.mk ts fin false) gt cap base S4 q4 w5):=(V1.out.alloc _).later E3
  clear E3 F2 V1
  obtain⟨d0,d1,d2,d3,d4,d5,d6,d7,d8,d9,V7,W7,df⟩:=G4.out.box
  go_wp2_with f0
  refine (zfb (Cx.mk ts fin false) gt cap base _ S4 q4 z4 d ⟨4,0,n2,n4,0,0⟩ _ L7.out.fst Z1.out (zxi L7.out)).mono ?_
  rintro e w6 ⟨S6,q6,z6,rfl,i6,m6,s6⟩
  replace j0:=hidI (j0.out.stp s6)
  replace n0:=hidI (n0.out.stp s6)
  replace G0:=hidI (G0.out.stp s6)
  replace G4:=hidI (G4.out.stp s6)
  have J2:=hidI (P2.out.step s6)
  clear P2
  have j2:=hidI m6
  have D7:=hidI i6
  clear i6 m6 s6 Z1
  clear d0 d1 d2 d3 d4 d5 d6 d7 d8 d9 V7 W7 df
  obtain⟨b0,b1,b2,b3,b4,b5,b6,b7,b8,b9,Z4,j5,bf⟩:=n0.out.box
  unfold pv
  go_wp2
  refine bodyPost_ret (results_cell_row rfl _ _ (w.heap.size+1) 100 _ (0,0) _ rfl ((n0.out.put _ _ _ _ _ _ _ _ _ _ _ _)).heap Tryz.underlying100 rfl (by o0)) rfl ?_
  rw[HV.out,←HQ.out,←nc.out,←zuh L7.out hc]
  exact zx rfl D7.out (j2.out.put n0.out _ _ _ _ _ _ _ _ _ _ _ _) (J2.out.put (by omega) _ _ _ _ _ _ _ _ _ _ _ _)
def zxj (C:Cx) (gt cap base m:Nat):Prop:=∀(x:PR) (S:Sv) (q:PS) (z:Int) (d:Nat) (w:World),Is x q z→Mem C gt cap base S q w→(z<0→C.ts.length-q.pos<m)→d≤20→
 Calls Tryz.prog 248 #[pv C gt cap S q z d] w (Out C gt cap base (bd x (pE C .part d)) d S w)
def zbfx (C:Cx) (gt cap base m:Nat):Prop:=∀(x:PR) (S:Sv) (q:PS) (z:Int) (d:Nat) (w:World),Is x q z→Mem C gt cap base S q w→(z<0→C.ts.length-q.pos<m)→d≤20→
 Calls Tryz.prog 201 #[pv C gt cap S q z d] w (Out C gt cap base (bd x (pE C .prod d)) d S w)
theorem SumOK.mono {C:Cx} {gt cap base m k:Nat} (h:SumOK C gt cap base m) (hk:k≤m):SumOK C gt cap base k:=fun x S q z d w h1 h2 h3 h4=>h x S q z d w h1 h2 (fun g=>Nat.lt_of_lt_of_le (h3 g) hk) h4
theorem zbln {C:Cx} {gt cap base m:Nat} (hS:SumOK C gt cap base m):zxj C gt cap base (m+1):=by
 intro x S q z d w hx hm hl hd
 by_cases hz:z<0
 ·obtain⟨rfl,rfl⟩:=zcs hx hz
  rw[zbe]
  have hS':SumOK C gt cap base (C.ts.length-q.pos):=hS.mono (by have:=hl hz;omega)
  cases hk:((zd C q.pos).kind==2) with
  |true=>exact zbdc C gt cap base S q d w hm hk
  |false=>
   cases ho:isT C q.pos 4 zt with
   |true=>
    by_cases h20:20≤d
    ·exact zzu C gt cap base S q d w hm hk ho h20 hd
    ·exact zzv C gt cap base S q d w hm hk ho (by omega) hS'
   |false=>
    obtain⟨ts,fin,scr⟩:=C
    cases scr with
    |true=>
     by_cases hp:q.pos<ts.length
     ·cases hu:isT (Cx.mk ts fin true) q.pos 1 zcq with
      |true=>exact zqc ts fin gt cap base S q d w hm hk ho hp hu
      |false=>
       cases hn:zba (Cx.mk ts fin true) q.pos false with
       |false=>exact zrf ts fin gt cap base S q d w hm hk ho hp hu hn
       |true=>
        cases hd:isT (Cx.mk ts fin true) (q.pos+1) 4 cPoint with
        |false=>exact zrg ts fin gt cap base S q d w hm hk ho hp hu hn hd
        |true=>exact zoy ts fin gt cap base S q d w hm hk ho hp hu hn hd
     ·exact zsf ts fin gt cap base S q d w hm hp
    |false=>
     by_cases hp:q.pos<ts.length
     ·cases hn:zba (Cx.mk ts fin false) q.pos false with
      |false=>exact zqd ts fin gt cap base S q d w hm hk ho hp hn
      |true=>
       cases hd:isT (Cx.mk ts fin false) (q.pos+1) 4 cPoint with
       |false=>exact zqe ts fin gt cap base S q d w hm hk ho hp hn hd
       |true=>exact zoj ts fin gt cap base S q d w hm hk ho hp hn hd
     ·exact zrh ts fin gt cap base S q d w hm hp
 ·obtain⟨e,rfl,rfl⟩:=zjf hx hz
  rw[zjr]
  obtain⟨ts,fin,scr⟩:=C
  cases scr with
  |true=>exact zmh ts fin gt cap base S q d w hm e
  |false=>exact zlr ts fin gt cap base S q d w hm e
theorem zri {C:Cx} {x:PR} {q:PS} {z:Int} (h:Is x q z) (F:PS→Ex):bd x (zbs C (F q))=bd x fun q'=>zbs C (F q') q':=by
 cases x with
 |ok a=>obtain⟨rfl,_⟩:=h;rfl
 |error e=>rfl
theorem zui {C:Cx} {y:PS→Ex} {x:PR} {q:PS} {n:Nat} (hx: ∀a,x= .ok a→n≤a.pos) (h:(bd x fun q'=>zbs C (y q') q')= .ok q):n≤q.pos:=by
 obtain⟨a,h1,h2⟩:=zc h
 obtain⟨rfl,_⟩:=zdk h2
 exact hx a h1
theorem zbfy {C:Cx} {d m:Nat} {x:PR} {q q1:PS} {z z1:Int} (hx:Is x q z) (h1:Is (bd x (pE C .part d)) q1 z1) (hl:z<0→C.ts.length-q.pos<m) (hz:z1<0):C.ts.length-q1.pos<m:=by
 obtain⟨e,_⟩:=zcs h1 hz
 obtain⟨a,e1,e2⟩:=zc e
 subst e1
 obtain⟨rfl,rfl⟩:=hx
 have:=zds e2
 have:=hl (by decide)
 omega
theorem zbfz {C:Cx} {d m:Nat} {x:PR} {q q1:PS} {z z1:Int} (hx:Is x q z) (h1:Is (bd x (pE C .prod d)) q1 z1) (hl:z<0→C.ts.length-q.pos<m) (hz:z1<0):C.ts.length-q1.pos<m:=by
 obtain⟨e,_⟩:=zcs h1 hz
 obtain⟨a,e1,e2⟩:=zc e
 subst e1
 obtain⟨rfl,rfl⟩:=hx
 have:=zds e2
 have:=hl (by decide)
 omega
theorem zbga {C:Cx} {d:Nat} {q2 q:PS} {z:Int} (h:Is (bd (.ok (adv q2)) (pE C .part d)) q z) (hz:z<0):1≤q.pos:=by
 obtain⟨e,_⟩:=zcs h hz
 have:=zds (show pE C .part d (adv q2)= .ok q from e)
 rw[zp] at this
 omega
theorem zuj {C:Cx} {d:Nat} {q2 q:PS} {z:Int} (h:Is (bd (.ok (adv q2)) (pE C .prod d)) q z) (hz:z<0):1≤q.pos:=by
 obtain⟨e,_⟩:=zcs h hz
 have:=zds (show pE C .prod d (adv q2)= .ok q from e)
 rw[zp] at this
 omega
theorem zbgb {C:Cx} {d:Nat} {F:PS→Ex} {q2 q:PS} {z:Int} (h:Is (bd (bd (.ok (adv q2)) (pE C .part d)) fun q'=>zbs C (F q') q') q z) (hz:z<0):q2.pos+1≤q.pos:=by
 obtain⟨e,_⟩:=zcs h hz
 exact zui (fun a ha=>by have:=zds (show pE C .part d (adv q2)= .ok a from ha);rw[zp] at this;exact this) e
theorem zuk {C:Cx} {d:Nat} {F:PS→Ex} {q2 q:PS} {z:Int} (h:Is (bd (bd (.ok (adv q2)) (pE C .prod d)) fun q'=>zbs C (F q') q') q z) (hz:z<0):q2.pos+1≤q.pos:=by
 obtain⟨e,_⟩:=zcs h hz
 exact zui (fun a ha=>by have:=zds (show pE C .prod d (adv q2)= .ok a from ha);rw[zp] at this;exact this) e
theorem ztg {C:Cx} {d:Nat} {q:PS} (hs:isT C q.pos 4 zbb=true) (_:q.pos<C.ts.length):
  bd (.ok q) (pE C .prodT d)=bd (bd (bd (.ok (adv q)) (pE C .part d)) fun q'=>zbs C ⟨8,0,sNone,sNone,(q.ex.length:Int)-1,(q'.ex.length:Int)-1⟩ q') (pE C .prodT d):=by
 show pE C .prodT d q=_
 rw[znk,if_pos hs]
 rfl
theorem zsg {C:Cx} {d:Nat} {q:PS} {k:Int} (hs:(isT C q.pos 4 zhu||isT C q.pos 4 zdz)=true) (hk:zjc C q.pos=k) (_:q.pos<C.ts.length):
  bd (.ok q) (pE C .sumT d)=bd (bd (bd (.ok (adv q)) (pE C .prod d)) fun q'=>zbs C ⟨k,0,sNone,sNone,(q.ex.length:Int)-1,(q'.ex.length:Int)-1⟩ q') (pE C .sumT d):=by
 show pE C .sumT d q=_
 rw[zmu,if_pos hs,hk]
 rfl
theorem zth {C:Cx} {d:Nat} {x:PR} {q:PS} {z:Int} (hi:Is x q z) (hc:(decide (z<0)&&isT C q.pos 4 zbb)=false):Is (bd x (pE C .prodT d)) q z:=by
 cases x with
 |ok a=>
  obtain⟨rfl,rfl⟩:=hi
  rw[Bool.and_eq_false_iff] at hc
  rw[zbe,znk,hc.resolve_left (by decide)]
  exact⟨rfl,rfl⟩
 |error e=>exact hi
theorem zbdd {C:Cx} {d:Nat} {x:PR} {q:PS} {z:Int} (hi:Is x q z) (hc:(decide (z<0)&&isT C q.pos 4 zhu)=false) (u7:(decide (z<0)&&isT C q.pos 4 zdz)=false):Is (bd x (pE C .sumT d)) q z:=by
 cases x with
 |ok a=>
  obtain⟨rfl,rfl⟩:=hi
  rw[Bool.and_eq_false_iff] at hc u7
  rw[zbe,zmu,hc.resolve_left (by decide),u7.resolve_left (by decide)]
  exact⟨rfl,rfl⟩
 |error e=>exact hi
theorem zbde {C:Cx} {i:Nat} (h:isT C i 4 zhu=true):isT C i 4 zdz=false:=by
 simp only[isT,Bool.and_eq_true,beq_iff_eq] at h
 simp only[isT,h.2]
 rw[Bool.and_eq_false_iff]
 exact .inr (by simp)
theorem zbbi {C:Cx} {gt cap base m:Nat} (hP:zxj C gt cap base m):zbfx C gt cap base m:=by
 intro x S q z d w hx hm hl gd
 have HP:=hidI hP
 have HM:=hidI hm
 have HX:=hidI hx
 have HL:=hidI hl
 have I0:=hm.few
 clear hP hm hx hl
 unfold pv
 go_enter Tryz.func201,Tryz.ntmps201
 go_wp2_with f0
 refine (HP.out x S q z d _ HX.out ((HM.out.alloc _).alloc _) HL.out gd).mono ?_
 rintro e w1 ⟨S1,q1,z1,rfl,i1,m1,s1⟩
 obtain⟨X0,X1,t1⟩:=HM.out.two2 s1
 have j0:=hidI X0
 have n0:=hidI X1
 have Q0:=hidI m1
 have N1:=hidI t1
 have L6:=hidI i1
 clear X0 X1 i1 m1 t1 s1
 obtain⟨a0,a1,a2,a3,a4,a5,a6,a7,a8,a9,E0,B0,af⟩:=j0.out.box
 unfold pv
 go_wp2
 go_loopg [] (C.ts.length+1) (fun k wr=>∃(x':PR) (S':Sv) (q':PS) (z':Int),Is x' q' z'∧bd x' (pE C .prodT d)=bd x (pE C .prod d)∧(z'<0→C.ts.length-q'.pos<k)∧(z'<0→C.ts.length-q'.pos<m)∧Mem C gt cap base S' q' wr∧SB w.heap.size S w S' wr∧Bx gt S' wr w.heap.size #[.slice (some ⟨gt,0,none⟩) C.ts.length cap,.int .i64 q'.pos,.int .i64 C.fin,.bool C.scr,.slice S'.rq.a q'.rq.length S'.rq.cap,.slice S'.im.a q'.im.length S'.im.cap,.slice S'.ep.a q'.ep.length S'.ep.cap,.slice S'.st.a q'.st.length S'.st.cap,.slice S'.ex.a q'.ex.length S'.ex.cap,.slice S'.la.a q'.la.length S'.la.cap,.int .i64 z',.int .i64 d]∧Bx gt S' wr (w.heap.size+1) #[.slice none 0 0,.int .i64 0,.int .i64 0,.bool false,.slice none 0 0,.slice none 0 0,.slice none 0 0,.slice none 0 0,.slice none 0 0,.slice none 0 0,.int .i64 0,.int .i64 0])
 case atStart=>exact⟨_,S1,q1,z1,L6.out,by rw[zbr];exact zy fun a _=>(zbax C d a).symm,fun _=>by omega,fun hz=>zbfy HX.out L6.out HL.out hz,(Q0.out.put j0.out _ _ _ _ _ _ _ _ _ _ _ _),(N1.out.put (by omega) _ _ _ _ _ _ _ _ _ _ _ _),(j0.out.put _ _ _ _ _ _ _ _ _ _ _ _),(n0.out.other (by omega) _ _ _ _ _ _ _ _ _ _ _ _)⟩
 case round=>
  obtain⟨x2,S2,q2,z2,i2,e2,l2,b2,m2,t2,X0,X1⟩:=hrel
  have j0:=hidI X0
  have n0:=hidI X1
  have M0:=hidI m2
  have F1:=hidI t2
  have D6:=hidI i2
  have Ea:=hidI e2
  have Rc:=hidI l2
  have J0:=hidI b2
  have G6:=m2.inv.ex
  clear X0 X1 i2 m2 t2 e2 l2 b2
  cases hc:(decide (z2<0)&&isT C q2.pos 4 zbb) with
  |true=>
   obtain⟨a0,a1,a2,a3,a4,a5,a6,a7,a8,a9,E0,B0,af⟩:=j0.out.box
   go_wp2_with f0
   refine (zf C gt cap base S2 q2 z2 d 4 zbb _ M0.out.tok I0 (by decide)).mono ?_
   rintro e w3 ⟨rfl,N0⟩
   rw[hc]
   replace j0:=hidI (j0.out.below N0)
   replace n0:=hidI (n0.out.below N0)
   have Q1:=hidI (F1.out.below N0)
   have U0:=hidI (M0.out.later N0)
   clear N0 F1 M0
   clear a0 a1 a2 a3 a4 a5 a6 a7 a8 a9 E0 B0 af
   rw[Bool.and_eq_true,decide_eq_true_eq] at hc
   obtain⟨hz,hs⟩:=hc
   have hp:q2.pos<C.ts.length:=zcl hs (by decide)
   obtain⟨rfl,rfl⟩:=zcs D6.out hz
   have Fb:=Rc.out hz
   have hbn:=J0.out hz
   skip
   obtain⟨a0,a1,a2,a3,a4,a5,a6,a7,a8,a9,E0,B0,af⟩:=j0.out.box
   go_wp2_with f0
   refine (HP.out (.ok (adv q2)) S2 (adv q2) (-1) d _ (zby _) ((U0.out.adv hp).set j0.out 1 _) (fun _=>by rw[zp];omega) gd).mono ?_
   rintro e w4 ⟨S4,q4,z4,rfl,i4,m4,s4⟩
   replace j0:=hidI ((j0.out.at1 _).stp s4)
   replace n0:=hidI ((n0.out.set_other (by omega) 1 _).stp s4)
   have F2:Hid (SB w.heap.size S w S4 w4):=(Q1.out.set (by omega) 1 _).step s4
   clear Q1
   have V1:=hidI m4
   have L7:=hidI i4
   clear i4 m4 s4 U0
   clear a0 a1 a2 a3 a4 a5 a6 a7 a8 a9 E0 B0 af
   obtain⟨a0,a1,a2,a3,a4,a5,a6,a7,a8,a9,E0,B0,af⟩:=j0.out.box
   unfold pv
   go_upto_region 6 with f0
   refine zo (R:=fun W=>Bx gt S4 W (w.heap.size) _∧Bx gt S4 W (w.heap.size+1) _∧Mem C gt cap base S4 q4 W∧SB w.heap.size S w S4 W) ⟨(j0.out.put _ _ _ _ _ _ _ _ _ _ _ _),(n0.out.other (by omega) _ _ _ _ _ _ _ _ _ _ _ _),(V1.out.put j0.out _ _ _ _ _ _ _ _ _ _ _ _),(F2.out.put (by omega) _ _ _ _ _ _ _ _ _ _ _ _)⟩ ?_
   clear a0 a1 a2 a3 a4 a5 a6 a7 a8 a9 E0 B0 af
   clear j0 n0 F2 V1
   rintro w5 ⟨X0,X1,m5,t5⟩
   have j0:=hidI X0
   have n0:=hidI X1
   have Z1:=hidI m5
   have P2:=hidI t5
   clear m5 t5 X0 X1
   obtain⟨a0,a1,a2,a3,a4,a5,a6,a7,a8,a9,E0,B0,af⟩:=j0.out.box
   have Sf:=Z1.out.inv.ex
   go_wp2_with f0
   refine (zfb C gt cap base _ S4 q4 z4 d ⟨8,0,sNone,sNone,(q2.ex.length:Int)-1,(q4.ex.length:Int)-1⟩ _ L7.out Z1.out (fun h=>zbga L7.out h)).mono ?_
   rintro e w6 ⟨S6,q6,z6,rfl,i6,m6,s6⟩
   replace j0:=hidI (j0.out.stp s6)
   replace n0:=hidI (n0.out.stp s6)
   have J2:=hidI (P2.out.step s6)
   clear P2
   have j2:=hidI m6
   have D7:=hidI i6
   clear i6 m6 s6 Z1
   clear a0 a1 a2 a3 a4 a5 a6 a7 a8 a9 E0 B0 af
   have HI:Hid (Is (bd (bd (.ok (adv q2)) (pE C .part d)) fun q'=>zbs C ⟨8,0,sNone,sNone,(q2.ex.length:Int)-1,(q'.ex.length:Int)-1⟩ q') q6 z6):=by rw[←zri L7.out (fun q'=>⟨8,0,sNone,sNone,(q2.ex.length:Int)-1,(q'.ex.length:Int)-1⟩)];exact D7.out
   have sc:Hid (z6<0→q2.pos+1≤q6.pos):=fun h=>zbgb HI.out h
   obtain⟨a0,a1,a2,a3,a4,a5,a6,a7,a8,a9,E0,B0,af⟩:=j0.out.box
   unfold pv
   go_wp2
   go_roundg (gk-1)
   case rel=>exact⟨_,S6,q6,z6,HI.out,by rw[←Ea.out];exact (ztg (d:=d) hs hp).symm,fun h=>by have:=sc.out h;omega,fun h=>by have:=sc.out h;omega,(j2.out.put j0.out _ _ _ _ _ _ _ _ _ _ _ _),(J2.out.put (by omega) _ _ _ _ _ _ _ _ _ _ _ _),(j0.out.put _ _ _ _ _ _ _ _ _ _ _ _),(n0.out.other (by omega) _ _ _ _ _ _ _ _ _ _ _ _)⟩
   case measure=>omega
  |false=>
   obtain⟨a0,a1,a2,a3,a4,a5,a6,a7,a8,a9,E0,B0,af⟩:=j0.out.box
   go_wp2_with f0
   refine (zf C gt cap base S2 q2 z2 d 4 zbb _ M0.out.tok I0 (by decide)).mono ?_
   rintro e w3 ⟨rfl,N0⟩
   rw[hc]
   replace j0:=hidI (j0.out.below N0)
   replace n0:=hidI (n0.out.below N0)
   have Q1:=hidI (F1.out.below N0)
   have U0:=hidI (M0.out.later N0)
   clear N0 F1 M0
   clear a0 a1 a2 a3 a4 a5 a6 a7 a8 a9 E0 B0 af
   obtain⟨a0,a1,a2,a3,a4,a5,a6,a7,a8,a9,E0,B0,af⟩:=j0.out.box
   obtain⟨b0,b1,b2,b3,b4,b5,b6,b7,b8,b9,Z4,j5,bf⟩:=n0.out.box
   go_wp2
   refine bodyPost_ret (results_cell_row rfl _ _ (w.heap.size+1) 100 _ (0,0) _ rfl ((n0.out.put _ _ _ _ _ _ _ _ _ _ _ _)).heap Tryz.underlying100 rfl (by o0)) rfl ?_
   exact zx rfl (show Is (bd x (pE C .prod d)) q2 z2 from by rw[←Ea.out];exact zth D6.out hc) (U0.out.put n0.out _ _ _ _ _ _ _ _ _ _ _ _) (Q1.out.put (by omega) _ _ _ _ _ _ _ _ _ _ _ _)
theorem zbgc {C:Cx} {gt cap base m:Nat} (hP:zbfx C gt cap base m):SumOK C gt cap base m:=by
 intro x S q z d w hx hm hl gd
 have HP:=hidI hP
 have HM:=hidI hm
 have HX:=hidI hx
 have HL:=hidI hl
 have I0:=hm.few
 clear hP hm hx hl
 unfold pv
 go_enter Tryz.func125,Tryz.ntmps125
 go_wp2_with f0
 refine (HP.out x S q z d _ HX.out ((HM.out.alloc _).alloc _) HL.out gd).mono ?_
 rintro e w1 ⟨S1,q1,z1,rfl,i1,m1,s1⟩
 obtain⟨X0,X1,t1⟩:=HM.out.two2 s1
 have j0:=hidI X0
 have n0:=hidI X1
 have Q0:=hidI m1
 have N1:=hidI t1
 have L6:=hidI i1
 clear X0 X1 i1 m1 t1 s1
 obtain⟨a0,a1,a2,a3,a4,a5,a6,a7,a8,a9,E0,B0,af⟩:=j0.out.box
 unfold pv
 go_wp2
 go_loopg [] (C.ts.length+1) (fun k wr=>∃(x':PR) (S':Sv) (q':PS) (z':Int),Is x' q' z'∧bd x' (pE C .sumT d)=bd x (pE C .sum d)∧(z'<0→C.ts.length-q'.pos<k)∧(z'<0→C.ts.length-q'.pos<m)∧Mem C gt cap base S' q' wr∧SB w.heap.size S w S' wr∧Bx gt S' wr w.heap.size #[.slice (some ⟨gt,0,none⟩) C.ts.length cap,.int .i64 q'.pos,.int .i64 C.fin,.bool C.scr,.slice S'.rq.a q'.rq.length S'.rq.cap,.slice S'.im.a q'.im.length S'.im.cap,.slice S'.ep.a q'.ep.length S'.ep.cap,.slice S'.st.a q'.st.length S'.st.cap,.slice S'.ex.a q'.ex.length S'.ex.cap,.slice S'.la.a q'.la.length S'.la.cap,.int .i64 z',.int .i64 d]∧Bx gt S' wr (w.heap.size+1) #[.slice none 0 0,.int .i64 0,.int .i64 0,.bool false,.slice none 0 0,.slice none 0 0,.slice none 0 0,.slice none 0 0,.slice none 0 0,.slice none 0 0,.int .i64 0,.int .i64 0])
 case atStart=>exact⟨_,S1,q1,z1,L6.out,by rw[zbr];exact zy fun a _=>(zbey C d a).symm,fun _=>by omega,fun hz=>zbfz HX.out L6.out HL.out hz,(Q0.out.put j0.out _ _ _ _ _ _ _ _ _ _ _ _),(N1.out.put (by omega) _ _ _ _ _ _ _ _ _ _ _ _),(j0.out.put _ _ _ _ _ _ _ _ _ _ _ _),(n0.out.other (by omega) _ _ _ _ _ _ _ _ _ _ _ _)⟩
 case round=>
  obtain⟨x2,S2,q2,z2,i2,e2,l2,b2,m2,t2,X0,X1⟩:=hrel
  have j0:=hidI X0
  have n0:=hidI X1
  have M0:=hidI m2
  have F1:=hidI t2
  have D6:=hidI i2
  have Ea:=hidI e2
  have Rc:=hidI l2
  have J0:=hidI b2
  have G6:=m2.inv.ex
  clear X0 X1 i2 m2 t2 e2 l2 b2
  cases hc:(decide (z2<0)&&isT C q2.pos 4 zhu) with
  |true=>
   obtain⟨a0,a1,a2,a3,a4,a5,a6,a7,a8,a9,E0,B0,af⟩:=j0.out.box
   go_wp2_with f0
   refine (zf C gt cap base S2 q2 z2 d 4 zhu _ M0.out.tok I0 (by decide)).mono ?_
   rintro e w3 ⟨rfl,N0⟩
   rw[hc]
   replace j0:=hidI (j0.out.below N0)
   replace n0:=hidI (n0.out.below N0)
   have Q1:=hidI (F1.out.below N0)
   have U0:=hidI (M0.out.later N0)
   clear N0 F1 M0
   clear a0 a1 a2 a3 a4 a5 a6 a7 a8 a9 E0 B0 af
   rw[Bool.and_eq_true,decide_eq_true_eq] at hc
   obtain⟨hz,hs⟩:=hc
   have hmi:isT C q2.pos 4 zdz=false:=zbde hs
   have u7:(decide (z2<0)&&isT C q2.pos 4 zdz)=false:=by rw[hmi,Bool.and_false]
   obtain⟨a0,a1,a2,a3,a4,a5,a6,a7,a8,a9,E0,B0,af⟩:=j0.out.box
   go_wp2_with f0
   refine (zf C gt cap base S2 q2 z2 d 4 zdz _ U0.out.tok I0 (by decide)).mono ?_
   rintro e w4 ⟨rfl,Z0⟩
   rw[u7]
   replace j0:=hidI (j0.out.below Z0)
   replace n0:=hidI (n0.out.below Z0)
   have F2:=hidI (Q1.out.below Z0)
   have V1:=hidI (U0.out.later Z0)
   clear Z0 Q1 U0
   clear a0 a1 a2 a3 a4 a5 a6 a7 a8 a9 E0 B0 af
   clear u7
   have hp:q2.pos<C.ts.length:=zcl hs (by decide)
   obtain⟨rfl,rfl⟩:=zcs D6.out hz
   have Fb:=Rc.out hz
   have hbn:=J0.out hz
   skip
   obtain⟨a0,a1,a2,a3,a4,a5,a6,a7,a8,a9,E0,B0,af⟩:=j0.out.box
   go_wp2_with f0
   refine (HP.out (.ok (adv q2)) S2 (adv q2) (-1) d _ (zby _) ((V1.out.adv hp).set j0.out 1 _) (fun _=>by rw[zp];omega) gd).mono ?_
   rintro e w5 ⟨S5,q5,z5,rfl,i5,m5,s5⟩
   replace j0:=hidI ((j0.out.at1 _).stp s5)
   replace n0:=hidI ((n0.out.set_other (by omega) 1 _).stp s5)
   have P2:Hid (SB w.heap.size S w S5 w5):=(F2.out.set (by omega) 1 _).step s5
   clear F2
   have Z1:=hidI m5
   have T7:=hidI i5
   clear i5 m5 s5 V1
   clear a0 a1 a2 a3 a4 a5 a6 a7 a8 a9 E0 B0 af
   obtain⟨a0,a1,a2,a3,a4,a5,a6,a7,a8,a9,E0,B0,af⟩:=j0.out.box
   unfold pv
   go_upto_region 9 with f0
   refine zo (R:=fun W=>Bx gt S5 W (w.heap.size) _∧Bx gt S5 W (w.heap.size+1) _∧Mem C gt cap base S5 q5 W∧SB w.heap.size S w S5 W) ⟨(j0.out.put _ _ _ _ _ _ _ _ _ _ _ _),(n0.out.other (by omega) _ _ _ _ _ _ _ _ _ _ _ _),(Z1.out.put j0.out _ _ _ _ _ _ _ _ _ _ _ _),(P2.out.put (by omega) _ _ _ _ _ _ _ _ _ _ _ _)⟩ ?_
   clear a0 a1 a2 a3 a4 a5 a6 a7 a8 a9 E0 B0 af
   clear j0 n0 P2 Z1
   rintro w6 ⟨X0,X1,m6,t6⟩
   have j0:=hidI X0
   have n0:=hidI X1
   have j2:=hidI m6
   have J2:=hidI t6
   clear m6 t6 X0 X1
   obtain⟨a0,a1,a2,a3,a4,a5,a6,a7,a8,a9,E0,B0,af⟩:=j0.out.box
   have Sf:=j2.out.inv.ex
   go_wp2_with f0
   refine (zfb C gt cap base _ S5 q5 z5 d ⟨6,0,sNone,sNone,(q2.ex.length:Int)-1,(q5.ex.length:Int)-1⟩ _ T7.out j2.out (fun h=>zuj T7.out h)).mono ?_
   rintro e w7 ⟨S7,q7,z7,rfl,i7,m7,s7⟩
   replace j0:=hidI (j0.out.stp s7)
   replace n0:=hidI (n0.out.stp s7)
   have P3:=hidI (J2.out.step s7)
   clear J2
   have N2:=hidI m7
   have Z5:=hidI i7
   clear i7 m7 s7 j2
   clear a0 a1 a2 a3 a4 a5 a6 a7 a8 a9 E0 B0 af
   have HI:Hid (Is (bd (bd (.ok (adv q2)) (pE C .prod d)) fun q'=>zbs C ⟨6,0,sNone,sNone,(q2.ex.length:Int)-1,(q'.ex.length:Int)-1⟩ q') q7 z7):=by rw[←zri T7.out (fun q'=>⟨6,0,sNone,sNone,(q2.ex.length:Int)-1,(q'.ex.length:Int)-1⟩)];exact Z5.out
   have sc:Hid (z7<0→q2.pos+1≤q7.pos):=fun h=>zuk HI.out h
   obtain⟨a0,a1,a2,a3,a4,a5,a6,a7,a8,a9,E0,B0,af⟩:=j0.out.box
   unfold pv
   go_wp2
   go_roundg (gk-1)
   case rel=>exact⟨_,S7,q7,z7,HI.out,by rw[←Ea.out];exact (zsg (d:=d) (by rw[hs];rfl) (show zjc C q2.pos=6 by rw[zjc,hmi];rfl) hp).symm,fun h=>by have:=sc.out h;omega,fun h=>by have:=sc.out h;omega,(N2.out.put j0.out _ _ _ _ _ _ _ _ _ _ _ _),(P3.out.put (by omega) _ _ _ _ _ _ _ _ _ _ _ _),(j0.out.put _ _ _ _ _ _ _ _ _ _ _ _),(n0.out.other (by omega) _ _ _ _ _ _ _ _ _ _ _ _)⟩
   case measure=>omega
  |false=>
   obtain⟨a0,a1,a2,a3,a4,a5,a6,a7,a8,a9,E0,B0,af⟩:=j0.out.box
   go_wp2_with f0
   refine (zf C gt cap base S2 q2 z2 d 4 zhu _ M0.out.tok I0 (by decide)).mono ?_
   rintro e w3 ⟨rfl,N0⟩
   rw[hc]
   replace j0:=hidI (j0.out.below N0)
   replace n0:=hidI (n0.out.below N0)
   have Q1:=hidI (F1.out.below N0)
   have U0:=hidI (M0.out.later N0)
   clear N0 F1 M0
   clear a0 a1 a2 a3 a4 a5 a6 a7 a8 a9 E0 B0 af
   cases u7:(decide (z2<0)&&isT C q2.pos 4 zdz) with
   |true=>
    obtain⟨a0,a1,a2,a3,a4,a5,a6,a7,a8,a9,E0,B0,af⟩:=j0.out.box
    go_wp2_with f0
    refine (zf C gt cap base S2 q2 z2 d 4 zdz _ U0.out.tok I0 (by decide)).mono ?_
    rintro e w4 ⟨rfl,Z0⟩
    rw[u7]
    replace j0:=hidI (j0.out.below Z0)
    replace n0:=hidI (n0.out.below Z0)
    have F2:=hidI (Q1.out.below Z0)
    have V1:=hidI (U0.out.later Z0)
    clear Z0 Q1 U0
    clear a0 a1 a2 a3 a4 a5 a6 a7 a8 a9 E0 B0 af
    obtain⟨a0,a1,a2,a3,a4,a5,a6,a7,a8,a9,E0,B0,af⟩:=j0.out.box
    go_wp2_with f0
    refine (zf C gt cap base S2 q2 z2 d 4 zdz _ V1.out.tok I0 (by decide)).mono ?_
    rintro e w5 ⟨rfl,E3⟩
    rw[u7]
    replace j0:=hidI (j0.out.below E3)
    replace n0:=hidI (n0.out.below E3)
    have P2:=hidI (F2.out.below E3)
    have Z1:=hidI (V1.out.later E3)
    clear E3 F2 V1
    clear a0 a1 a2 a3 a4 a5 a6 a7 a8 a9 E0 B0 af
    rw[Bool.and_eq_true,decide_eq_true_eq] at u7
    obtain⟨hz,hs⟩:=u7
    have hp:q2.pos<C.ts.length:=zcl hs (by decide)
    obtain⟨rfl,rfl⟩:=zcs D6.out hz
    have Fb:=Rc.out hz
    have hbn:=J0.out hz
    skip
    obtain⟨a0,a1,a2,a3,a4,a5,a6,a7,a8,a9,E0,B0,af⟩:=j0.out.box
    go_wp2_with f0
    refine (HP.out (.ok (adv q2)) S2 (adv q2) (-1) d _ (zby _) ((Z1.out.adv hp).set j0.out 1 _) (fun _=>by rw[zp];omega) gd).mono ?_
    rintro e w6 ⟨S6,q6,z6,rfl,i6,m6,s6⟩
    replace j0:=hidI ((j0.out.at1 _).stp s6)
    replace n0:=hidI ((n0.out.set_other (by omega) 1 _).stp s6)
    have J2:Hid (SB w.heap.size S w S6 w6):=(P2.out.set (by omega) 1 _).step s6
    clear P2
    have j2:=hidI m6
    have D7:=hidI i6
    clear i6 m6 s6 Z1
    clear a0 a1 a2 a3 a4 a5 a6 a7 a8 a9 E0 B0 af
    obtain⟨a0,a1,a2,a3,a4,a5,a6,a7,a8,a9,E0,B0,af⟩:=j0.out.box
    unfold pv
    go_upto_region 9 with f0
    refine zo (R:=fun W=>Bx gt S6 W (w.heap.size) _∧Bx gt S6 W (w.heap.size+1) _∧Mem C gt cap base S6 q6 W∧SB w.heap.size S w S6 W) ⟨(j0.out.put _ _ _ _ _ _ _ _ _ _ _ _),(n0.out.other (by omega) _ _ _ _ _ _ _ _ _ _ _ _),(j2.out.put j0.out _ _ _ _ _ _ _ _ _ _ _ _),(J2.out.put (by omega) _ _ _ _ _ _ _ _ _ _ _ _)⟩ ?_
    clear a0 a1 a2 a3 a4 a5 a6 a7 a8 a9 E0 B0 af
    clear j0 n0 J2 j2
    rintro w7 ⟨X0,X1,m7,t7⟩
    have j0:=hidI X0
    have n0:=hidI X1
    have N2:=hidI m7
    have P3:=hidI t7
    clear m7 t7 X0 X1
    obtain⟨a0,a1,a2,a3,a4,a5,a6,a7,a8,a9,E0,B0,af⟩:=j0.out.box
    have Sf:=N2.out.inv.ex
    go_wp2_with f0
    refine (zfb C gt cap base _ S6 q6 z6 d ⟨7,0,sNone,sNone,(q2.ex.length:Int)-1,(q6.ex.length:Int)-1⟩ _ D7.out N2.out (fun h=>zuj D7.out h)).mono ?_
    rintro e w8 ⟨S8,q8,z8,rfl,i8,m8,s8⟩
    replace j0:=hidI (j0.out.stp s8)
    replace n0:=hidI (n0.out.stp s8)
    have J4:=hidI (P3.out.step s8)
    clear P3
    have H4:=hidI m8
    have H7:=hidI i8
    clear i8 m8 s8 N2
    clear a0 a1 a2 a3 a4 a5 a6 a7 a8 a9 E0 B0 af
    have HI:Hid (Is (bd (bd (.ok (adv q2)) (pE C .prod d)) fun q'=>zbs C ⟨7,0,sNone,sNone,(q2.ex.length:Int)-1,(q'.ex.length:Int)-1⟩ q') q8 z8):=by rw[←zri D7.out (fun q'=>⟨7,0,sNone,sNone,(q2.ex.length:Int)-1,(q'.ex.length:Int)-1⟩)];exact H7.out
    have sc:Hid (z8<0→q2.pos+1≤q8.pos):=fun h=>zuk HI.out h
    obtain⟨a0,a1,a2,a3,a4,a5,a6,a7,a8,a9,E0,B0,af⟩:=j0.out.box
    unfold pv
    go_wp2
    go_roundg (gk-1)
    case rel=>exact⟨_,S8,q8,z8,HI.out,by rw[←Ea.out];exact (zsg (d:=d) (by rw[hs,Bool.or_true]) (show zjc C q2.pos=7 by rw[zjc,hs];rfl) hp).symm,fun h=>by have:=sc.out h;omega,fun h=>by have:=sc.out h;omega,(H4.out.put j0.out _ _ _ _ _ _ _ _ _ _ _ _),(J4.out.put (by omega) _ _ _ _ _ _ _ _ _ _ _ _),(j0.out.put _ _ _ _ _ _ _ _ _ _ _ _),(n0.out.other (by omega) _ _ _ _ _ _ _ _ _ _ _ _)⟩
    case measure=>omega
   |false=>
    obtain⟨a0,a1,a2,a3,a4,a5,a6,a7,a8,a9,E0,B0,af⟩:=j0.out.box
    go_wp2_with f0
    refine (zf C gt cap base S2 q2 z2 d 4 zdz _ U0.out.tok I0 (by decide)).mono ?_
    rintro e w4 ⟨rfl,Z0⟩
    rw[u7]
    replace j0:=hidI (j0.out.below Z0)
    replace n0:=hidI (n0.out.below Z0)
    have F2:=hidI (Q1.out.below Z0)
    have V1:=hidI (U0.out.later Z0)
    clear Z0 Q1 U0
    clear a0 a1 a2 a3 a4 a5 a6 a7 a8 a9 E0 B0 af
    obtain⟨a0,a1,a2,a3,a4,a5,a6,a7,a8,a9,E0,B0,af⟩:=j0.out.box
    obtain⟨b0,b1,b2,b3,b4,b5,b6,b7,b8,b9,Z4,j5,bf⟩:=n0.out.box
    go_wp2
    refine bodyPost_ret (results_cell_row rfl _ _ (w.heap.size+1) 100 _ (0,0) _ rfl ((n0.out.put _ _ _ _ _ _ _ _ _ _ _ _)).heap Tryz.underlying100 rfl (by o0)) rfl ?_
    exact zx rfl (show Is (bd x (pE C .sum d)) q2 z2 from by rw[←Ea.out];exact zbdd D6.out hc u7) (V1.out.put n0.out _ _ _ _ _ _ _ _ _ _ _ _) (F2.out.put (by omega) _ _ _ _ _ _ _ _ _ _ _ _)
theorem zbgd (C:Cx) (gt cap base:Nat):zxj C gt cap base 0:=by
 intro x S q z d w hx hm hl hd
 by_cases hz:z<0
 ·have:=hl hz
  omega
 ·obtain⟨e,rfl,rfl⟩:=zjf hx hz
  rw[zjr]
  obtain⟨ts,fin,scr⟩:=C
  cases scr with
  |true=>exact zmh ts fin gt cap base S q d w hm e
  |false=>exact zlr ts fin gt cap base S q d w hm e
theorem zblo (C:Cx) (gt cap base:Nat) (m:Nat):SumOK C gt cap base m:=by
 induction m with
 |zero=>exact zbgc (zbbi (zbgd C gt cap base))
 |succ m ih=>exact zbgc (zbbi (zbln ih))
theorem zfc (C:Cx) (gt cap base:Nat) (x:PR) (S:Sv) (q:PS) (z:Int) (w:World) (hx:Is x q z) (hm:Mem C gt cap base S q w):
  Calls Tryz.prog 125 #[pv C gt cap S q z 0] w (Out C gt cap base (bd x (pE C .sum 0)) 0 S w):=
 zblo C gt cap base (C.ts.length+1) x S q z 0 w hx hm (fun _=>by omega) (by omega)
end Go.Proofs.YtmnemfookpjhiaaGreat
