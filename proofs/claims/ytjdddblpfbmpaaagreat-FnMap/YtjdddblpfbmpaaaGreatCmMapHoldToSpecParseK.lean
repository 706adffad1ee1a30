/-
  What laws.FnMap holds on its way. No program is spoken of but for the numbers of its types.
  What spec.DrawMapSpec tells: some rules and some name: the walk.
  What spec's l4Spec answers: the walk.
  Boxes of a program under way,through calls and stores. No program is spoken of but for the numbers of its types.
  A row of pairs of names beside a program under way. No program is spoken of but for the numbers of its types.
  What spec's l4Tail answers: the walk.
  What spec's l4List answers: the walk.
  What spec's l4Part answers,if l4Sum answers so behind it: the walks.
  What spec's l4Part answers where no number and no bracket stands,in a script: the walks.
  What spec's l4Part answers where no number and no bracket stands: the walks.
  What spec's l4Part,l4Product and l4Sum answer: the walks of the two loops,and the three together.
  What spec's l4Let and l4Fn answer: the walks.
-/
import Derived.Test.YtjdddblpfbmpaaaGreatCmDrawRules
namespace Go.Proofs.YtjdddblpfbmpaaaGreat
set_option maxHeartbeats 6400000
set_option maxRecDepth 100000
open Go.RowKit Go.PlainAid Go.Sort
theorem zkn {w:World} {z g n I:Nat} {q:List Fl} (h:zbA w z 57 g n I q) (J: ∀y∈q,y.1.size≤100∧y.2.size≤100): ∃Pt Tx:Nat→ByteArray,FilesAt w (some ⟨g,0,none⟩) g 0 n Pt Tx∧(∀j,j<n→(Pt j).size≤1048576)∧∀j,j<n→(Tx j).size≤1048576:=by
 have A: ∀j,j<n→q.getD j zgA∈q:=fun j H=>by
  have L:=h.2
  rw[List.getD,List.getElem?_eq_getElem (show j<q.length by omega)]
  exact List.getElem_mem _
 refine⟨_,_,zpM h,fun j H=>?_,fun j H=>?_⟩
 ·have:=(J _ (A j H)).1
  unfold zkh
  omega
 ·have:=(J _ (A j H)).2
  unfold zki
  omega
theorem Drawn.fit {m:Md} (h:Drawn 1 m):MapFit m:=by
 have A:=h.cost
 have q:=h.rq.1
 have z:=h.im.1
 have H:=h.ep.1
 refine⟨by omega,fun x j=>?_,fun x j=>?_,fun x j=>?_⟩
 ·have:=h.rq.2 x j
  omega
 ·have:=(h.im.2 x j).1
  omega
 ·have:=h.ep.2 x j
  unfold zcU at this
  omega
structure ML (w:World) (g n:Nat) (Pt Tx:Nat→ByteArray) (base:Nat) (V:Sv) (m:Md) (b:Nat) (W:World):Prop where
 bel:Below w.heap.size w W
 ru:FilesAt W (some ⟨g,0,none⟩) g 0 n Pt Tx
 box:W.heap[b]? =some (zeB V m)
 own:OwnMd W base V m
theorem ML.later {w W z:World} {g n j b:Nat} {Pt Tx:Nat→ByteArray} {V:Sv} {m:Md} (h:ML w g n Pt Tx j V m b W) (q:Below W.heap.size W z):ML w g n Pt Tx j V m b z:=⟨h.bel.trans (q.mono h.bel.size),h.ru.later q,zj0 h.box q,h.own.later q⟩
structure MY (base:Nat) (V:Sv) (m:Md) (b:Nat) (W:World):Prop where
 box:W.heap[b]? =some (zeB V m)
 own:OwnMd W base V m
theorem MY.later {W q:World} {j b:Nat} {V:Sv} {m:Md} (h:MY j V m b W) (z:Below W.heap.size W q):MY j V m b q:=⟨zj0 h.box z,h.own.later z⟩
theorem MOk.few {m:Md} (h:MOk m):zee m:=by
 have:=h.parts
 have z:=this.rq
 have j:=this.im
 have H:=this.ep
 have q:=this.st
 have A:=this.ex
 exact⟨by omega,by omega,by omega,by omega,by omega⟩
theorem zko {a b:Bool} (h:a=true↔b=true):a=b:=by cases a<;>cases b<;>simp_all
def zpQ (w:World) (e:Ending) (w':World):Prop:=∃gr n cap fs s,e= .returned (.tuple #[.slice (some ⟨gr,0,none⟩) n cap,.string s])∧zbA w' w.heap.size 57 gr n cap fs∧n≤7∧(∀y∈fs,y.1.size≤100∧y.2.size≤100)∧s.size≤100∧Below w.heap.size w w'
theorem zpR (S:Src) (L:S.ok) (w:World) (hc:zcI S w) (X:S.lim≤w.heap.size):
  Calls Tryz.prog 20 #[.slice S.a S.len S.cap] w (zpQ w):=by
 go_enter Tryz.func20,Tryz.ntmps20
 go_wp2_with fail
 refine (zjZ S L _ hc X).mono ?_
 rintro e w1 ⟨rfl,M,z⟩
 go_wp2_with fail
 refine (zbe S L _ _ 100 [{data:=#[46,47,97]},{data:=#[46,47,98]},{data:=#[46,47,98,47,113]},{data:=#[99,47,100,47,101]},{data:=#[120]},{data:=#[120,47,121]},{data:=#[122]},{data:=#[]},{data:=#[46,47,98,47,97,97,97,97,97,97,97,97,97,97,97,97,97,97,97,97,97,97,97,97,97,97,97,97,97,97,97,97,97,97,97,97,97,97,97]}] _ M (by simp) (by simp) (by intro x N;simp only[List.mem_cons,List.not_mem_nil,or_false] at N;rcases N with rfl|rfl|rfl|rfl|rfl|rfl|rfl|rfl|rfl<;>decide)).mono ?_
 rintro e w2 ⟨s,q2,rfl,I,H,q⟩
 have J:=zg8 z q (Nat.le_refl _) z.size
 clear q
 go_wp2_with fail
 refine (zkm S L _ q2 _ H).mono ?_
 rintro e w3 ⟨gr,n,A,Y,q3,rfl,V,Z,U,aa,j⟩
 have O:=zg8 J j (Nat.le_refl _) J.size
 clear j
 go_wp2
 go_ret2
 exact⟨gr,n,A,Y,s,rfl,zkk V J.size,Z,U,I,O⟩
theorem Tryz.infoString:(Tryz.prog.info? 9).map (fun i=>(i.zero,i.size,i.bytes))=some (some (.string {data:=#[]}),1,16):=by kernel_rfl
theorem OwnR.addr {w:World} {j size n:Nat} {e:TypeId} {r:Rw} {xs:List Value} (h:OwnR w j e size r n xs):n=0∨∃g,r.a=some ⟨g,0,none⟩:=by
 rcases h.2 with ⟨_,H⟩|⟨g,A,z,q,_⟩
 ·exact .inl H
 ·simp only[Value.slice.injEq] at q
  exact .inr ⟨g,q.1⟩
theorem OwnR.str {w:World} {q:Nat} {e:TypeId} {r:Rw} {l:List ByteArray} {g:Nat} (h:OwnR w q e 1 r l.length (l.map .string)) (A:r.a=some ⟨g,0,none⟩) {j:Nat} (z:j<l.length):w.cell? ⟨g,j,none⟩=some (.string (l.getD j sNone)):=by
 unfold OwnR at h
 rw[A] at h
 rw[h.cellAt j (by omega)]
 simp[List.getD,z]
theorem OwnR.lt {w:World} {j size n:Nat} {e:TypeId} {r:Rw} {xs:List Value} {g:Nat} (h:OwnR w j e size r n xs) (q:r.a=some ⟨g,0,none⟩):g<w.heap.size:=(h.typed (k:=g) (by simp[Rw.blk,q,Value.ownBlock])).2.1
theorem zpS {l:List ByteArray} {x:ByteArray} {j:Nat} (q:j<l.length) (h:((l.getD j sNone).toList==x.toList)=true):zak l x=true:=by
 rw[zak,List.any_eq_true]
 exact⟨l[j],List.getElem_mem q,by simpa [List.getD,q] using h⟩
theorem zpT {l:List ByteArray} {x:ByteArray} (h: ∀j,j<l.length→((l.getD j sNone).toList==x.toList)=false):zak l x=false:=by
 rw[Bool.eq_false_iff,zak]
 intro k
 rw[List.any_eq_true] at k
 obtain⟨y,A,z⟩:=k
 obtain⟨j,q,rfl⟩:=List.getElem_of_mem A
 have:=h j q
 simp only[List.getD,List.getElem?_eq_getElem q,Option.getD_some] at this
 rw[this] at z
 cases z
theorem zpU {C:Cx} {x:PR} {q:PS} {z:Int} (J:Is x q z) (I:(decide (z<0)&&((ze C q.pos).kind==3))=false):Is2 (bd x (zF C)) q (zb5 C q.pos z) sNone:=by
 unfold zb5
 by_cases j:z<0
 ·obtain⟨A,H⟩:=zaH J j
  simp only[j,decide_true,Bool.true_and] at I
  rw[A,zC,zF,I,if_pos j]
  rfl
 ·obtain⟨e,A,H⟩:=zd3 J j
  rw[A,zez,if_neg j]
  exact H
theorem zpV (C:Cx) (M I j:Nat) (x:PR) (S:Sv) (q:PS) (z:Int) (d:Nat) (w:World) (hx:Is x q z) (X:Mem C M I j S q w) (V:(decide (z<0)&&((ze C q.pos).kind==3))=false):
  Calls Tryz.prog 145 #[pv C M I S q z d] w (zdI C M I j (bd x (zF C)) d S w):=by
 have Z:=zc X
 have A:=X.tok
 have J:=X.few
 have HY:Hid (Is2 (bd x (zF C)) q (zb5 C q.pos z) sNone):=zpU hx V
 clear hx X
 by_cases hz:z<0
 ·have aa:decide (0≤z)=false:=decide_eq_false (by omega)
  simp only[hz,decide_true,Bool.true_and] at V
  by_cases hp:q.pos<C.ts.length
  ·obtain⟨U,_,_,_⟩:=A.cells hp (d:=⟨0,sNone,0,C.fin⟩)
   have ab:=(zav A).1
   change _=some (Value.int .i64 (ze C q.pos).kind) at U
   generalize Y:ze C q.pos=t at U V
   have ac:(t.kind !=3)=true:=by rw[bne,V];rfl
   clear Y
   unfold pv
   go_enter Tryz.func145,Tryz.ntmps145
   go_wp2_with fail
   refine (zd1 C M I j S q z d _ (zt (zt A _) _) J).mono ?_
   rintro e w2 ⟨rfl,H⟩
   have L:Hid (_=_):=(zcO H).2
   obtain⟨U,c1,c2,c3,c4,c5,c6,c7,c8,c9,O,N,cf⟩:=zaq L.out
   unfold pv
   go_wp2
   refine bodyPost_ret (zas rfl _ _ (w.heap.size+1) 122 _ (0,0) _ rfl (zbb L.out) Tryz.underlying122 rfl (by kernel_rfl)) rfl ?_
   exact zea rfl HY.out Z.out (zbU (zbi H) (Nat.le_succ _) ..)
  ·unfold pv
   go_enter Tryz.func145,Tryz.ntmps145
   go_wp2_with fail
   refine (zd1 C M I j S q z d _ (zt (zt A _) _) J).mono ?_
   rintro e w2 ⟨rfl,H⟩
   have L:Hid (_=_):=(zcO H).2
   obtain⟨U,c1,c2,c3,c4,c5,c6,c7,c8,c9,O,N,cf⟩:=zaq L.out
   unfold pv
   go_wp2
   refine bodyPost_ret (zas rfl _ _ (w.heap.size+1) 122 _ (0,0) _ rfl (zbb L.out) Tryz.underlying122 rfl (by kernel_rfl)) rfl ?_
   exact zea rfl HY.out Z.out (zbU (zbi H) (Nat.le_succ _) ..)
 ·have aa:decide (0≤z)=true:=decide_eq_true (by omega)
  unfold pv
  go_enter Tryz.func145,Tryz.ntmps145
  go_wp2_with fail
  refine (zd1 C M I j S q z d _ (zt (zt A _) _) J).mono ?_
  rintro e w2 ⟨rfl,H⟩
  have L:Hid (_=_):=(zcO H).2
  obtain⟨U,c1,c2,c3,c4,c5,c6,c7,c8,c9,O,N,cf⟩:=zaq L.out
  unfold pv
  go_wp2
  refine bodyPost_ret (zas rfl _ _ (w.heap.size+1) 122 _ (0,0) _ rfl (zbb L.out) Tryz.underlying122 rfl (by kernel_rfl)) rfl ?_
  exact zea rfl HY.out Z.out (zbU (zbi H) (Nat.le_succ _) ..)
def txt (C:Cx) (q:PS):ByteArray:=(ze C q.pos).text
theorem zpW {C:Cx} {q:PS} (z:((ze C q.pos).kind==3)=true) (j:zak q.rq (txt C q)=true):zF C q= .ok (adv q,txt C q):=by
 unfold txt at j
 rw[zF,if_pos z,if_pos j];rfl
theorem zpX {C:Cx} {q:PS} (A:((ze C q.pos).kind==3)=true) (j:zak q.rq (txt C q)=false) (z:40≤q.rq.length):zF C q= .error (zu C q.pos):=by
 unfold txt at j
 rw[zF,if_pos A,j,if_pos z];rfl
theorem zpY {C:Cx} {q:PS} (A:((ze C q.pos).kind==3)=true) (j:zak q.rq (txt C q)=false) (z: ¬40≤q.rq.length):zF C q= .ok ({adv q with rq:=q.rq++[txt C q]},txt C q):=by
 unfold txt at j
 rw[zF,if_pos A,j,if_neg z];rfl
theorem zkp (C:Cx) (gt I z:Nat) (S:Sv) (q:PS) (d:Nat) (w:World) (O:Mem C gt I z S q w) (h3:((ze C q.pos).kind==3)=true) (g:Nat) (M:q.rq.length=0∨S.rq.a=some ⟨g,0,none⟩):
  Calls Tryz.prog 145 #[pv C gt I S q (-1) d] w (zdI C gt I z (zF C q) d S w):=by
 obtain⟨i0,hi,ad,ai,ah⟩:=info_parts Tryz.infoString
 have A:=zc O
 have H3:=zc h3
 have hp:q.pos<C.ts.length:=zfW h3 (by decide)
 have al:=O.few
 have aq:=O.inv.rq
 have ak:=(zav O.tok).1
 obtain⟨c0,c1,_,_⟩:=O.tok.cells hp (d:=⟨0,sNone,0,C.fin⟩)
 change _=some (Value.int .i64 (ze C q.pos).kind) at c0
 change _=some (Value.string (txt C q)) at c1
 generalize (ze C q.pos).kind=kd at c0 h3
 have ar:(kd !=3)=false:=by rw[bne,h3];rfl
 have ab:=zc M
 obtain⟨R,hR⟩: ∃R:Nat→ByteArray,∀j,R j=q.rq.getD j sNone:=⟨fun j=>q.rq.getD j sNone,fun _=>rfl⟩
 have HR:=zc hR
 have HC:Hid (∀j,j<q.rq.length→w.cell? ⟨g,j,none⟩=some (.string (R j))):=fun j V=>by
  rcases M with e|e
  ·omega
  ·rw[hR];exact A.out.own.rq.str e V
 clear hR
 generalize U:txt C q=tx at c1
 have H:=zc U
 have J:=fun o1 o2 o3=>((A.out.own.rq.alloc o1).alloc o2).alloc o3
 clear U O M
 unfold pv
 go_enter Tryz.func145,Tryz.ntmps145
 go_wp2
 go_loop [5] (fun i=>∃k:Nat,k≤q.rq.length∧i= .int .i64 k∧∀j,j<k→¬(R j).toList=tx.toList) (fun i=>(q.rq.length-intOf i).toNat)
 case atStart=>exact⟨0,Nat.zero_le _,rfl,fun j V=>absurd V (Nat.not_lt_zero j)⟩
 case round=>
  obtain⟨k,hk,rfl,X⟩:=hrel
  have Z:=zc X
  clear X
  by_cases Y:k<q.rq.length
  ·have ha:S.rq.a=some ⟨g,0,none⟩:=ab.out.elim (fun e=>by omega) id
   have an:=HC.out k Y
   have ao:=A.out.own.rq.lt ha
   cases he:((R k).toList==tx.toList) with
   |true=>
    have HS:Hid (zF C q= .ok (adv q,tx)):=by
     show zF C q= .ok (adv q,tx)
     rw[←H.out]
     exact zpW H3.out (zpS Y (by rw[←HR.out,H.out];exact he))
    have HA:=zc ha
    go_wp2
    refine bodyPost_ret (zas rfl _ _ (w.heap.size+1) 122 _ (0,0) _ rfl (new2 w _ _) Tryz.underlying122 rfl (by kernel_rfl)) rfl ?_
    rw[HS.out]
    exact zea (q':=adv q) (z':=-1) (by rw[pv,HA.out];rfl) ⟨rfl,rfl,rfl⟩ (A.out.adv hp) (zbc w _ _)
   |false=>
    have HX:Hid (∀j,j<k+1→¬(R j).toList=tx.toList):=fun j V=>by
     by_cases e:j=k
     ·rw[e];exact beq_eq_false_iff_ne.1 he
     ·exact Z.out j (by omega)
    go_wp2
    go_round
    case rel=>exact⟨k+1,by omega,by go_num,HX.out⟩
    case measure=>simp[intOf];omega
  ·have HN:Hid (zak q.rq (txt C q)=false):=zpT fun j V=>by rw[H.out,←HR.out];exact beq_eq_false_iff_ne.2 (Z.out j (by omega))
   by_cases hn:40≤q.rq.length
   ·have qn:decide ((40:Int)≤(q.rq.length:Int))=true:=decide_eq_true (by omega)
    have HS:Hid (zF C q= .error (zu C q.pos)):=zpX H3.out HN.out hn
    go_wp2_with fail
    refine (zfn C gt I z S (adv q) (-1) d _ (((A.out.adv hp).alloc _).alloc _) (by decide) (by simp[adv])).mono ?_
    rintro e w2 ⟨rfl,N⟩
    have G3:Hid (_=_):=(zcO N).2
    obtain⟨b0,b1,b2,b3,b4,b5,b6,b7,b8,b9,ag,ac,bf⟩:=zaq G3.out
    have HB:Hid (Below w.heap.size w w2):=zbi N
    clear N
    unfold pv
    go_wp2
    refine bodyPost_ret (zas rfl _ _ (w.heap.size+1) 122 _ (0,0) _ rfl (zbb G3.out) Tryz.underlying122 rfl (by kernel_rfl)) rfl ?_
    rw[HS.out]
    exact zea (q':=adv q) (z':=(zu C q.pos:Int)) rfl rfl (A.out.adv hp) (zbU HB.out (Nat.le_succ _) ..)
   ·have qn:decide ((40:Int)≤(q.rq.length:Int))=false:=decide_eq_false (by omega)
    have HS:Hid (zF C q= .ok ({adv q with rq:=q.rq++[tx]},tx)):=by
     show zF C q= .ok ({adv q with rq:=q.rq++[tx]},tx)
     rw[←H.out]
     exact zpY H3.out HN.out hn
    go_wp2_with (at_builtin;refine zcw _ rfl _ _ 22 rfl z 9 i0 _ 1 16 Tryz.underlying22 hi ad ai ah rfl (by decide) (by decide) S.rq q.rq.length _ (by rfl) (J _ _ _) (w.heap.size+1+1) [.string tx] (by rfl) (by exact (new3 w _ _ _).2.2) rfl (by intro u hu;simp at hu;subst hu;rfl) (by omega) (by have:=A.out.base;rw[zae];omega) ?_)
    intro r' w2 hr hg aa
    have aj:=zc hr
    have HG:=zc hg
    have ae:=zc aa
    have L:=fun b hb=>zeb (W:=w) A.out.own (Nat.le_refl _) (r:=S.rq.blk) (fun k e=>.inl e) b hb
    have g1:=(hg.block w.heap.size (by rw[zae];omega) (L _ (Nat.le_refl _))).trans (new3 w _ _ _).1
    have g2:=(hg.block (w.heap.size+1) (by rw[zae];omega) (L _ (by omega))).trans (new3 w _ _ _).2.1
    obtain⟨a0,a1,a2,a3,a4,a5,a6,a7,a8,a9,am,ap,af⟩:=zaq g1
    obtain⟨b0,b1,b2,b3,b4,b5,b6,b7,b8,b9,ag,ac,bf⟩:=zaq g2
    have G2:=zc g2
    clear g1 g2 hg hr aa L J
    go_wp2
    refine bodyPost_ret (zas rfl _ _ (w.heap.size+1) 122 _ (0,0) _ rfl (zbb ((zn (by omega)).trans G2.out)) Tryz.underlying122 rfl (by kernel_rfl)) rfl ?_
    obtain⟨m',s'⟩:=(A.out.adv hp).grow_rq (x:=tx) (zdj w _ _ _) HG.out aj.out (by rw[zae];exact ae.out) (((Off.refl _ _ _).set (b:=w.heap.size) (Nat.le_refl _) (by rw[zae];omega) _ _).set12 (b:=w.heap.size+1) (by omega) (by rw[zae];omega) ..) (by show q.rq.length<40;omega)
    rw[HS.out]
    exact⟨_,{adv q with rq:=q.rq++[tx]},-1,tx,by simp[pv,adv],⟨rfl,rfl,rfl⟩,m',s'⟩
theorem zel (C:Cx) (H A j:Nat) (x:PR) (S:Sv) (q:PS) (z:Int) (d:Nat) (w:World) (L:Is x q z) (J:Mem C H A j S q w):
  Calls Tryz.prog 145 #[pv C H A S q z d] w (zdI C H A j (bd x (zF C)) d S w):=by
 cases I:(decide (z<0)&&((ze C q.pos).kind==3)) with
 |false=>exact zpV C H A j x S q z d w L J I
 |true=>
  rw[Bool.and_eq_true,decide_eq_true_eq] at I
  obtain⟨rfl,rfl⟩:=zaH L I.1
  rw[zC]
  rcases J.own.rq.addr with e|⟨g,e⟩
  ·exact zkp C H A j S q d w J I.2 0 (.inl e)
  ·exact zkp C H A j S q d w J I.2 g (.inr e)
abbrev set12 (w:World) (b:Nat) (x0 x1 x2 x3 x4 x5 x6 x7 x8 x9 x10 x11:Value):World:=
 ((((((((((((w.setCell ⟨b,0,none⟩ x0).setCell ⟨b,1,none⟩ x1).setCell ⟨b,2,none⟩ x2).setCell ⟨b,3,none⟩ x3).setCell ⟨b,4,none⟩ x4).setCell ⟨b,5,none⟩ x5).setCell ⟨b,6,none⟩ x6).setCell ⟨b,7,none⟩ x7).setCell ⟨b,8,none⟩ x8).setCell ⟨b,9,none⟩ x9).setCell ⟨b,10,none⟩ x10).setCell ⟨b,11,none⟩ x11)
theorem zhS (w:World) (a:Addr) (u:Value):(w.setCell a u).heap.size=w.heap.size:=by show (w.heap.modify _ _).size=_;simp
theorem zpZ (w:World) (b:Nat) (x0 x1 x2 x3 x4 J A I z H j q:Value):(set12 w b x0 x1 x2 x3 x4 J A I z H j q).heap.size=w.heap.size:=by
 unfold set12
 simp only[zhS]
theorem zfG {w:World} {b k:Nat} (h:k≠b) (x0 x1 x2 x3 x4 J A I z H j q:Value):(set12 w b x0 x1 x2 x3 x4 J A I z H j q).heap[k]? =w.heap[k]?:=by
 unfold set12
 rw[zn h,zn h,zn h,zn h,zn h,zn h,zn h,zn h,zn h,zn h,zn h,zn h]
structure Bx (gt:Nat) (S:Sv) (w:World) (b:Nat) (cs:Array Value):Prop where
 heap:w.heap[b]? =some (.cells cs 122 (0,0))
 free: ¬S.has b
 ne:b≠gt
theorem Bx.lt {gt b:Nat} {S:Sv} {w:World} {cs:Array Value} (h:Bx gt S w b cs):b<w.heap.size:=(Array.getElem?_eq_some_iff.1 h.heap).1
theorem Bx.stp {gt b:Nat} {S S':Sv} {w w':World} {cs:Array Value} (h:Bx gt S w b cs) (k:Stp S w S' w'):Bx gt S' w' b cs:=
 ⟨(k.block b h.lt h.free).trans h.heap,fun g=>(k.sub b g).elim h.free fun j=>by have:=h.lt;omega,h.ne⟩
theorem Bx.below {gt b:Nat} {S:Sv} {w w':World} {cs:Array Value} (h:Bx gt S w b cs) (k:Below w.heap.size w w'):Bx gt S w' b cs:=⟨(k.block b h.lt).trans h.heap,h.free,h.ne⟩
theorem Bx.alloc {gt b:Nat} {S:Sv} {w:World} {cs:Array Value} (h:Bx gt S w b cs) (o:Obj):Bx gt S (w.alloc o) b cs:=h.below ((Below.refl _ _).alloc (Nat.le_refl _) _)
theorem Bx.new {C:Cx} {gt cap base:Nat} {S:Sv} {q:PS} {w:World} (h:Mem C gt cap base S q w) (cs:Array Value):Bx gt S (w.alloc (.cells cs 122 (0,0))) w.heap.size cs:=
 ⟨heap_alloc_new w _,fun g=>by have:=(h.own.has g).2;omega,by have:=(zav h.tok).1;omega⟩
theorem Bx.set {gt b:Nat} {S:Sv} {w:World} {cs:Array Value} (h:Bx gt S w b cs) (i:Nat) (u:Value):Bx gt S (w.setCell ⟨b,i,none⟩ u) b (cs.setIfInBounds i u):=⟨zcx h.heap,h.free,h.ne⟩
theorem Bx.set_other {gt b c:Nat} {S:Sv} {w:World} {cs:Array Value} (h:Bx gt S w b cs) (j:b≠c) (i:Nat) (u:Value):Bx gt S (w.setCell ⟨c,i,none⟩ u) b cs:=⟨(zn j).trans h.heap,h.free,h.ne⟩
theorem Bx.put {gt b:Nat} {S:Sv} {w:World} {v0 v1 v2 v3 v4 v5 v6 v7 v8 v9 v10 v11:Value} (h:Bx gt S w b #[v0,v1,v2,v3,v4,v5,v6,v7,v8,v9,v10,v11]) (x0 x1 x2 x3 x4 J A I z H j q:Value):
  Bx gt S (set12 w b x0 x1 x2 x3 x4 J A I z H j q) b #[x0,x1,x2,x3,x4,J,A,I,z,H,j,q]:=⟨zbb h.heap,h.free,h.ne⟩
theorem Bx.other {gt b c:Nat} {S:Sv} {w:World} {cs:Array Value} (h:Bx gt S w b cs) (H:b≠c) (x0 x1 x2 x3 x4 L A J z I j q:Value):Bx gt S (set12 w c x0 x1 x2 x3 x4 L A J z I j q) b cs:=⟨(zfG H ..).trans h.heap,h.free,h.ne⟩
theorem Bx.at1 {gt b:Nat} {S:Sv} {w:World} {v0 v1 v2 v3 v4 v5 v6 v7 v8 v9 v10 v11:Value} (h:Bx gt S w b #[v0,v1,v2,v3,v4,v5,v6,v7,v8,v9,v10,v11]) (u:Value):Bx gt S (w.setCell ⟨b,1,none⟩ u) b #[v0,u,v2,v3,v4,v5,v6,v7,v8,v9,v10,v11]:=by simpa using h.set 1 u
theorem Bx.at11 {gt b:Nat} {S:Sv} {w:World} {v0 v1 v2 v3 v4 v5 v6 v7 v8 v9 v10 v11:Value} (h:Bx gt S w b #[v0,v1,v2,v3,v4,v5,v6,v7,v8,v9,v10,v11]) (u:Value):Bx gt S (w.setCell ⟨b,11,none⟩ u) b #[v0,v1,v2,v3,v4,v5,v6,v7,v8,v9,v10,u]:=by simpa using h.set 11 u
theorem Bx.box {gt b:Nat} {S:Sv} {w:World} {v0 v1 v2 v3 v4 v5 v6 v7 v8 v9 v10 v11:Value} (h:Bx gt S w b #[v0,v1,v2,v3,v4,v5,v6,v7,v8,v9,v10,v11]):Box w b v0 v1 v2 v3 v4 v5 v6 v7 v8 v9 v10 v11:=zaq h.heap
theorem Mem.set {C:Cx} {gt cap base b:Nat} {S:Sv} {q:PS} {w:World} (h:Mem C gt cap base S q w) {cs:Array Value} (j:Bx gt S w b cs) (i:Nat) (u:Value):Mem C gt cap base S q (w.setCell ⟨b,i,none⟩ u):=
 ⟨h.own.keep fun k g=>zn (b:=k) fun e=>j.free (by rw[←e];exact g),h.inv,zbI h.tok (zn j.ne.symm),h.few,by rw[zhS];exact h.base⟩
theorem Mem.put {C:Cx} {gt cap base b:Nat} {S:Sv} {q:PS} {w:World} (h:Mem C gt cap base S q w) {cs:Array Value} (A:Bx gt S w b cs) (x0 x1 x2 x3 x4 M I L H J j z:Value):Mem C gt cap base S q (set12 w b x0 x1 x2 x3 x4 M I L H J j z):=
 ⟨h.own.keep fun k g=>zfG (k:=k) (fun e=>A.free (by rw[←e];exact g)) _ _ _ _ _ _ _ _ _ _ _ _,h.inv,zbI h.tok (zfG A.ne.symm ..),h.few,by rw[zpZ];exact h.base⟩
structure SB (B:Nat) (S:Sv) (w:World) (S':Sv) (w':World):Prop where
 os:w'.os=w.os
 tape:w'.tape=w.tape
 output:w'.output=w.output
 size:w.heap.size≤w'.heap.size
 low:B≤w.heap.size
 block: ∀k,k<B→¬S.has k→w'.heap[k]? =w.heap[k]?
 sub: ∀k,S'.has k→S.has k∨B≤k
theorem SB.start {S:Sv} {w w':World} (h:Below w.heap.size w w'):SB w.heap.size S w S w':=⟨h.os,h.tape,h.output,h.size,Nat.le_refl _,fun k j _=>h.block k j,fun _ g=>.inl g⟩
theorem SB.step {B:Nat} {S S1 q:Sv} {w w1 z:World} (h:SB B S w S1 w1) (k:Stp S1 w1 q z):SB B S w q z:=
 ⟨k.os.trans h.os,k.tape.trans h.tape,k.output.trans h.output,Nat.le_trans h.size k.size,h.low,
  fun i j A=>(k.block i (by have:=h.size;have:=h.low;omega) fun g=>(h.sub i g).elim A fun H=>by omega).trans (h.block i j A),
  fun i j=>(k.sub i j).elim (h.sub i) fun g=>.inr (by have:=h.size;have:=h.low;omega)⟩
theorem SB.below {B:Nat} {S S1:Sv} {w w1 j:World} (h:SB B S w S1 w1) (k:Below w1.heap.size w1 j):SB B S w S1 j:=h.step (Stp.below k)
theorem SB.alloc {B:Nat} {S S1:Sv} {w w1:World} (h:SB B S w S1 w1) (o:Obj):SB B S w S1 (w1.alloc o):=h.below ((Below.refl _ _).alloc (Nat.le_refl _) _)
theorem SB.set {B:Nat} {S S1:Sv} {w w1:World} (h:SB B S w S1 w1) {b:Nat} (z:B≤b) (i:Nat) (u:Value):SB B S w S1 (w1.setCell ⟨b,i,none⟩ u):=
 ⟨h.os,h.tape,h.output,by rw[zhS];exact h.size,h.low,fun k j q=>(zn (by omega)).trans (h.block k j q),h.sub⟩
theorem SB.put {B:Nat} {S S1:Sv} {w w1:World} (h:SB B S w S1 w1) {b:Nat} (j:B≤b) (x0 x1 x2 x3 x4 L H J A I q z:Value):SB B S w S1 (set12 w1 b x0 x1 x2 x3 x4 L H J A I q z):=
 (((((((((((h.set j 0 x0).set j 1 x1).set j 2 x2).set j 3 x3).set j 4 x4).set j 5 L).set j 6 H).set j 7 J).set j 8 A).set j 9 I).set j 10 q).set j 11 z
theorem SB.done {S S1:Sv} {w w1:World} (h:SB w.heap.size S w S1 w1):Stp S w S1 w1:=⟨h.os,h.tape,h.output,h.size,h.block,h.sub⟩
theorem Mem.two {C:Cx} {gt cap base:Nat} {S:Sv} {q:PS} {w w1:World} {j cb:Array Value} (h:Mem C gt cap base S q w) (z:Below ((w.alloc (.cells j 122 (0,0))).alloc (.cells cb 122 (0,0))).heap.size ((w.alloc (.cells j 122 (0,0))).alloc (.cells cb 122 (0,0))) w1):
  Bx gt S w1 w.heap.size j∧Bx gt S w1 (w.heap.size+1) cb∧Mem C gt cap base S q w1∧SB w.heap.size S w S w1:=
 ⟨((Bx.new h _).alloc _).below z,by have:=(Bx.new (h.alloc (.cells j 122 (0,0))) cb).below z;rw[zl] at this;exact this,h.later (zbi z),SB.start (zbi z)⟩
theorem Mem.two2 {C:Cx} {gt cap base:Nat} {S S1:Sv} {q:PS} {w w1:World} {j cb:Array Value} (h:Mem C gt cap base S q w) (s:Stp S ((w.alloc (.cells j 122 (0,0))).alloc (.cells cb 122 (0,0))) S1 w1):
  Bx gt S1 w1 w.heap.size j∧Bx gt S1 w1 (w.heap.size+1) cb∧SB w.heap.size S w S1 w1:=
 ⟨((Bx.new h _).alloc _).stp s,by have:=(Bx.new (h.alloc (.cells j 122 (0,0))) cb).stp s;rw[zl] at this;exact this,(SB.start (zbc w _ _)).step s⟩
theorem Bx.boxC {gt b:Nat} {S:Sv} {w:World} {v0 v1 v2 v3 v4 v5 v6 v7 v8 v9 v10 v11:Value} (h:Bx gt S w b #[v0,v1,v2,v3,v4,v5,v6,v7,v8,v9,v10,v11]):w.cell? ⟨b,0,none⟩=some v0∧w.cell? ⟨b,1,none⟩=some v1∧w.cell? ⟨b,2,none⟩=some v2∧w.cell? ⟨b,3,none⟩=some v3∧w.cell? ⟨b,4,none⟩=some v4∧w.cell? ⟨b,5,none⟩=some v5∧w.cell? ⟨b,6,none⟩=some v6∧w.cell? ⟨b,7,none⟩=some v7∧w.cell? ⟨b,8,none⟩=some v8∧w.cell? ⟨b,9,none⟩=some v9∧w.cell? ⟨b,10,none⟩=some v10∧w.cell? ⟨b,11,none⟩=some v11∧∀i,w.frozen? ⟨b,i,none⟩=false:=
 have k:=h.box
 ⟨k.c0,k.c1,k.c2,k.c3,k.c4,k.c5,k.c6,k.c7,k.c8,k.c9,k.c10,k.c11,k.fz⟩
theorem Bx.ret {gt b:Nat} {S:Sv} {w:World} {v0 v1 v2 v3 v4 v5 v6 v7 v8 v9 v10 v11:Value} (h:Bx gt S w b #[v0,v1,v2,v3,v4,v5,v6,v7,v8,v9,v10,v11]) {j:Func} {p:Tmp} {tmps:Array Value} {R:Ending→World→Prop} (A:j.results= #[.cell p 122]) (q:tmps.getD p undef= .pointer (some ⟨b,0,none⟩)) (z:R (.returned (.agg #[v0,v1,v2,v3,v4,v5,v6,v7,v8,v9,v10,v11])) w):bodyPost Tryz.prog j R .ret {tmps:=tmps,defers:=[]} w:=
 bodyPost_ret (results_cell_row A _ _ b 122 _ (0,0) _ q h.heap Tryz.underlying122 rfl (by kernel_rfl)) rfl z
structure Fm (C:Cx) (gt cap base:Nat) (S0:Sv) (w0:World) (S:Sv) (q:PS) (bs:List (Nat×Array Value)) (w:World):Prop where
 x: ∀b∈bs,Bx gt S w b.1 b.2
 d:bs.Pairwise fun a b=>a.1≠b.1
 g: ∀b∈bs,w0.heap.size≤b.1
 m:Mem C gt cap base S q w
 t:SB w0.heap.size S0 w0 S w
section
variable {C:Cx} {gt cap base b b0 b1 b2 b3:Nat} {S0 S S1:Sv} {w0 w w1:World} {q q1:PS} {bs l1:List (Nat×Array Value)} {cs c0 c1 c2 c3:Array Value} {v0 v1 v2 v3 v4 v5 v6 v7 v8 v9 v10 v11:Value}
theorem Fm.x0 (F:Fm C gt cap base S0 w0 S q ((b0,c0)::bs) w):Bx gt S w b0 c0:=F.x _ (List.mem_cons_self ..)
theorem Fm.x1 (F:Fm C gt cap base S0 w0 S q ((b0,c0)::(b1,c1)::bs) w):Bx gt S w b1 c1:=F.x (b1,c1) (by simp)
theorem Fm.x2 (F:Fm C gt cap base S0 w0 S q ((b0,c0)::(b1,c1)::(b2,c2)::bs) w):Bx gt S w b2 c2:=F.x (b2,c2) (by simp)
theorem Fm.x3 (F:Fm C gt cap base S0 w0 S q ((b0,c0)::(b1,c1)::(b2,c2)::(b3,c3)::bs) w):Bx gt S w b3 c3:=F.x (b3,c3) (by simp)
theorem Fm.below (F:Fm C gt cap base S0 w0 S q bs w) (k:Below w.heap.size w w1):Fm C gt cap base S0 w0 S q bs w1:=⟨fun b h=>(F.x b h).below k,F.d,F.g,F.m.later k,F.t.below k⟩
theorem Fm.stp (F:Fm C gt cap base S0 w0 S q bs w) (m:Mem C gt cap base S1 q1 w1) (k:Stp S w S1 w1):Fm C gt cap base S0 w0 S1 q1 bs w1:=⟨fun b h=>(F.x b h).stp k,F.d,F.g,m,F.t.step k⟩
theorem Fm.alloc (F:Fm C gt cap base S0 w0 S q bs w) (o:Obj):Fm C gt cap base S0 w0 S q bs (w.alloc o):=F.below ((Below.refl _ _).alloc (Nat.le_refl _) _)
theorem Fm.adv (F:Fm C gt cap base S0 w0 S q bs w) (h:q.pos<C.ts.length):Fm C gt cap base S0 w0 S (adv q) bs w:=⟨F.x,F.d,F.g,F.m.adv h,F.t⟩
theorem Fm.new (F:Fm C gt cap base S0 w0 S q bs w) (cs:Array Value):Fm C gt cap base S0 w0 S q (bs++[(w.heap.size,cs)]) (w.alloc (.cells cs 122 (0,0))):=by
 refine⟨fun b h=>?_,?_,fun b h=>?_,F.m.alloc _,F.t.alloc _⟩
 ·rcases List.mem_append.1 h with h|h
  ·exact (F.x b h).alloc _
  ·rw[List.mem_singleton.1 h];exact Bx.new F.m cs
 ·refine List.pairwise_append.2 ⟨F.d,List.pairwise_singleton _ _,fun a j b z=>?_⟩
  rw[List.mem_singleton.1 z]
  exact Nat.ne_of_lt (F.x a j).lt
 ·rcases List.mem_append.1 h with h|h
  ·exact F.g b h
  ·rw[List.mem_singleton.1 h];exact F.t.size
theorem Fm.new2 (F:Fm C gt cap base S0 w0 S q [(b0,c0),(b1,c1)] w) (cs:Array Value):Fm C gt cap base S0 w0 S q [(b0,c0),(b1,c1),(w.heap.size,cs)] (w.alloc (.cells cs 122 (0,0))):=F.new cs
theorem Fm.new3 (F:Fm C gt cap base S0 w0 S q [(b0,c0),(b1,c1),(b2,c2)] w) (cs:Array Value):Fm C gt cap base S0 w0 S q [(b0,c0),(b1,c1),(b2,c2),(w.heap.size,cs)] (w.alloc (.cells cs 122 (0,0))):=F.new cs
theorem Fm.turn (F:Fm C gt cap base S0 w0 S q (l1++(b,cs)::bs) w) (O:Bx gt S w1 b c0) (A: ∀k,k≠b→∀c,Bx gt S w k c→Bx gt S w1 k c) (I:Mem C gt cap base S q w1) (N:SB w0.heap.size S0 w0 S w1):Fm C gt cap base S0 w0 S q (l1++(b,c0)::bs) w1:=by
 obtain⟨L,J,j⟩:=List.pairwise_append.1 F.d
 obtain⟨z,M⟩:=List.pairwise_cons.1 J
 refine⟨fun a h=>?_,List.pairwise_append.2 ⟨L,List.pairwise_cons.2 ⟨z,M⟩,fun a H c U=>?_⟩,fun a h=>?_,I,N⟩
 ·rcases List.mem_append.1 h with h|h
  ·exact A _ (j a h _ (List.mem_cons_self ..)) _ (F.x a (List.mem_append_left _ h))
  ·rcases List.mem_cons.1 h with h|h
   ·rw[h];exact O
   ·exact A _ (z a h).symm _ (F.x a (List.mem_append_right _ (List.mem_cons_of_mem _ h)))
 ·rcases List.mem_cons.1 U with h|h
  ·rw[h];exact j a H (b,cs) (List.mem_cons_self ..)
  ·exact j a H c (List.mem_cons_of_mem _ h)
 ·rcases List.mem_append.1 h with h|h
  ·exact F.g a (List.mem_append_left _ h)
  ·rcases List.mem_cons.1 h with h|h
   ·rw[h];exact F.g (b,cs) (List.mem_append_right _ (List.mem_cons_self ..))
   ·exact F.g a (List.mem_append_right _ (List.mem_cons_of_mem _ h))
theorem Fm.put (F:Fm C gt cap base S0 w0 S q (l1++(b,#[v0,v1,v2,v3,v4,v5,v6,v7,v8,v9,v10,v11])::bs) w) (x0 x1 x2 x3 x4 L H J A I j z:Value):Fm C gt cap base S0 w0 S q (l1++(b,#[x0,x1,x2,x3,x4,L,H,J,A,I,j,z])::bs) (set12 w b x0 x1 x2 x3 x4 L H J A I j z):=
 have h:Bx gt S w b #[v0,v1,v2,v3,v4,v5,v6,v7,v8,v9,v10,v11]:=F.x (b,_) (List.mem_append_right _ (List.mem_cons_self ..))
 F.turn (h.put ..) (fun _ M _ N=>N.other M ..) (F.m.put h ..) (F.t.put (F.g (b,_) (List.mem_append_right _ (List.mem_cons_self ..))) ..)
theorem Fm.put0 (F:Fm C gt cap base S0 w0 S q ((b,#[v0,v1,v2,v3,v4,v5,v6,v7,v8,v9,v10,v11])::bs) w) (x0 x1 x2 x3 x4 L H J A I j z:Value):Fm C gt cap base S0 w0 S q ((b,#[x0,x1,x2,x3,x4,L,H,J,A,I,j,z])::bs) (set12 w b x0 x1 x2 x3 x4 L H J A I j z):=Fm.put (l1:=[]) F ..
theorem Fm.put1 (F:Fm C gt cap base S0 w0 S q ((b0,c0)::(b,#[v0,v1,v2,v3,v4,v5,v6,v7,v8,v9,v10,v11])::bs) w) (x0 x1 x2 x3 x4 L H J A I j z:Value):Fm C gt cap base S0 w0 S q ((b0,c0)::(b,#[x0,x1,x2,x3,x4,L,H,J,A,I,j,z])::bs) (set12 w b x0 x1 x2 x3 x4 L H J A I j z):=Fm.put (l1:=[(b0,c0)]) F ..
theorem Fm.put2 (F:Fm C gt cap base S0 w0 S q ((b0,c0)::(b1,c1)::(b,#[v0,v1,v2,v3,v4,v5,v6,v7,v8,v9,v10,v11])::bs) w) (x0 x1 x2 x3 x4 L H J A I j z:Value):Fm C gt cap base S0 w0 S q ((b0,c0)::(b1,c1)::(b,#[x0,x1,x2,x3,x4,L,H,J,A,I,j,z])::bs) (set12 w b x0 x1 x2 x3 x4 L H J A I j z):=Fm.put (l1:=[(b0,c0),(b1,c1)]) F ..
theorem Fm.put3 (F:Fm C gt cap base S0 w0 S q ((b0,c0)::(b1,c1)::(b2,c2)::(b,#[v0,v1,v2,v3,v4,v5,v6,v7,v8,v9,v10,v11])::bs) w) (x0 x1 x2 x3 x4 L H J A I j z:Value):Fm C gt cap base S0 w0 S q ((b0,c0)::(b1,c1)::(b2,c2)::(b,#[x0,x1,x2,x3,x4,L,H,J,A,I,j,z])::bs) (set12 w b x0 x1 x2 x3 x4 L H J A I j z):=Fm.put (l1:=[(b0,c0),(b1,c1),(b2,c2)]) F ..
theorem Fm.set0_1 (F:Fm C gt cap base S0 w0 S q ((b,#[v0,v1,v2,v3,v4,v5,v6,v7,v8,v9,v10,v11])::bs) w) (u:Value):Fm C gt cap base S0 w0 S q ((b,#[v0,u,v2,v3,v4,v5,v6,v7,v8,v9,v10,v11])::bs) (w.setCell ⟨b,1,none⟩ u):=
 have h:Bx gt S w b #[v0,v1,v2,v3,v4,v5,v6,v7,v8,v9,v10,v11]:=F.x (b,_) (by simp)
 Fm.turn (l1:=[]) F (h.at1 u) (fun _ z _ j=>j.set_other z 1 u) (F.m.set h 1 u) (F.t.set (F.g (b,#[v0,v1,v2,v3,v4,v5,v6,v7,v8,v9,v10,v11]) (by simp)) 1 u)
theorem Fm.set0_11 (F:Fm C gt cap base S0 w0 S q ((b,#[v0,v1,v2,v3,v4,v5,v6,v7,v8,v9,v10,v11])::bs) w) (u:Value):Fm C gt cap base S0 w0 S q ((b,#[v0,v1,v2,v3,v4,v5,v6,v7,v8,v9,v10,u])::bs) (w.setCell ⟨b,11,none⟩ u):=
 have h:Bx gt S w b #[v0,v1,v2,v3,v4,v5,v6,v7,v8,v9,v10,v11]:=F.x (b,_) (by simp)
 Fm.turn (l1:=[]) F (h.at11 u) (fun _ z _ j=>j.set_other z 11 u) (F.m.set h 11 u) (F.t.set (F.g (b,#[v0,v1,v2,v3,v4,v5,v6,v7,v8,v9,v10,v11]) (by simp)) 11 u)
theorem Fm.set2_1 (F:Fm C gt cap base S0 w0 S q ((b0,c0)::(b1,c1)::(b,#[v0,v1,v2,v3,v4,v5,v6,v7,v8,v9,v10,v11])::bs) w) (u:Value):Fm C gt cap base S0 w0 S q ((b0,c0)::(b1,c1)::(b,#[v0,u,v2,v3,v4,v5,v6,v7,v8,v9,v10,v11])::bs) (w.setCell ⟨b,1,none⟩ u):=
 have h:Bx gt S w b #[v0,v1,v2,v3,v4,v5,v6,v7,v8,v9,v10,v11]:=F.x (b,_) (by simp)
 Fm.turn (l1:=[(b0,c0),(b1,c1)]) F (h.at1 u) (fun _ z _ j=>j.set_other z 1 u) (F.m.set h 1 u) (F.t.set (F.g (b,#[v0,v1,v2,v3,v4,v5,v6,v7,v8,v9,v10,v11]) (by simp)) 1 u)
theorem Fm.of2 (x0:Bx gt S w b0 c0) (x1:Bx gt S w b1 c1) (m:Mem C gt cap base S q w) (t:SB w0.heap.size S0 w0 S w) (h:b0≠b1) (z:w0.heap.size≤b0) (A:w0.heap.size≤b1):Fm C gt cap base S0 w0 S q [(b0,c0),(b1,c1)] w:=by
 refine⟨fun b j=>?_,by simp[h],fun b j=>?_,m,t⟩
 ·simp at j
  rcases j with rfl|rfl
  ·exact x0
  ·exact x1
 ·simp at j
  rcases j with rfl|rfl
  ·exact z
  ·exact A
theorem Fm.cut {P:Program} {j:Code} {Q:Exit→Act→World→Prop} {a:Act} (F:Fm C gt cap base S0 w0 S q bs w) (h: ∀W,Fm C gt cap base S0 w0 S q bs W→Code.wp P j Q a W):Code.wp P j Q a w:=h w F
theorem Fm.cutR {P:Program} {j:Code} {Q:Exit→Act→World→Prop} {a:Act} {RW:World→Prop} (F:Fm C gt cap base S0 w0 S q bs w) (r:RW w) (h: ∀W,Fm C gt cap base S0 w0 S q bs W→RW W→Code.wp P j Q a W):Code.wp P j Q a w:=h w F r
theorem Mem.fm {j cb:Array Value} (h:Mem C gt cap base S q w) (z:Below ((w.alloc (.cells j 122 (0,0))).alloc (.cells cb 122 (0,0))).heap.size ((w.alloc (.cells j 122 (0,0))).alloc (.cells cb 122 (0,0))) w1):Fm C gt cap base S w S q [(w.heap.size,j),(w.heap.size+1,cb)] w1:=
 have⟨h1,h2,h3,h4⟩:=h.two z
 Fm.of2 h1 h2 h3 h4 (by omega) (by omega) (by omega)
theorem Mem.fm2 {j cb:Array Value} (h:Mem C gt cap base S q w) (m:Mem C gt cap base S1 q1 w1) (s:Stp S ((w.alloc (.cells j 122 (0,0))).alloc (.cells cb 122 (0,0))) S1 w1):Fm C gt cap base S w S1 q1 [(w.heap.size,j),(w.heap.size+1,cb)] w1:=
 have⟨h1,h2,h3⟩:=h.two2 s
 Fm.of2 h1 h2 m h3 (by omega) (by omega) (by omega)
end
theorem zkq {C:Cx} {gt cap base:Nat} {y:PR} {d:Nat} {S S':Sv} {w w':World} {q':PS} {z':Int} {v:Value} (q:v=pv C gt cap S' q' z' d) (A:Is y q' z') (z:Mem C gt cap base S' q' w') (j:SB w.heap.size S w S' w'):Out C gt cap base y d S w (.returned v) w':=
 ⟨S',q',z',by rw[q],A,z,j.done⟩
theorem Fm.done {C:Cx} {gt cap base:Nat} {y:PR} {d:Nat} {S S':Sv} {w w':World} {q':PS} {z':Int} {v:Value} {bs:List (Nat×Array Value)} (F:Fm C gt cap base S w S' q' bs w') (j:v=pv C gt cap S' q' z' d) (q:Is y q' z'):Out C gt cap base y d S w (.returned v) w':=zkq j q F.m F.t
structure Row (S:Sv) (w:World) (base B:Nat) (r:Rw) (l:List Ep):Prop where
 own:OwnR w base 86 4 r l.length (l.flatMap epL)
 free: ∀k,r.blk=some k→¬S.has k
 new: ∀k,r.blk=some k→B≤k
 addr: ∃g,r.a=some ⟨g,0,none⟩
theorem Row.ne {H b:Nat} {S:Sv} {w:World} {j B:Nat} {r:Rw} {l:List Ep} {z:Array Value} (h:Row S w j B r l) (A:Bx H S w b z): ∀k,r.blk=some k→k≠b:=by
 rintro k q rfl
 obtain⟨_,_,c,g⟩:=h.own.typed q
 rw[A.heap] at g
 simp only[Option.some.injEq,Obj.cells.injEq] at g
 exact absurd g.2.1 (by decide)
theorem Row.stp {S S':Sv} {w w':World} {j B:Nat} {r:Rw} {l:List Ep} (h:Row S w j B r l) (s:Stp S w S' w'):Row S' w' j B r l:=
 ⟨h.own.keep fun k q=>s.block k (h.own.typed q).2.1 (h.free k q),fun k q g=>(s.sub k g).elim (h.free k q) fun z=>by have:=(h.own.typed q).2.1;omega,h.new,h.addr⟩
theorem Row.below {S:Sv} {w w':World} {j B:Nat} {r:Rw} {l:List Ep} (h:Row S w j B r l) (s:Below w.heap.size w w'):Row S w' j B r l:=h.stp (Stp.below s)
theorem Row.alloc {S:Sv} {w:World} {j B:Nat} {r:Rw} {l:List Ep} (h:Row S w j B r l) (o:Obj):Row S (w.alloc o) j B r l:=h.below ((Below.refl _ _).alloc (Nat.le_refl _) _)
theorem Row.drew {S:Sv} {w:World} {j B:Nat} {r:Rw} {l:List Ep} (h:Row S w j B r l):Row S w.drew j B r l:=⟨h.own,h.free,h.new,h.addr⟩
theorem Row.set {H b:Nat} {S:Sv} {w:World} {j B:Nat} {r:Rw} {l:List Ep} {z:Array Value} (h:Row S w j B r l) (A:Bx H S w b z) (i:Nat) (u:Value):Row S (w.setCell ⟨b,i,none⟩ u) j B r l:=
 ⟨h.own.keep fun k q=>zn (h.ne A k q),h.free,h.new,h.addr⟩
theorem Row.put {N b:Nat} {S:Sv} {w:World} {j B:Nat} {r:Rw} {l:List Ep} {I:Array Value} (h:Row S w j B r l) (M:Bx N S w b I) (x0 x1 x2 x3 x4 U L O J A q z:Value):Row S (set12 w b x0 x1 x2 x3 x4 U L O J A q z) j B r l:=
 ⟨h.own.keep fun k H=>zfG (h.ne M k H) _ _ _ _ _ _ _ _ _ _ _ _,h.free,h.new,h.addr⟩
theorem Row.nil {C:Cx} {H A j B:Nat} {S:Sv} {q:PS} {w:World} (h:Mem C H A j S q w) (I:B≤w.heap.size):Row S (w.alloc (.cells #[] 86 (0,0))) j B ⟨some ⟨w.heap.size,0,none⟩,0⟩ []:=by
 refine⟨World.ownsRow_lit w #[] 0 h.base (by unfold maxLen;omega) rfl,fun k z g=>?_,fun k z=>?_,⟨_,rfl⟩⟩
 ·simp only[Rw.blk,Value.ownBlock,Option.some.injEq] at z
  have:=(h.own.has g).2
  omega
 ·simp only[Rw.blk,Value.ownBlock,Option.some.injEq] at z
  omega
theorem Row.grow {C:Cx} {M I j B:Nat} {S:Sv} {q:PS} {W w':World} {r L:Rw} {l:List Ep} {x:Ep} (h:Row S W j B r l) (H:Mem C M I j S q W) (Z:B≤W.heap.size) (V:W.grownBy w' r.blk) (U:OwnR w' j 86 4 L (l.length+1) (l.flatMap epL++epL x)) (J:L.blk=r.blk∨L.blk=some W.heap.size):
  Row S w' j B L (l++[x])∧Mem C M I j S q w':=by
 refine⟨⟨?_,fun k A g=>?_,fun k A=>?_,U.addr.resolve_left (by omega)⟩,?_⟩
 ·have e:(l++[x]).length=l.length+1:=by simp
  rw[e]
  simpa using U
 ·rcases J with e|e
  ·exact h.free k (by rw[←e];exact A) g
  ·have X:W.heap.size=k:=Option.some.inj (e.symm.trans A)
   have:=(H.own.has g).2
   omega
 ·rcases J with e|e
  ·exact h.new k (by rw[←e];exact A)
  ·have X:W.heap.size=k:=Option.some.inj (e.symm.trans A)
   omega
 ·have z: ∀k,k<W.heap.size→r.blk≠some k→w'.heap[k]? =W.heap[k]?:=fun k A N=>V.block k A fun e=>N e.symm
  refine⟨H.own.keep fun k A=>z k (H.own.has A).2 fun e=>h.free k e A,H.inv,zbI H.tok (z M (zav H.tok).1 fun e=>?_),H.few,Nat.le_trans H.base V.size⟩
  obtain⟨_,_,c,g⟩:=h.own.typed e
  obtain⟨Y,O⟩:=zgc H.tok
  rw[g] at O
  simp only[Option.some.injEq,Obj.cells.injEq] at O
  exact absurd O.2.1 (by decide)
theorem Row.bx {z b:Nat} {S:Sv} {W w':World} {q B:Nat} {r:Rw} {l:List Ep} {A:Array Value} (h:Row S W q B r l) (j:Bx z S W b A) (H:W.grownBy w' r.blk):Bx z S w' b A:=
 ⟨(H.block b j.lt fun e=>h.ne j b e.symm rfl).trans j.heap,j.free,j.ne⟩
theorem Row.sb {S S0:Sv} {w W w':World} {q:Nat} {B:Nat} {r:Rw} {l:List Ep} (h:Row S W q B r l) (j:SB B S0 w S W) (z:W.grownBy w' r.blk):SB B S0 w S w':=
 ⟨z.os.trans j.os,z.tape.trans j.tape,z.output.trans j.output,Nat.le_trans j.size z.size,j.low,fun k A H=>(z.block k (by have:=j.size;have:=j.low;omega) fun e=>by have:=h.new k e.symm;omega).trans (j.block k A H),j.sub⟩
theorem Mem.list3 {C:Cx} {J I j:Nat} {S A:Sv} {q:PS} {w z:World} {H cb:Array Value} (h:Mem C J I j S q w) (s:Stp S (((w.alloc (.cells H 122 (0,0))).alloc (.cells cb 122 (0,0))).alloc (.cells #[] 86 (0,0))) A z):
  Bx J A z w.heap.size H∧Bx J A z (w.heap.size+1) cb∧Row A z j w.heap.size ⟨some ⟨w.heap.size+1+1,0,none⟩,0⟩ []∧SB w.heap.size S w A z:=by
 refine⟨(((Bx.new h _).alloc _).alloc _).stp s,?_,?_,(SB.start (zdj w _ _ _)).step s⟩
 ·have:=((Bx.new (h.alloc (.cells H 122 (0,0))) cb).alloc (.cells #[] 86 (0,0))).stp s
  rw[zl] at this
  exact this
 ·have:=(Row.nil (B:=w.heap.size) ((h.alloc (.cells H 122 (0,0))).alloc (.cells cb 122 (0,0))) (zbc w _ _).size).stp s
  rw[zcQ] at this
  exact this
def Is3 (y:PRL) (q:PS) (z:Int) (l:List Ep):Prop:=
 match y with
 | .ok a=>q=a.1∧z= -1∧l=a.2
 | .error e=>z=(e:Int)
def zqa (C:Cx) (gt cap base:Nat) (y:PRL) (d:Nat) (S:Sv) (w:World) (e:Ending) (w':World):Prop:=
 ∃S' q' z' r l,e= .returned (.tuple #[pv C gt cap S' q' z' d,.slice r.a l.length r.cap,.bool (zaF l)])∧Is3 y q' z' l∧Mem C gt cap base S' q' w'∧Stp S w S' w'∧Row S' w' base w.heap.size r l∧l.length≤4001
theorem zkr (l:List Ep) (x:Ep):zaF (l++[x])=(zaF l||(x.loc.toList==[100,101,102,97,117,108,116])):=by simp[zaF]
theorem zqb {q:Func} {p u v:Tmp} {z:TypeId} (h:q.results= #[.cell p z,.tmp u,.tmp v]) (tmps:Array Value) (P:Program) (w:World):
  (results q tmps).run P w=((asAddr (tmps.getD p undef)).run P w).andThen fun a w'=>((loadVar z a).run P w').andThen fun x j=>.ok (.tuple #[x,tmps.getD u undef,tmps.getD v undef]) j:=by
 simp only[results,h]
 simp[Sem.run_bind,Result.andThen]
theorem zks {P:Program} {z:Func} {p u v:Tmp} {q:TypeId} (h:z.results= #[.cell p q,.tmp u,.tmp v]) (tmps:Array Value) (w:World) (g:Nat) (t:TypeId) (j:Array Value) (A:Nat×Nat) (d:TypeDesc)
  (I:tmps.getD p undef= .pointer (some ⟨g,0,none⟩)) (L:w.heap[g]? =some (.cells j t A))
  (J:P.underlying q=some d) (H:(match d with| .struct _| .array _ _=>true|_=>false)=true) (M:(P.info? q).map (·.size)=some j.size):
  (results z tmps).run P w= .ok (.tuple #[.agg j,tmps.getD u undef,tmps.getD v undef]) w:=by
 rw[zqb h,I]
 simp[asAddr,Result.andThen,run_loadVar_row w g t q j A d L J H M]
theorem zbx {C:Cx} {x:PR} {k:Int} {s:ByteArray} {q:PS} {z:Int} (h:Is (bd x (zd C k s)) q z):z<0→1≤q.pos:=by
 intro A
 obtain⟨e,_⟩:=zaH h A
 obtain⟨a,_,j⟩:=zf e
 obtain⟨rfl,_⟩:=zbL j
 simp[adv]
theorem zhT (C:Cx) (H z j:Nat) (S:Sv) (q:PS) (d:Nat) (nm:ByteArray) (w:World) (U:Mem C H z j S q w) (hp:1≤q.pos):
  Calls Tryz.prog 202 #[pv C H z S q (-1) d,.string nm] w (Out C H z j (zbp C nm q) d S w):=by
 have HM:=zc U
 have A:=U.tok
 have I:=U.few
 clear U
 cases O:isT C q.pos 4 zr with
 |true=>
  have Z:Hid (zbp C nm q=bd (bd (bd (.ok q) (zd C 4 zr)) (zd C 4 za8)) (zQ C ⟨3,0,nm,sNone,0,0⟩)):=if_pos O
  unfold pv
  go_enter Tryz.func202,Tryz.ntmps202
  go_wp2_with fail
  refine (zj C H z j S q (-1) d 4 zr _ (zt (zt A _) _) I (by decide)).mono ?_
  rintro e w1 ⟨rfl,L⟩
  rw[O]
  have F:=HM.out.fm L
  clear A
  have M:=F.x0.boxC
  go_wp2_with fail
  refine (zah C H z j (.ok q) S q (-1) d zr _ (zab q) F.m).mono ?_
  rintro e w2 ⟨S2,q2,z2,rfl,J,V,X⟩
  replace F:=F.stp V X
  clear M
  go_wp2_with fail
  refine (zah C H z j _ S2 q2 z2 d za8 _ J.out F.m).mono ?_
  rintro e w3 ⟨S3,q3,z3,rfl,N,m3,s3⟩
  replace F:=F.stp m3 s3
  have M:=F.x0.boxC
  unfold pv
  go_wp2_with fail
  refine (zdk C H z j _ S3 q3 z3 d ⟨3,0,nm,sNone,0,0⟩ _ N.out (F.put0 ..).m (zbx N.out)).mono ?_
  rintro e w4 ⟨S4,q4,z4,rfl,Y,m4,s4⟩
  replace F:=(F.put0 ..).stp m4 s4
  clear M
  have bb:=F.x1.boxC
  unfold pv
  go_wp2
  refine (F.x1.put ..).ret rfl rfl ?_
  rw[Z.out]
  exact (F.put1 ..).done rfl Y.out
 |false=>
  have Z:Hid (zbp C nm q=bd (.ok q) (zQ C ⟨2,0,nm,sNone,0,0⟩)):=by show zbp C nm q=_;rw[zbp,O];rfl
  unfold pv
  go_enter Tryz.func202,Tryz.ntmps202
  go_wp2_with fail
  refine (zj C H z j S q (-1) d 4 zr _ (zt (zt A _) _) I (by decide)).mono ?_
  rintro e w1 ⟨rfl,L⟩
  rw[O]
  have F:=HM.out.fm L
  clear A
  have M:=F.x0.boxC
  go_wp2_with fail
  refine (zdk C H z j (.ok q) S q (-1) d ⟨2,0,nm,sNone,0,0⟩ _ (zab q) F.m (fun _=>hp)).mono ?_
  rintro e w2 ⟨S2,q2,z2,rfl,J,V,X⟩
  replace F:=F.stp V X
  clear M
  have bb:=F.x1.boxC
  unfold pv
  go_wp2
  refine (F.x1.put ..).ret rfl rfl ?_
  rw[Z.out]
  exact (F.put1 ..).done rfl J.out
theorem zqc {C:Cx} {q:Bool} {l:List Ep} {Y:PRN} {N H:ByteArray} {V U A:PS} {Z L J:Int} (X:Is2 Y V Z N) (z:Is2 (bd Y (asP C q)) U L H) (M:(decide (L<0)&&isT C U.pos 4 zbF)=false) (j:Is (bd (zaR (bd Y (asP C q))) (zd C 4 zb2)) A J):
  Is3 (bd Y fun a=>bd (asP C q a) fun b=>if isT C b.1.pos 4 zbF then za5 C q (adv b.1) (l++[⟨0,b.2,a.2,sNone⟩]) else bd (zd C 4 zb2 b.1) fun q'=>.ok (q',l++[⟨0,b.2,a.2,sNone⟩])) A J (l++[⟨0,H,N,sNone⟩]):=by
 cases Y with
 |error e=>exact j
 |ok a=>
  obtain⟨_,_,rfl⟩:=X
  rw[zC] at z j ⊢
  cases O:asP C q a with
  |error e=>rw[O] at j;exact j
  |ok b=>
   rw[O] at z j
   obtain⟨rfl,rfl,rfl⟩:=z
   rw[Bool.and_eq_false_iff] at M
   rw[zC,M.resolve_left (by decide)]
   have e:bd (zaR (.ok b)) (zd C 4 zb2)=zd C 4 zb2 b.1:=rfl
   rw[e] at j
   show Is3 (bd (zd C 4 zb2 b.1) _) _ _ _
   cases I:zd C 4 zb2 b.1 with
   |error e=>rw[I] at j;exact j
   |ok c=>rw[I] at j;exact⟨j.1,j.2,rfl⟩
theorem zqd {C:Cx} {z:Bool} {l:List Ep} {A U I:PS} {O N:ByteArray} {X H:Int} (L:Is2 (bd (.ok A) (zo C true)) U X O) (j:Is2 (bd (bd (.ok A) (zo C true)) (asP C z)) I H N) (Y:H<0) (V:isT C I.pos 4 zbF=true):
  (bd (.ok A) fun q=>za5 C z q l)=(bd (.ok (adv I)) fun q=>za5 C z q (l++[⟨0,N,O,sNone⟩]))∧A.pos+1≤I.pos:=by
 rw[zC] at L j ⊢
 rw[zC,zgd]
 cases J:zo C true A with
 |error e=>rw[J] at j;have:H=(e:Int):=j;omega
 |ok a=>
  rw[J] at L j
  obtain⟨_,_,rfl⟩:=L
  rw[zC] at j ⊢
  obtain⟨rfl,_⟩:=zbq J
  cases M:asP C z (adv A,(ze C A.pos).text) with
  |error e=>rw[M] at j;have:H=(e:Int):=j;omega
  |ok b=>
   rw[M] at j
   obtain⟨rfl,rfl,rfl⟩:=j
   have:=zfg M
   rw[zC,V]
   exact⟨rfl,this⟩
theorem zqe {C:Cx} {j:Bool} {x:PR} {q A:PS} {z H:Int} {l:List Ep} (J:Is x q z) (L: ¬z<0) (I:Is (bd x (zd C 4 zb2)) A H):Is3 (bd x fun q=>za5 C j q l) A H l:=by
 obtain⟨e,rfl,_⟩:=zd3 J L
 exact I
theorem zqf {C:Cx} {j:Bool} {Y:PRN} {q H:PS} {z A:Int} {N L:ByteArray} (I:Is2 Y q z N) (J:(decide (z<0)&&isT C q.pos 1 sAs)=true) (M:Is2 (bd (.ok (adv q)) (zo C j)) H A L):Is2 (bd Y (asP C j)) H A L:=by
 rw[Bool.and_eq_true,decide_eq_true_eq] at J
 cases Y with
 |error e=>have:z=(e:Int):=I;omega
 |ok a=>
  obtain⟨rfl,_,_⟩:=I
  rw[zC,asP,if_pos J.2]
  exact M
theorem zqg {C:Cx} {z:Bool} {Y:PRN} {j:PS} {q:Int} {A:ByteArray} (H:Is2 Y j q A) (I:(decide (q<0)&&isT C j.pos 1 sAs)=false) (J:((A.toList==[100,101,102,97,117,108,116])&& !z)=true):Is2 (bd Y (asP C z)) j (zb5 C j.pos q) A:=by
 cases Y with
 |error e=>
  have h:q=(e:Int):=H
  show zb5 C j.pos q=(e:Int)
  rw[zb5,if_neg (by omega)]
  exact h
 |ok a=>
  obtain⟨rfl,rfl,rfl⟩:=H
  rw[Bool.and_eq_false_iff] at I
  rw[zC,asP,I.resolve_left (by decide),J]
  rfl
theorem zkt {C:Cx} {j:Bool} {Y:PRN} {q:PS} {z:Int} {A:ByteArray} (H:Is2 Y q z A) (I:(decide (z<0)&&isT C q.pos 1 sAs)=false) (J:((A.toList==[100,101,102,97,117,108,116])&& !j)=false):Is2 (bd Y (asP C j)) q z A:=by
 cases Y with
 |error e=>exact H
 |ok a=>
  obtain⟨rfl,rfl,rfl⟩:=H
  rw[Bool.and_eq_false_iff] at I
  rw[zC,asP,I.resolve_left (by decide),J]
  exact⟨rfl,rfl,rfl⟩
theorem zku (C:Cx) (J A j:Nat) (S:Sv) (q:PS) (d:Nat) (U:Bool) (w:World) (hm:Mem C J A j S q w):
  Calls Tryz.prog 144 #[pv C J A S q (-1) d,.bool U] w (zqa C J A j (zcM C U q) d S w):=by
 obtain⟨i0,hi,au,az,aw⟩:=info_parts Tryz.infoExp
 have HM:=zc hm
 have V:=hm.few
 clear hm
 unfold pv
 go_enter Tryz.func144,Tryz.ntmps144
 go_wp2_with fail
 refine (zah C J A j (.ok q) S q (-1) d zM _ (zab q) (((HM.out.alloc _).alloc _).alloc _)).mono ?_
 rintro e w1 ⟨S1,q1,z1,rfl,ap,m1,s1⟩
 obtain⟨X0,X1,R0,t1⟩:=HM.out.list3 s1
 have F:=Fm.of2 X0 X1 m1 t1 (by omega) (by omega) (by omega)
 have z:=zc R0
 clear m1 s1 X0 X1 R0 t1
 have H:=F.x0.boxC
 unfold pv
 go_wp2
 go_loopg [7,8] (C.ts.length+1) (fun k o an wr=>∃(x':PR) (N:Sv) (Z:PS) (z':Int) (r:Rw) (l:List Ep),Is x' Z z'∧bd x' (fun q=>za5 C U q l)=zcM C U q∧(z'<0→C.ts.length-Z.pos<k)∧(l.length≤Z.pos∨l=[])∧o= .slice r.a l.length r.cap∧an= .bool (zaF l)∧Mem C J A j N Z wr∧SB w.heap.size S w N wr∧Bx J N wr w.heap.size #[.slice (some ⟨J,0,none⟩) C.ts.length A,.int .i64 Z.pos,.int .i64 C.fin,.bool C.scr,.slice N.rq.a Z.rq.length N.rq.cap,.slice N.im.a Z.im.length N.im.cap,.slice N.ep.a Z.ep.length N.ep.cap,.slice N.st.a Z.st.length N.st.cap,.slice N.ex.a Z.ex.length N.ex.cap,.slice N.la.a Z.la.length N.la.cap,.int .i64 z',.int .i64 d]∧Bx J N wr (w.heap.size+1) #[.slice none 0 0,.int .i64 0,.int .i64 0,.bool false,.slice none 0 0,.slice none 0 0,.slice none 0 0,.slice none 0 0,.slice none 0 0,.slice none 0 0,.int .i64 0,.int .i64 0]∧Row N wr j w.heap.size r l)
 case atStart=>exact⟨_,S1,q1,z1,_,[],ap.out,rfl,fun _=>by omega,.inr rfl,rfl,rfl,(F.put0 ..).m,(F.put0 ..).t,(F.put0 ..).x0,(F.put0 ..).x1,(z.out.put F.x0 ..)⟩
 case round=>
  obtain⟨x2,S2,q2,z2,r,l,i2,e2,l2,n2,rfl,rfl,m2,t2,X0,X1,R0⟩:=hrel
  have F:=Fm.of2 X0 X1 m2 t2 (by omega) (by omega) (by omega)
  have ad:=zc i2
  have ae:=zc e2
  have av:=zc l2
  have z:=zc R0
  have aD:l.length≤4000:=n2.elim (fun g=>by have:=m2.inv.pos;omega) (fun g=>by rw[g];simp)
  have ar:=zc n2
  clear X0 X1 i2 m2 t2 e2 l2 R0 n2
  by_cases hz:z2<0
  ·skip
   obtain⟨rfl,rfl⟩:=zaH ad.out hz
   have aE:=av.out hz
   have H:=F.x0.boxC
   go_wp2_with fail
   refine (zbt C J A j (.ok q2) S2 q2 (-1) d true _ (zab q2) F.m).mono ?_
   rintro e w3 ⟨S3,X,z3,Y,rfl,L,m3,s3⟩
   replace z:=zc (z.out.stp s3)
   replace F:=F.stp m3 s3
   clear H
   have aC:w.heap.size+1<w3.heap.size:=F.x1.lt
   unfold pv
   go_upto_region 6 with fail
   refine (F.new2 _).cutR (RW:=fun W=>Row S3 W j w.heap.size r l) (z.out.alloc _) ?_
   clear z
   intro w4 F R0
   have z:=zc R0
   clear R0
   have H:=F.x0.boxC
   have cb:=F.x2.boxC
   go_upto_region 7 with fail
   refine (F.put0 ..).cutR (RW:=fun W=>Row S3 W j w.heap.size r l) (z.out.put F.x0 ..) ?_
   clear H cb
   clear z
   intro w5 F R0
   have z:=zc R0
   clear R0
   skip
   have H:=F.x0.boxC
   skip
   go_wp2_with fail
   refine (zj C J A j S3 X z3 d 1 sAs _ F.m.tok V (by decide)).mono ?_
   rintro e w6 ⟨rfl,ag⟩
   replace z:=zc (z.out.below ag)
   replace F:=F.below ag
   clear H
   go_upto_if 28 with fail
   go_cut [11] (fun ao wx=>∃(I:Sv) (M:PS) (z5:Int) (n5:ByteArray),ao= .string n5∧Is2 (bd (bd (.ok q2) (zo C true)) (asP C U)) M z5 n5∧Mem C J A j I M wx∧SB w.heap.size S w I wx∧Bx J I wx w.heap.size #[.slice (some ⟨J,0,none⟩) C.ts.length A,.int .i64 M.pos,.int .i64 C.fin,.bool C.scr,.slice I.rq.a M.rq.length I.rq.cap,.slice I.im.a M.im.length I.im.cap,.slice I.ep.a M.ep.length I.ep.cap,.slice I.st.a M.st.length I.st.cap,.slice I.ex.a M.ex.length I.ex.cap,.slice I.la.a M.la.length I.la.cap,.int .i64 z5,.int .i64 d]∧Bx J I wx (w.heap.size+1) #[.slice none 0 0,.int .i64 0,.int .i64 0,.bool false,.slice none 0 0,.slice none 0 0,.slice none 0 0,.slice none 0 0,.slice none 0 0,.slice none 0 0,.int .i64 0,.int .i64 0]∧Row I wx j w.heap.size r l)
   case first=>
    cases hb:(decide (z3<0)&&isT C X.pos 1 sAs) with
    |true=>
     have al:X.pos<C.ts.length:=by rw[Bool.and_eq_true] at hb;exact za9 hb.2 (by decide)
     have H:=F.x0.boxC
     have am:z3= -1:=by rw[Bool.and_eq_true,decide_eq_true_eq] at hb;exact (zaH L.out.fst hb.1).2
     subst am
     go_wp2_with fail
     refine (zbt C J A j (.ok (adv X)) S3 (adv X) (-1) d U _ (zab _) ((F.adv al).set0_1 _).m).mono ?_
     rintro e w7 ⟨S7,q7,z7,n7,rfl,aq,m7,s7⟩
     replace z:=zc ((z.out.set F.x0 1 _).stp s7)
     replace F:=(F.set0_1 _).stp m7 s7
     clear H
     have aB:w.heap.size+1<w7.heap.size:=F.x1.lt
     have aj:w3.heap.size<w7.heap.size:=F.x2.lt
     unfold pv
     go_upto_region 11 with fail
     refine (F.new3 _).cutR (RW:=fun W=>Row S7 W j w.heap.size r l) (z.out.alloc _) ?_
     clear z
     intro w8 F R0
     have z:=zc R0
     clear R0
     have H:=F.x0.boxC
     have db:=F.x3.boxC
     go_wp2
     go_meet
     case rel=>exact⟨S7,q7,z7,n7,rfl,zqf L.out hb aq.out,(F.put0 ..).m,(F.put0 ..).t,(F.put0 ..).x0,(F.put0 ..).x1,(z.out.put F.x0 ..)⟩
    |false=>
     cases e3:(Y.toList==[100,101,102,97,117,108,116]) with
     |true=>
      cases U with
      |false=>
       have H:=F.x0.boxC
       go_wp2_with fail
       refine (zd1 C J A j S3 X z3 d _ F.m.tok V).mono ?_
       rintro e w7 ⟨rfl,O⟩
       replace z:=zc (z.out.below O)
       replace F:=F.below O
       clear H
       have H:=F.x0.boxC
       unfold pv
       go_wp2
       go_meet
       case rel=>exact⟨S3,X,(zb5 C X.pos z3),Y,rfl,zqg L.out hb (by rw[e3];rfl),(F.put0 ..).m,(F.put0 ..).t,(F.put0 ..).x0,(F.put0 ..).x1,(z.out.put F.x0 ..)⟩
      |true=>
       have H:=F.x0.boxC
       go_wp2
       go_meet
       case rel=>exact⟨S3,X,z3,Y,rfl,zkt L.out hb (by rw[e3];rfl),F.m,F.t,F.x0,F.x1,z.out⟩
     |false=>
      have H:=F.x0.boxC
      go_wp2
      go_meet
      case rel=>exact⟨S3,X,z3,Y,rfl,zkt L.out hb (by rw[e3];rfl),F.m,F.t,F.x0,F.x1,z.out⟩
   case rest=>
    obtain⟨I,M,z5,n5,rfl,i5,m5,t5,X0,X1,R0⟩:=hcut
    clear z
    have F:=Fm.of2 X0 X1 m5 t5 (by omega) (by omega) (by omega)
    have aa:=zc i5
    have z:=zc R0
    clear X0 X1 i5 m5 t5 R0
    go_upto_region 15 with fail
    go_cut [8] (fun s8 wx=>s8= .bool (zaF l||(Y.toList==[100,101,102,97,117,108,116]))∧wx=wc)
    case first=>
     cases ha:zaF l with
     |true=>
      go_wp2
      go_meet
      case rel=>exact⟨by rw[ha];rfl,rfl⟩
     |false=>
      cases e3:(Y.toList==[100,101,102,97,117,108,116]) with
      |true=>
       go_wp2
       go_meet
       case rel=>exact⟨by rw[ha,e3];rfl,rfl⟩
      |false=>
       go_wp2
       go_meet
       case rel=>exact⟨by rw[ha,e3];rfl,rfl⟩
    case rest=>
     obtain⟨rfl,rfl⟩:=hcut
     have ac:=fun o=>z.out.own.alloc o
     have ak:=F.m.base
     go_wp2_with (at_builtin;refine zcw _ rfl _ _ 32 rfl j 86 i0 _ 4 56 Tryz.underlying32 hi au az aw rfl (by decide) (by decide) r l.length _ (by rfl) (ac _) wc.heap.size (epL ⟨0,n5,Y,sNone⟩) (by rfl) (by exact heap_alloc_new wc _) rfl (by intro u hu;simp[epL] at hu;rcases hu with rfl|rfl|rfl|rfl<;>rfl) (by omega) (by rw[zl];omega) ?_)
     intro r' w6 hr hg ah
     obtain⟨R6,m6⟩:=(z.out.alloc _).grow (x:=⟨0,n5,Y,sNone⟩) (F.alloc _).m (by rw[zl];have:=F.t.size;omega) hg hr (by rw[zl];exact ah)
     replace F:=Fm.of2 ((z.out.alloc _).bx (F.x0.alloc _) hg) ((z.out.alloc _).bx (F.x1.alloc _) hg) m6 ((z.out.alloc _).sb (F.t.alloc _) hg) (by omega) (by omega) (by omega)
     clear z hr hg ah ac ak m6
     have z:=zc R6
     clear R6
     cases hc:(decide (z5<0)&&isT C M.pos 4 zbF) with
     |true=>
      have H:=F.x0.boxC
      go_wp2_with fail
      refine (zj C J A j I M z5 d 4 zbF _ F.m.tok V (by decide)).mono ?_
      rintro e w7 ⟨rfl,O⟩
      rw[hc]
      replace z:=zc (z.out.below O)
      replace F:=F.below O
      clear H
      rw[Bool.and_eq_true,decide_eq_true_eq] at hc
      obtain⟨af,ai⟩:=hc
      have ax:M.pos<C.ts.length:=za9 ai (by decide)
      obtain⟨E5,P5⟩:=zqd (l:=l) L.out aa.out af ai
      have HE:=zc E5
      obtain rfl:z5= -1:=(zaH aa.out.fst af).2
      have ay:Hid ((l++[(⟨0,n5,Y,sNone⟩:Ep)]).length≤M.pos+1∨l++[(⟨0,n5,Y,sNone⟩:Ep)]=[]):=.inl (by simp only[List.length_append,List.length_singleton];exact ar.out.elim (fun g=>by omega) (fun g=>by rw[g];simp))
      clear E5
      have H:=F.x0.boxC
      go_wp2
      go_roundg (gk-1)
      case rel=>exact⟨.ok (adv M),I,adv M,-1,r',l++[⟨0,n5,Y,sNone⟩],zab _,by rw[←ae.out];exact HE.out.symm,fun _=>by rw[zz];omega,ay.out,by simp,by rw[zkr],((F.adv ax).set0_1 _).m,(F.t.set (by omega) 1 _),(F.x0.at1 _),(F.x1.set_other (by omega) 1 _),(z.out.set F.x0 1 _)⟩
      case measure=>omega
     |false=>
      have H:=F.x0.boxC
      go_wp2_with fail
      refine (zj C J A j I M z5 d 4 zbF _ F.m.tok V (by decide)).mono ?_
      rintro e w7 ⟨rfl,O⟩
      rw[hc]
      replace z:=zc (z.out.below O)
      replace F:=F.below O
      clear H
      have H:=F.x0.boxC
      go_wp2_with fail
      refine (zah C J A j _ I M z5 d zb2 _ aa.out.fst F.m).mono ?_
      rintro e w8 ⟨S8,q8,z8,rfl,aA,m8,s8⟩
      replace z:=zc (z.out.stp s8)
      replace F:=F.stp m8 s8
      clear H
      have bb:=F.x1.boxC
      unfold pv
      go_wp2
      refine bodyPost_ret (zks rfl _ _ (w.heap.size+1) 122 _ (0,0) _ rfl ((F.x1.put ..)).heap Tryz.underlying122 rfl (by kernel_rfl)) rfl ?_
      exact⟨S8,q8,z8,r',l++[⟨0,n5,Y,sNone⟩],by simp[pv,zkr],by rw[←ae.out,zC,zgd];exact zqc L.out aa.out hc aA.out,(F.put1 ..).m,(F.put1 ..).t.done,(z.out.put F.x1 ..),by simp;omega⟩
  ·skip
   have H:=F.x0.boxC
   go_wp2_with fail
   refine (zah C J A j _ S2 q2 z2 d zb2 _ ad.out F.m).mono ?_
   rintro e w3 ⟨S3,X,z3,rfl,L,m3,s3⟩
   replace z:=zc (z.out.stp s3)
   replace F:=F.stp m3 s3
   clear H
   have bb:=F.x1.boxC
   unfold pv
   go_wp2
   refine bodyPost_ret (zks rfl _ _ (w.heap.size+1) 122 _ (0,0) _ rfl ((F.x1.put ..)).heap Tryz.underlying122 rfl (by kernel_rfl)) rfl ?_
   exact⟨S3,X,z3,r,l,rfl,by rw[←ae.out];exact zqe ad.out (by omega) L.out,(F.put1 ..).m,(F.put1 ..).t.done,(z.out.put F.x1 ..),by omega⟩
def SumOK (C:Cx) (gt cap base m:Nat):Prop:=∀(x:PR) (S:Sv) (q:PS) (z:Int) (d:Nat) (w:World),Is x q z→Mem C gt cap base S q w→(z<0→C.ts.length-q.pos<m)→d≤20→
 Calls Tryz.prog 111 #[pv C gt cap S q z d] w (Out C gt cap base (bd x (pE C .sum d)) d S w)
theorem zgC {C:Cx} {o:Bool} {q A:PS} {z:Int} {j:ByteArray} (h:Is2 (bd (.ok q) (zo C o)) A z j) (H:zH C q.pos o=true):A=adv q∧z= -1∧j=(ze C q.pos).text:=by
 rw[zC,zo,if_pos H] at h
 exact h
theorem zgD {C:Cx} {o:Bool} {q H:PS} {j:Int} {A:ByteArray} (h:Is2 (bd (.ok q) (zo C o)) H j A) (z:zH C q.pos o=false):j=(zu C q.pos:Int):=by
 rw[zC,zo,z] at h
 exact h
theorem zkv {C:Cx} {n:ByteArray} {y:Except Nat (PS×ByteArray)} {q:PS} {z:Int} {f:ByteArray} (h:Is2 y q z f) (j:(decide (z<0)&&isT C q.pos 4 zr)=true):bd (bd (bd (zaR y) (zd C 4 zr)) (zd C 4 za8)) (zQ C ⟨5,0,n,f,0,0⟩)=bd y fun a=>zbG C n a.2 a.1:=by
 rw[Bool.and_eq_true,decide_eq_true_eq] at j
 cases y with
 |ok a=>
  obtain⟨rfl,_,rfl⟩:=h
  show _=zbG C n a.2 a.1
  rw[zbG,if_pos j.2]
  rfl
 |error e=>rfl
theorem zkw {C:Cx} {n:ByteArray} {y:Except Nat (PS×ByteArray)} {q:PS} {z:Int} {f:ByteArray} (h:Is2 y q z f) (j:(decide (z<0)&&isT C q.pos 4 zr)=false):bd (zaR y) (zQ C ⟨4,0,n,f,0,0⟩)=bd y fun a=>zbG C n a.2 a.1:=by
 cases y with
 |ok a=>
  obtain⟨rfl,rfl,rfl⟩:=h
  rw[Bool.and_eq_false_iff] at j
  show _=zbG C n a.2 a.1
  rw[zbG,j.resolve_left (by decide)]
  rfl
 |error e=>rfl
theorem zkx {C:Cx} {o:Bool} {x:PR} {q:PS} {z:Int} {n:ByteArray} (h:Is2 (bd x (zo C o)) q z n):z<0→1≤q.pos:=by
 intro H
 cases j:bd x (zo C o) with
 |error e=>rw[j] at h;have:z=(e:Int):=h;omega
 |ok a=>
  rw[j] at h
  obtain⟨rfl,_,_⟩:=h
  obtain⟨b,_,A⟩:=zf j
  obtain⟨rfl,_⟩:=zbq A
  simp[adv]
theorem zqh (C:Cx) (I z j:Nat) (S:Sv) (q:PS) (d:Nat) (w:World) (J:Mem C I z j S q w) (N:((ze C q.pos).kind==2)=true):
  Calls Tryz.prog 182 #[pv C I z S q (-1) d] w (Out C I z j (pE C .part d q) d S w):=by
 have HM:=zc J
 have A:=J.tok
 have Z:C.ts.length≤4000:=J.few
 have U:=(zav J.tok).1
 clear J
 have V:q.pos<C.ts.length:=zfW N (by decide)
 have Y:Hid (pE C .part d q=bd (.ok (adv q)) (zQ C ⟨1,(ze C q.pos).num,sNone,sNone,0,0⟩)):=by show pE C .part d q=_;rw[zbM,if_pos N];rfl
 obtain⟨c0,_,X,_⟩:=A.cells V (d:=⟨0,sNone,0,C.fin⟩)
 change _=some (Value.int .i64 (ze C q.pos).kind) at c0
 change _=some (Value.int .i64 (ze C q.pos).num) at X
 have H:Hid (Mem C I z j S (adv q) w):=HM.out.adv V
 generalize (ze C q.pos).kind=kd at c0 N
 have HN:Hid (∀n,n=(ze C q.pos).num→pE C .part d q=bd (.ok (adv q)) (zQ C ⟨1,n,sNone,sNone,0,0⟩)):=fun n e=>by rw[e];exact Y.out
 generalize L:(ze C q.pos).num=nm at X
 have O:Hid (nm=(ze C q.pos).num):=L.symm
 clear L Y A
 unfold pv
 go_enter Tryz.func182,Tryz.ntmps182
 go_wp2_with fail
 refine (zdk C I z j (.ok (adv q)) S (adv q) (-1) d ⟨1,nm,sNone,sNone,0,0⟩ _ (zab _) ((H.out.alloc _).alloc _) (fun _=>by simp[adv])).mono ?_
 rintro e w1 ⟨S1,q1,z1,rfl,M,m1,s1⟩
 have F:=H.out.fm2 m1 s1
 have bb:=F.x1.boxC
 unfold pv
 go_wp2
 refine (F.x1.put ..).ret rfl rfl ?_
 rw[HN.out nm O.out]
 exact (F.put1 ..).done rfl M.out
theorem zqi (C:Cx) (I z j:Nat) (S:Sv) (q:PS) (d:Nat) (w:World) (J:Mem C I z j S q w) (O:((ze C q.pos).kind==2)=false) (L:isT C q.pos 4 zr=true) (X:20≤d) (Y:d≤20):
  Calls Tryz.prog 182 #[pv C I z S q (-1) d] w (Out C I z j (pE C .part d q) d S w):=by
 have Z:=zc J
 have A:=J.tok
 have H:C.ts.length≤4000:=J.few
 have U:=(zav J.tok).1
 clear J
 have hp:q.pos<C.ts.length:=za9 L (by decide)
 have HV:Hid (pE C .part d q= .error (zu C q.pos)):=by show pE C .part d q=_;rw[zbM,O,L];simp[X]
 have qd:decide ((20:Int)≤(d:Int))=true:=decide_eq_true (by omega)
 obtain⟨V,_,_,_⟩:=A.cells hp (d:=⟨0,sNone,0,C.fin⟩)
 change _=some (Value.int .i64 (ze C q.pos).kind) at V
 generalize (ze C q.pos).kind=kd at V O
 unfold pv
 go_enter Tryz.func182,Tryz.ntmps182
 go_wp2_with fail
 refine (zj C I z j S q (-1) d 4 zr _ (zt (zt A _) _) H (by decide)).mono ?_
 rintro e w1 ⟨rfl,N⟩
 rw[L]
 have F:=Z.out.fm N
 have ab:=F.x0.boxC
 go_wp2_with fail
 refine (zd1 C I z j S q (-1) d _ F.m.tok H).mono ?_
 rintro e w2 ⟨rfl,M⟩
 replace F:=F.below M
 clear ab
 have bb:=F.x1.boxC
 unfold pv
 go_wp2
 refine (F.x1.put ..).ret rfl rfl ?_
 rw[HV.out]
 exact (F.put1 ..).done rfl (show Is (.error (zu C q.pos)) q _ from rfl)
theorem zqj (C:Cx) (H z j:Nat) (S:Sv) (q:PS) (d:Nat) (w:World) (I:Mem C H z j S q w) (X:((ze C q.pos).kind==2)=false) (N:isT C q.pos 4 zr=true) (hd:d<20) (hS:SumOK C H z j (C.ts.length-q.pos)):
  Calls Tryz.prog 182 #[pv C H z S q (-1) d] w (Out C H z j (pE C .part d q) d S w):=by
 have HM:=zc I
 have A:=I.tok
 have J:C.ts.length≤4000:=I.few
 have Y:=(zav I.tok).1
 clear I
 have Z:q.pos<C.ts.length:=za9 N (by decide)
 have HV:Hid (pE C .part d q=bd (bd (.ok (adv q)) (pE C .sum (d+1))) (zd C 4 za8)):=by show pE C .part d q=_;rw[zbM,X,N,if_neg (by decide),if_pos rfl,if_neg (by omega)];rfl
 have HS:=zc hS
 clear hS
 have qd:decide ((20:Int)≤(d:Int))=false:=decide_eq_false (by omega)
 obtain⟨c0,_,_,_⟩:=A.cells Z (d:=⟨0,sNone,0,C.fin⟩)
 change _=some (Value.int .i64 (ze C q.pos).kind) at c0
 generalize (ze C q.pos).kind=kd at c0 X
 unfold pv
 go_enter Tryz.func182,Tryz.ntmps182
 go_wp2_with fail
 refine (zj C H z j S q (-1) d 4 zr _ (zt (zt A _) _) J (by decide)).mono ?_
 rintro e w1 ⟨rfl,U⟩
 rw[N]
 have F:=HM.out.fm U
 have L:=F.x0.boxC
 go_wp2_with fail
 refine (HS.out (.ok (adv q)) S (adv q) (-1) (d+1) _ (zab _) (((F.adv Z).set0_1 _).set0_11 _).m (fun _=>by show C.ts.length-(q.pos+1)<_;omega) (by omega)).mono ?_
 rintro e w2 ⟨S2,q2,z2,rfl,M,m2,s2⟩
 replace F:=((F.set0_1 _).set0_11 _).stp m2 s2
 clear L
 go_wp2_with fail
 refine (zah C H z j _ S2 q2 z2 (d+1) za8 _ M.out F.m).mono ?_
 rintro e w3 ⟨S3,q3,z3,rfl,O,m3,s3⟩
 replace F:=F.stp m3 s3
 have L:=F.x0.boxC
 obtain⟨D,V⟩: ∃D:Nat,D=d+1:=⟨_,rfl⟩
 rw[←V]
 have ac:(D:Int)-1=d:=by omega
 have aa:D≤20:=by omega
 clear V hd qd
 unfold pv
 go_upto_region 11 with fail
 refine (F.put0 ..).cut ?_
 clear L
 intro w4 F
 have L:=F.x0.boxC
 have bb:=F.x1.boxC
 go_wp2
 refine bodyPost_ret (results_cell_row rfl _ _ (w.heap.size+1) 122 _ (0,0) _ rfl (((F.x1.set_other (by omega) 11 _).put ..)).heap Tryz.underlying122 rfl (by kernel_rfl)) rfl ?_
 rw[HV.out]
 exact zkq rfl O.out ((F.set0_11 _).put1 ..).m ((F.set0_11 _).put1 ..).t
theorem zqk (z:List Tk) (j:Nat) (J H A:Nat) (S:Sv) (q:PS) (d:Nat) (w:World) (M:Mem (Cx.mk z j true) J H A S q w) (N: ¬q.pos<(Cx.mk z j true).ts.length):
  Calls Tryz.prog 182 #[pv (Cx.mk z j true) J H S q (-1) d] w (Out (Cx.mk z j true) J H A (pE (Cx.mk z j true) .part d q) d S w):=by
 have HM:=zc M
 have L:=M.tok
 have I:(Cx.mk z j true).ts.length≤4000:=M.few
 have Y:=(zav M.tok).1
 clear M
 have hk:((ze (Cx.mk z j true) q.pos).kind==2)=false:=by rw[zdF (by omega)];rfl
 have Z:isT (Cx.mk z j true) q.pos 4 zr=false:=zfl N (by decide)
 have hu:isT (Cx.mk z j true) q.pos 1 zaE=false:=zfl N (by decide)
 have hn:zH (Cx.mk z j true) q.pos false=false:=zh0 N
 have HV:Hid (pE (Cx.mk z j true) .part d q= .error (zu (Cx.mk z j true) q.pos)):=by show pE (Cx.mk z j true) .part d q=_;rw[zbM,hk,Z,hu,zo,hn];rfl
 have ac: ¬q.pos<z.length:=N
 unfold pv
 go_enter Tryz.func182,Tryz.ntmps182
 go_wp2_with fail
 refine (zj (Cx.mk z j true) J H A S q (-1) d 4 zr _ (zt (zt L _) _) I (by decide)).mono ?_
 rintro e w1 ⟨rfl,X⟩
 rw[Z]
 have F:=HM.out.fm X
 have O:=F.x0.boxC
 go_wp2_with fail
 refine (zj (Cx.mk z j true) J H A S q (-1) d 1 zaE _ F.m.tok I (by decide)).mono ?_
 rintro e w2 ⟨rfl,U⟩
 rw[hu]
 replace F:=F.below U
 clear O
 have O:=F.x0.boxC
 go_wp2_with fail
 refine (zbt (Cx.mk z j true) J H A (.ok q) S q (-1) d false _ (zab q) F.m).mono ?_
 rintro e w3 ⟨S3,q3,z3,n3,rfl,V,m3,s3⟩
 replace F:=F.stp m3 s3
 clear O
 obtain rfl:=zgD V.out hn
 have dz:decide ((0:Int)≤(zu (Cx.mk z j true) q.pos:Int))=true:=decide_eq_true (by omega)
 have aa:w.heap.size+1<w3.heap.size:=F.x1.lt
 unfold pv
 go_upto_region 17 with fail
 refine (F.new2 _).cut ?_
 intro w4 F
 have bb:=F.x1.boxC
 have cb:=F.x2.boxC
 go_wp2
 refine (F.x1.put ..).ret rfl rfl ?_
 rw[HV.out]
 exact (F.put1 ..).done rfl (show Is (.error (zu (Cx.mk z j true) q.pos)) q3 _ from rfl)
theorem zql (z:List Tk) (j:Nat) (L H A:Nat) (S:Sv) (q:PS) (d:Nat) (w:World) (M:Mem (Cx.mk z j true) L H A S q w) (Y:((ze (Cx.mk z j true) q.pos).kind==2)=false) (ho:isT (Cx.mk z j true) q.pos 4 zr=false) (hp:q.pos<(Cx.mk z j true).ts.length) (hu:isT (Cx.mk z j true) q.pos 1 zaE=false) (hn:zH (Cx.mk z j true) q.pos false=false):
  Calls Tryz.prog 182 #[pv (Cx.mk z j true) L H S q (-1) d] w (Out (Cx.mk z j true) L H A (pE (Cx.mk z j true) .part d q) d S w):=by
 have HM:=zc M
 have I:=M.tok
 have J:(Cx.mk z j true).ts.length≤4000:=M.few
 have Z:=(zav M.tok).1
 clear M
 have HV:Hid (pE (Cx.mk z j true) .part d q= .error (zu (Cx.mk z j true) q.pos)):=by show pE (Cx.mk z j true) .part d q=_;rw[zbM,Y,ho,hu,zo,hn];rfl
 have ac:q.pos<z.length:=hp
 obtain⟨X,_,_,_⟩:=I.cells hp (d:=⟨0,sNone,0,(Cx.mk z j true).fin⟩)
 change _=some (Value.int .i64 (ze (Cx.mk z j true) q.pos).kind) at X
 generalize (ze (Cx.mk z j true) q.pos).kind=kd at X Y
 unfold pv
 go_enter Tryz.func182,Tryz.ntmps182
 go_wp2_with fail
 refine (zj (Cx.mk z j true) L H A S q (-1) d 4 zr _ (zt (zt I _) _) J (by decide)).mono ?_
 rintro e w1 ⟨rfl,V⟩
 rw[ho]
 have F:=HM.out.fm V
 have N:=F.x0.boxC
 go_wp2_with fail
 refine (zj (Cx.mk z j true) L H A S q (-1) d 1 zaE _ F.m.tok J (by decide)).mono ?_
 rintro e w2 ⟨rfl,O⟩
 rw[hu]
 replace F:=F.below O
 clear N
 have N:=F.x0.boxC
 go_wp2_with fail
 refine (zbt (Cx.mk z j true) L H A (.ok q) S q (-1) d false _ (zab q) F.m).mono ?_
 rintro e w3 ⟨S3,q3,z3,n3,rfl,U,m3,s3⟩
 replace F:=F.stp m3 s3
 clear N
 obtain rfl:=zgD U.out hn
 have dz:decide ((0:Int)≤(zu (Cx.mk z j true) q.pos:Int))=true:=decide_eq_true (by omega)
 have aa:w.heap.size+1<w3.heap.size:=F.x1.lt
 unfold pv
 go_upto_region 17 with fail
 refine (F.new2 _).cut ?_
 intro w4 F
 have bb:=F.x1.boxC
 obtain⟨X,c1,c2,c3,c4,c5,c6,c7,c8,c9,ae,ad,cf⟩:=F.x2.box
 go_wp2
 refine (F.x1.put ..).ret rfl rfl ?_
 rw[HV.out]
 exact (F.put1 ..).done rfl (show Is (.error (zu (Cx.mk z j true) q.pos)) q3 _ from rfl)
theorem zky (I:List Tk) (j:Nat) (L A z:Nat) (S:Sv) (q:PS) (d:Nat) (w:World) (N:Mem (Cx.mk I j true) L A z S q w) (H:Nat):
  Calls Tryz.prog 182 #[pv (Cx.mk I j true) L A S q (H:Int) d] w (Out (Cx.mk I j true) L A z (.error H) d S w):=by
 have HM:=zc N
 have M:=N.tok
 have J:(Cx.mk I j true).ts.length≤4000:=N.few
 have Y:=(zav N.tok).1
 clear N
 have hz: ¬(H:Int)<0:=by omega
 have Z: ∀k s,(decide ((H:Int)<0)&&isT (Cx.mk I j true) q.pos k s)=false:=fun k s=>by rw[decide_eq_false hz];rfl
 unfold pv
 go_enter Tryz.func182,Tryz.ntmps182
 go_wp2_with fail
 refine (zj (Cx.mk I j true) L A z S q (H:Int) d 4 zr _ (zt (zt M _) _) J (by decide)).mono ?_
 rintro e w1 ⟨rfl,X⟩
 rw[Z]
 have F:=HM.out.fm X
 have O:=F.x0.boxC
 go_wp2_with fail
 refine (zj (Cx.mk I j true) L A z S q (H:Int) d 1 zaE _ F.m.tok J (by decide)).mono ?_
 rintro e w2 ⟨rfl,U⟩
 rw[Z]
 replace F:=F.below U
 clear O
 have O:=F.x0.boxC
 go_wp2_with fail
 refine (zbt (Cx.mk I j true) L A z (.error H) S q (H:Int) d false _ (show Is (.error H) q _ from rfl) F.m).mono ?_
 rintro e w3 ⟨S3,q3,z3,n3,rfl,V,m3,s3⟩
 replace F:=F.stp m3 s3
 clear O
 obtain rfl:z3=(H:Int):=V.out
 have dz:decide ((0:Int)≤(H:Int))=true:=decide_eq_true (by omega)
 have aa:w.heap.size+1<w3.heap.size:=F.x1.lt
 unfold pv
 go_upto_region 17 with fail
 refine (F.new2 _).cut ?_
 intro w4 F
 have bb:=F.x1.boxC
 have cb:=F.x2.boxC
 go_wp2
 refine (F.x1.put ..).ret rfl rfl ?_
 exact (F.put1 ..).done rfl (show Is (.error H) q3 _ from rfl)
theorem zqm (z:List Tk) (j:Nat) (L H A:Nat) (S:Sv) (q:PS) (d:Nat) (w:World) (M:Mem (Cx.mk z j true) L H A S q w) (Y:((ze (Cx.mk z j true) q.pos).kind==2)=false) (ho:isT (Cx.mk z j true) q.pos 4 zr=false) (O:q.pos<(Cx.mk z j true).ts.length) (hu:isT (Cx.mk z j true) q.pos 1 zaE=true):
  Calls Tryz.prog 182 #[pv (Cx.mk z j true) L H S q (-1) d] w (Out (Cx.mk z j true) L H A (pE (Cx.mk z j true) .part d q) d S w):=by
 have HM:=zc M
 have I:=M.tok
 have J:(Cx.mk z j true).ts.length≤4000:=M.few
 have Z:=(zav M.tok).1
 clear M
 have HV:Hid (pE (Cx.mk z j true) .part d q=zbp (Cx.mk z j true) zaE (adv q)):=by show pE (Cx.mk z j true) .part d q=_;rw[zbM,Y,ho,hu];rfl
 have aa:q.pos<z.length:=O
 obtain⟨c0,_,_,_⟩:=I.cells O (d:=⟨0,sNone,0,(Cx.mk z j true).fin⟩)
 change _=some (Value.int .i64 (ze (Cx.mk z j true) q.pos).kind) at c0
 generalize (ze (Cx.mk z j true) q.pos).kind=kd at c0 Y
 unfold pv
 go_enter Tryz.func182,Tryz.ntmps182
 go_wp2_with fail
 refine (zj (Cx.mk z j true) L H A S q (-1) d 4 zr _ (zt (zt I _) _) J (by decide)).mono ?_
 rintro e w1 ⟨rfl,X⟩
 rw[ho]
 have F:=HM.out.fm X
 have N:=F.x0.boxC
 go_wp2_with fail
 refine (zj (Cx.mk z j true) L H A S q (-1) d 1 zaE _ F.m.tok J (by decide)).mono ?_
 rintro e w2 ⟨rfl,U⟩
 rw[hu]
 replace F:=F.below U
 clear N
 have N:=F.x0.boxC
 go_wp2_with fail
 refine (zhT (Cx.mk z j true) L H A S (adv q) d zaE _ ((F.adv O).set0_1 _).m (by simp[adv])).mono ?_
 rintro e w3 ⟨S3,q3,z3,rfl,V,m3,s3⟩
 replace F:=(F.set0_1 _).stp m3 s3
 clear N
 have bb:=F.x1.boxC
 unfold pv
 go_wp2
 refine (F.x1.put ..).ret rfl rfl ?_
 rw[HV.out]
 exact (F.put1 ..).done rfl V.out
theorem zqn (z:List Tk) (j:Nat) (L H A:Nat) (S:Sv) (q:PS) (d:Nat) (w:World) (M:Mem (Cx.mk z j true) L H A S q w) (hk:((ze (Cx.mk z j true) q.pos).kind==2)=false) (ho:isT (Cx.mk z j true) q.pos 4 zr=false) (hp:q.pos<(Cx.mk z j true).ts.length) (hu:isT (Cx.mk z j true) q.pos 1 zaE=false) (hn:zH (Cx.mk z j true) q.pos false=true) (hd:isT (Cx.mk z j true) (q.pos+1) 4 cPoint=false):
  Calls Tryz.prog 182 #[pv (Cx.mk z j true) L H S q (-1) d] w (Out (Cx.mk z j true) L H A (pE (Cx.mk z j true) .part d q) d S w):=by
 have HM:=zc M
 have J:=M.tok
 have I:(Cx.mk z j true).ts.length≤4000:=M.few
 have ai:=(zav M.tok).1
 clear M
 have HV:Hid (pE (Cx.mk z j true) .part d q=zbp (Cx.mk z j true) (ze (Cx.mk z j true) q.pos).text (adv q)):=by show pE (Cx.mk z j true) .part d q=_;rw[zbM,hk,ho,hu,zo,hn];show (if isT (Cx.mk z j true) (adv q).pos 4 cPoint then _ else _)=_;rw[zz,hd];rfl
 have ak:q.pos<z.length:=hp
 obtain⟨X,_,_,_⟩:=J.cells hp (d:=⟨0,sNone,0,(Cx.mk z j true).fin⟩)
 change _=some (Value.int .i64 (ze (Cx.mk z j true) q.pos).kind) at X
 generalize (ze (Cx.mk z j true) q.pos).kind=kd at X hk
 unfold pv
 go_enter Tryz.func182,Tryz.ntmps182
 go_wp2_with fail
 refine (zj (Cx.mk z j true) L H A S q (-1) d 4 zr _ (zt (zt J _) _) I (by decide)).mono ?_
 rintro e w1 ⟨rfl,ah⟩
 rw[ho]
 have F:=HM.out.fm ah
 have ab:=F.x0.boxC
 go_wp2_with fail
 refine (zj (Cx.mk z j true) L H A S q (-1) d 1 zaE _ F.m.tok I (by decide)).mono ?_
 rintro e w2 ⟨rfl,ae⟩
 rw[hu]
 replace F:=F.below ae
 clear ab
 have ab:=F.x0.boxC
 go_wp2_with fail
 refine (zbt (Cx.mk z j true) L H A (.ok q) S q (-1) d false _ (zab q) F.m).mono ?_
 rintro e w3 ⟨S3,V,z3,n3,rfl,N,m3,s3⟩
 replace F:=F.stp m3 s3
 clear ab
 obtain⟨Y,rfl,O⟩:=zgC N.out hn
 have HQ:=zc Y
 have ac:=zc O
 have U:V.pos=q.pos+1:=by rw[Y];rfl
 have ag:isT (Cx.mk z j true) V.pos 4 cPoint=false:=by rw[U];exact hd
 clear Y O N
 have aj:w.heap.size+1<w3.heap.size:=F.x1.lt
 unfold pv
 clear U
 go_wp2_with fail
 refine (zj (Cx.mk z j true) L H A S3 V (-1) d 4 cPoint _ (F.alloc _).m.tok I (by decide)).mono ?_
 rintro e w4 ⟨rfl,af⟩
 rw[ag]
 replace F:=(F.new2 _).below af
 obtain⟨X,c1,c2,c3,c4,c5,c6,c7,c8,c9,ad,aa,cf⟩:=F.x2.box
 go_wp2_with fail
 refine (zhT (Cx.mk z j true) L H A S3 V d n3 _ F.m (by rw[HQ.out];simp[adv])).mono ?_
 rintro e w5 ⟨S5,q5,z5,rfl,Z,m5,s5⟩
 replace F:=F.stp m5 s5
 clear X c1 c2 c3 c4 c5 c6 c7 c8 c9 ad aa cf
 have bb:=F.x1.boxC
 unfold pv
 go_wp2
 refine (F.x1.put ..).ret rfl rfl ?_
 rw[HV.out,←HQ.out,←ac.out]
 exact (F.put1 ..).done rfl Z.out
theorem zqo (A:List Tk) (j:Nat) (J H z:Nat) (S:Sv) (q:PS) (d:Nat) (w:World) (hm:Mem (Cx.mk A j true) J H z S q w) (hk:((ze (Cx.mk A j true) q.pos).kind==2)=false) (ho:isT (Cx.mk A j true) q.pos 4 zr=false) (hp:q.pos<(Cx.mk A j true).ts.length) (hu:isT (Cx.mk A j true) q.pos 1 zaE=false) (hn:zH (Cx.mk A j true) q.pos false=true) (hd:isT (Cx.mk A j true) (q.pos+1) 4 cPoint=true):
  Calls Tryz.prog 182 #[pv (Cx.mk A j true) J H S q (-1) d] w (Out (Cx.mk A j true) J H z (pE (Cx.mk A j true) .part d q) d S w):=by
 have HM:=zc hm
 have M:=hm.tok
 have I:(Cx.mk A j true).ts.length≤4000:=hm.few
 have ao:=(zav hm.tok).1
 clear hm
 have HV:Hid (pE (Cx.mk A j true) .part d q=bd (bd (.ok (adv (adv q))) (zo (Cx.mk A j true) true)) fun y=>zbG (Cx.mk A j true) (ze (Cx.mk A j true) q.pos).text y.2 y.1):=by show pE (Cx.mk A j true) .part d q=_;rw[zbM,hk,ho,hu,zo,hn];show (if isT (Cx.mk A j true) (adv q).pos 4 cPoint then _ else _)=_;rw[zz,hd];rfl
 have aq:q.pos<A.length:=hp
 obtain⟨c0,_,_,_⟩:=M.cells hp (d:=⟨0,sNone,0,(Cx.mk A j true).fin⟩)
 change _=some (Value.int .i64 (ze (Cx.mk A j true) q.pos).kind) at c0
 generalize (ze (Cx.mk A j true) q.pos).kind=kd at c0 hk
 unfold pv
 go_enter Tryz.func182,Tryz.ntmps182
 go_wp2_with fail
 refine (zj (Cx.mk A j true) J H z S q (-1) d 4 zr _ (zt (zt M _) _) I (by decide)).mono ?_
 rintro e w1 ⟨rfl,al⟩
 rw[ho]
 have F:=HM.out.fm al
 have ab:=F.x0.boxC
 go_wp2_with fail
 refine (zj (Cx.mk A j true) J H z S q (-1) d 1 zaE _ F.m.tok I (by decide)).mono ?_
 rintro e w2 ⟨rfl,ah⟩
 rw[hu]
 replace F:=F.below ah
 clear ab
 have ab:=F.x0.boxC
 go_wp2_with fail
 refine (zbt (Cx.mk A j true) J H z (.ok q) S q (-1) d false _ (zab q) F.m).mono ?_
 rintro e w3 ⟨S3,N,z3,n3,rfl,ad,m3,s3⟩
 replace F:=F.stp m3 s3
 clear ab
 obtain⟨hq,rfl,X⟩:=zgC ad.out hn
 have HQ:=zc hq
 have Z:=zc X
 have ae:N.pos=q.pos+1:=by rw[hq];rfl
 have V:isT (Cx.mk A j true) N.pos 4 cPoint=true:=by rw[ae];exact hd
 clear hq X ad
 have ap:w.heap.size+1<w3.heap.size:=F.x1.lt
 unfold pv
 clear ae
 go_wp2_with fail
 refine (zj (Cx.mk A j true) J H z S3 N (-1) d 4 cPoint _ (F.alloc _).m.tok I (by decide)).mono ?_
 rintro e w4 ⟨rfl,ak⟩
 rw[V]
 replace F:=(F.new2 _).below ak
 obtain⟨c0,c1,c2,c3,c4,c5,c6,c7,c8,c9,ag,aj,cf⟩:=F.x2.box
 have aa:N.pos<(Cx.mk A j true).ts.length:=za9 V (by decide)
 have am:N.pos<A.length:=aa
 go_wp2_with fail
 refine (zbt (Cx.mk A j true) J H z (.ok (adv N)) S3 (adv N) (-1) d true _ (zab _) ((F.adv aa).set2_1 _).m).mono ?_
 rintro e w5 ⟨S5,q5,Y,n5,rfl,L,m5,s5⟩
 replace F:=(F.set2_1 _).stp m5 s5
 clear c0 c1 c2 c3 c4 c5 c6 c7 c8 c9 ag aj cf
 have an:w.heap.size+1<w5.heap.size:=F.x1.lt
 have af:w3.heap.size<w5.heap.size:=F.x2.lt
 cases hc:(decide (Y<0)&&isT (Cx.mk A j true) q5.pos 4 zr) with
 |true=>
  unfold pv
  go_wp2_with fail
  refine (zj (Cx.mk A j true) J H z S5 q5 Y d 4 zr _ (F.alloc _).m.tok I (by decide)).mono ?_
  rintro e w6 ⟨rfl,U⟩
  rw[hc]
  replace F:=(F.new3 _).below U
  have db:=F.x3.boxC
  go_wp2_with fail
  refine (zah (Cx.mk A j true) J H z _ S5 q5 Y d zr _ L.out.fst F.m).mono ?_
  rintro e w7 ⟨S7,q7,z7,rfl,O,m7,s7⟩
  replace F:=F.stp m7 s7
  clear db
  go_wp2_with fail
  refine (zah (Cx.mk A j true) J H z _ S7 q7 z7 d za8 _ O.out F.m).mono ?_
  rintro e w8 ⟨S8,q8,z8,rfl,ac,m8,s8⟩
  replace F:=F.stp m8 s8
  have db:=F.x3.boxC
  unfold pv
  go_wp2_with fail
  refine (zdk (Cx.mk A j true) J H z _ S8 q8 z8 d ⟨5,0,n3,n5,0,0⟩ _ ac.out (F.put3 ..).m (zbx ac.out)).mono ?_
  rintro e w9 ⟨S9,q9,z9,rfl,ai,m9,s9⟩
  replace F:=(F.put3 ..).stp m9 s9
  clear db
  have bb:=F.x1.boxC
  unfold pv
  go_wp2
  refine (F.x1.put ..).ret rfl rfl ?_
  rw[HV.out,←HQ.out,←Z.out,←zkv L.out hc]
  exact (F.put1 ..).done rfl ai.out
 |false=>
  unfold pv
  go_wp2_with fail
  refine (zj (Cx.mk A j true) J H z S5 q5 Y d 4 zr _ (F.alloc _).m.tok I (by decide)).mono ?_
  rintro e w6 ⟨rfl,U⟩
  rw[hc]
  replace F:=(F.new3 _).below U
  have db:=F.x3.boxC
  go_wp2_with fail
  refine (zdk (Cx.mk A j true) J H z _ S5 q5 Y d ⟨4,0,n3,n5,0,0⟩ _ L.out.fst F.m (zkx L.out)).mono ?_
  rintro e w7 ⟨S7,q7,z7,rfl,O,m7,s7⟩
  replace F:=F.stp m7 s7
  clear db
  have bb:=F.x1.boxC
  unfold pv
  go_wp2
  refine (F.x1.put ..).ret rfl rfl ?_
  rw[HV.out,←HQ.out,←Z.out,←zkw L.out hc]
  exact (F.put1 ..).done rfl O.out
theorem zqp (z:List Tk) (j:Nat) (J H A:Nat) (S:Sv) (q:PS) (d:Nat) (w:World) (L:Mem (Cx.mk z j false) J H A S q w) (N: ¬q.pos<(Cx.mk z j false).ts.length):
  Calls Tryz.prog 182 #[pv (Cx.mk z j false) J H S q (-1) d] w (Out (Cx.mk z j false) J H A (pE (Cx.mk z j false) .part d q) d S w):=by
 have HM:=zc L
 have I:=L.tok
 have M:(Cx.mk z j false).ts.length≤4000:=L.few
 have V:=(zav L.tok).1
 clear L
 have hk:((ze (Cx.mk z j false) q.pos).kind==2)=false:=by rw[zdF (by omega)];rfl
 have X:isT (Cx.mk z j false) q.pos 4 zr=false:=zfl N (by decide)
 have hu:isT (Cx.mk z j false) q.pos 1 zaE=false:=zfl N (by decide)
 have Y:zH (Cx.mk z j false) q.pos false=false:=zh0 N
 have HV:Hid (pE (Cx.mk z j false) .part d q= .error (zu (Cx.mk z j false) q.pos)):=by show pE (Cx.mk z j false) .part d q=_;rw[zbM,hk,X,zo,Y];rfl
 have aa: ¬q.pos<z.length:=N
 unfold pv
 go_enter Tryz.func182,Tryz.ntmps182
 go_wp2_with fail
 refine (zj (Cx.mk z j false) J H A S q (-1) d 4 zr _ (zt (zt I _) _) M (by decide)).mono ?_
 rintro e w1 ⟨rfl,U⟩
 rw[X]
 have F:=HM.out.fm U
 have ab:=F.x0.boxC
 go_wp2_with fail
 refine (zbt (Cx.mk z j false) J H A (.ok q) S q (-1) d false _ (zab q) F.m).mono ?_
 rintro e w2 ⟨S2,q2,z2,n2,rfl,O,m2,s2⟩
 replace F:=F.stp m2 s2
 clear ab
 obtain rfl:=zgD O.out Y
 have dz:decide ((0:Int)≤(zu (Cx.mk z j false) q.pos:Int))=true:=decide_eq_true (by omega)
 have Z:w.heap.size+1<w2.heap.size:=F.x1.lt
 unfold pv
 go_upto_region 17 with fail
 refine (F.new2 _).cut ?_
 intro w3 F
 have bb:=F.x1.boxC
 have cb:=F.x2.boxC
 go_wp2
 refine (F.x1.put ..).ret rfl rfl ?_
 rw[HV.out]
 exact (F.put1 ..).done rfl (show Is (.error (zu (Cx.mk z j false) q.pos)) q2 _ from rfl)
theorem zqq (z:List Tk) (j:Nat) (J H A:Nat) (S:Sv) (q:PS) (d:Nat) (w:World) (L:Mem (Cx.mk z j false) J H A S q w) (V:((ze (Cx.mk z j false) q.pos).kind==2)=false) (Z:isT (Cx.mk z j false) q.pos 4 zr=false) (Y:q.pos<(Cx.mk z j false).ts.length) (hn:zH (Cx.mk z j false) q.pos false=false):
  Calls Tryz.prog 182 #[pv (Cx.mk z j false) J H S q (-1) d] w (Out (Cx.mk z j false) J H A (pE (Cx.mk z j false) .part d q) d S w):=by
 have HM:=zc L
 have I:=L.tok
 have M:(Cx.mk z j false).ts.length≤4000:=L.few
 have X:=(zav L.tok).1
 clear L
 have HV:Hid (pE (Cx.mk z j false) .part d q= .error (zu (Cx.mk z j false) q.pos)):=by show pE (Cx.mk z j false) .part d q=_;rw[zbM,V,Z,zo,hn];rfl
 have ac:q.pos<z.length:=Y
 obtain⟨U,_,_,_⟩:=I.cells Y (d:=⟨0,sNone,0,(Cx.mk z j false).fin⟩)
 change _=some (Value.int .i64 (ze (Cx.mk z j false) q.pos).kind) at U
 generalize (ze (Cx.mk z j false) q.pos).kind=kd at U V
 unfold pv
 go_enter Tryz.func182,Tryz.ntmps182
 go_wp2_with fail
 refine (zj (Cx.mk z j false) J H A S q (-1) d 4 zr _ (zt (zt I _) _) M (by decide)).mono ?_
 rintro e w1 ⟨rfl,O⟩
 rw[Z]
 have F:=HM.out.fm O
 have ab:=F.x0.boxC
 go_wp2_with fail
 refine (zbt (Cx.mk z j false) J H A (.ok q) S q (-1) d false _ (zab q) F.m).mono ?_
 rintro e w2 ⟨S2,q2,z2,n2,rfl,N,m2,s2⟩
 replace F:=F.stp m2 s2
 clear ab
 obtain rfl:=zgD N.out hn
 have dz:decide ((0:Int)≤(zu (Cx.mk z j false) q.pos:Int))=true:=decide_eq_true (by omega)
 have aa:w.heap.size+1<w2.heap.size:=F.x1.lt
 unfold pv
 go_upto_region 17 with fail
 refine (F.new2 _).cut ?_
 intro w3 F
 have bb:=F.x1.boxC
 obtain⟨U,c1,c2,c3,c4,c5,c6,c7,c8,c9,ae,ad,cf⟩:=F.x2.box
 go_wp2
 refine (F.x1.put ..).ret rfl rfl ?_
 rw[HV.out]
 exact (F.put1 ..).done rfl (show Is (.error (zu (Cx.mk z j false) q.pos)) q2 _ from rfl)
theorem zkz (I:List Tk) (j:Nat) (L H z:Nat) (S:Sv) (q:PS) (d:Nat) (w:World) (M:Mem (Cx.mk I j false) L H z S q w) (A:Nat):
  Calls Tryz.prog 182 #[pv (Cx.mk I j false) L H S q (A:Int) d] w (Out (Cx.mk I j false) L H z (.error A) d S w):=by
 have Z:=zc M
 have J:=M.tok
 have N:(Cx.mk I j false).ts.length≤4000:=M.few
 have V:=(zav M.tok).1
 clear M
 have hz: ¬(A:Int)<0:=by omega
 have hs: ∀k s,(decide ((A:Int)<0)&&isT (Cx.mk I j false) q.pos k s)=false:=fun k s=>by rw[decide_eq_false hz];rfl
 unfold pv
 go_enter Tryz.func182,Tryz.ntmps182
 go_wp2_with fail
 refine (zj (Cx.mk I j false) L H z S q (A:Int) d 4 zr _ (zt (zt J _) _) N (by decide)).mono ?_
 rintro e w1 ⟨rfl,U⟩
 rw[hs]
 have F:=Z.out.fm U
 have ab:=F.x0.boxC
 go_wp2_with fail
 refine (zbt (Cx.mk I j false) L H z (.error A) S q (A:Int) d false _ (show Is (.error A) q _ from rfl) F.m).mono ?_
 rintro e w2 ⟨S2,q2,z2,n2,rfl,O,Y,s2⟩
 replace F:=F.stp Y s2
 clear ab
 obtain rfl:z2=(A:Int):=O.out
 have dz:decide ((0:Int)≤(A:Int))=true:=decide_eq_true (by omega)
 have X:w.heap.size+1<w2.heap.size:=F.x1.lt
 unfold pv
 go_upto_region 17 with fail
 refine (F.new2 _).cut ?_
 intro w3 F
 have bb:=F.x1.boxC
 have cb:=F.x2.boxC
 go_wp2
 refine (F.x1.put ..).ret rfl rfl ?_
 exact (F.put1 ..).done rfl (show Is (.error A) q2 _ from rfl)
theorem zqr (z:List Tk) (j:Nat) (L H A:Nat) (S:Sv) (q:PS) (d:Nat) (w:World) (N:Mem (Cx.mk z j false) L H A S q w) (hk:((ze (Cx.mk z j false) q.pos).kind==2)=false) (ho:isT (Cx.mk z j false) q.pos 4 zr=false) (hp:q.pos<(Cx.mk z j false).ts.length) (hn:zH (Cx.mk z j false) q.pos false=true) (hd:isT (Cx.mk z j false) (q.pos+1) 4 cPoint=false):
  Calls Tryz.prog 182 #[pv (Cx.mk z j false) L H S q (-1) d] w (Out (Cx.mk z j false) L H A (pE (Cx.mk z j false) .part d q) d S w):=by
 have HM:=zc N
 have I:=N.tok
 have J:(Cx.mk z j false).ts.length≤4000:=N.few
 have ah:=(zav N.tok).1
 clear N
 have HV:Hid (pE (Cx.mk z j false) .part d q=zbp (Cx.mk z j false) (ze (Cx.mk z j false) q.pos).text (adv q)):=by show pE (Cx.mk z j false) .part d q=_;rw[zbM,hk,ho,zo,hn];show (if isT (Cx.mk z j false) (adv q).pos 4 cPoint then _ else _)=_;rw[zz,hd];rfl
 have aj:q.pos<z.length:=hp
 obtain⟨V,_,_,_⟩:=I.cells hp (d:=⟨0,sNone,0,(Cx.mk z j false).fin⟩)
 change _=some (Value.int .i64 (ze (Cx.mk z j false) q.pos).kind) at V
 generalize (ze (Cx.mk z j false) q.pos).kind=kd at V hk
 unfold pv
 go_enter Tryz.func182,Tryz.ntmps182
 go_wp2_with fail
 refine (zj (Cx.mk z j false) L H A S q (-1) d 4 zr _ (zt (zt I _) _) J (by decide)).mono ?_
 rintro e w1 ⟨rfl,af⟩
 rw[ho]
 have F:=HM.out.fm af
 have ab:=F.x0.boxC
 go_wp2_with fail
 refine (zbt (Cx.mk z j false) L H A (.ok q) S q (-1) d false _ (zab q) F.m).mono ?_
 rintro e w2 ⟨S2,X,z2,n2,rfl,M,m2,s2⟩
 replace F:=F.stp m2 s2
 clear ab
 obtain⟨Y,rfl,O⟩:=zgC M.out hn
 have HQ:=zc Y
 have ac:=zc O
 have U:X.pos=q.pos+1:=by rw[Y];rfl
 have ae:isT (Cx.mk z j false) X.pos 4 cPoint=false:=by rw[U];exact hd
 clear Y O M
 have ai:w.heap.size+1<w2.heap.size:=F.x1.lt
 unfold pv
 clear U
 go_wp2_with fail
 refine (zj (Cx.mk z j false) L H A S2 X (-1) d 4 cPoint _ (F.alloc _).m.tok J (by decide)).mono ?_
 rintro e w3 ⟨rfl,ag⟩
 rw[ae]
 replace F:=(F.new2 _).below ag
 obtain⟨V,c1,c2,c3,c4,c5,c6,c7,c8,c9,ad,Z,cf⟩:=F.x2.box
 go_wp2_with fail
 refine (zhT (Cx.mk z j false) L H A S2 X d n2 _ F.m (by rw[HQ.out];simp[adv])).mono ?_
 rintro e w4 ⟨S4,q4,z4,rfl,aa,m4,s4⟩
 replace F:=F.stp m4 s4
 clear V c1 c2 c3 c4 c5 c6 c7 c8 c9 ad Z cf
 have bb:=F.x1.boxC
 unfold pv
 go_wp2
 refine (F.x1.put ..).ret rfl rfl ?_
 rw[HV.out,←HQ.out,←ac.out]
 exact (F.put1 ..).done rfl aa.out
theorem zqs (A:List Tk) (j:Nat) (J H z:Nat) (S:Sv) (q:PS) (d:Nat) (w:World) (hm:Mem (Cx.mk A j false) J H z S q w) (hk:((ze (Cx.mk A j false) q.pos).kind==2)=false) (ho:isT (Cx.mk A j false) q.pos 4 zr=false) (hp:q.pos<(Cx.mk A j false).ts.length) (hn:zH (Cx.mk A j false) q.pos false=true) (hd:isT (Cx.mk A j false) (q.pos+1) 4 cPoint=true):
  Calls Tryz.prog 182 #[pv (Cx.mk A j false) J H S q (-1) d] w (Out (Cx.mk A j false) J H z (pE (Cx.mk A j false) .part d q) d S w):=by
 have HM:=zc hm
 have M:=hm.tok
 have I:(Cx.mk A j false).ts.length≤4000:=hm.few
 have an:=(zav hm.tok).1
 clear hm
 have HV:Hid (pE (Cx.mk A j false) .part d q=bd (bd (.ok (adv (adv q))) (zo (Cx.mk A j false) true)) fun y=>zbG (Cx.mk A j false) (ze (Cx.mk A j false) q.pos).text y.2 y.1):=by show pE (Cx.mk A j false) .part d q=_;rw[zbM,hk,ho,zo,hn];show (if isT (Cx.mk A j false) (adv q).pos 4 cPoint then _ else _)=_;rw[zz,hd];rfl
 have ap:q.pos<A.length:=hp
 obtain⟨c0,_,_,_⟩:=M.cells hp (d:=⟨0,sNone,0,(Cx.mk A j false).fin⟩)
 change _=some (Value.int .i64 (ze (Cx.mk A j false) q.pos).kind) at c0
 generalize (ze (Cx.mk A j false) q.pos).kind=kd at c0 hk
 unfold pv
 go_enter Tryz.func182,Tryz.ntmps182
 go_wp2_with fail
 refine (zj (Cx.mk A j false) J H z S q (-1) d 4 zr _ (zt (zt M _) _) I (by decide)).mono ?_
 rintro e w1 ⟨rfl,ak⟩
 rw[ho]
 have F:=HM.out.fm ak
 have ab:=F.x0.boxC
 go_wp2_with fail
 refine (zbt (Cx.mk A j false) J H z (.ok q) S q (-1) d false _ (zab q) F.m).mono ?_
 rintro e w2 ⟨S2,O,z2,n2,rfl,X,m2,s2⟩
 replace F:=F.stp m2 s2
 clear ab
 obtain⟨hq,rfl,Z⟩:=zgC X.out hn
 have HQ:=zc hq
 have ac:=zc Z
 have ae:O.pos=q.pos+1:=by rw[hq];rfl
 have Y:isT (Cx.mk A j false) O.pos 4 cPoint=true:=by rw[ae];exact hd
 clear hq Z X
 have ao:w.heap.size+1<w2.heap.size:=F.x1.lt
 unfold pv
 clear ae
 go_wp2_with fail
 refine (zj (Cx.mk A j false) J H z S2 O (-1) d 4 cPoint _ (F.alloc _).m.tok I (by decide)).mono ?_
 rintro e w3 ⟨rfl,ah⟩
 rw[Y]
 replace F:=(F.new2 _).below ah
 obtain⟨c0,c1,c2,c3,c4,c5,c6,c7,c8,c9,ag,ai,cf⟩:=F.x2.box
 have ad:O.pos<(Cx.mk A j false).ts.length:=za9 Y (by decide)
 have al:O.pos<A.length:=ad
 go_wp2_with fail
 refine (zbt (Cx.mk A j false) J H z (.ok (adv O)) S2 (adv O) (-1) d true _ (zab _) ((F.adv ad).set2_1 _).m).mono ?_
 rintro e w4 ⟨S4,q4,V,n4,rfl,L,m4,s4⟩
 replace F:=(F.set2_1 _).stp m4 s4
 clear c0 c1 c2 c3 c4 c5 c6 c7 c8 c9 ag ai cf
 have am:w.heap.size+1<w4.heap.size:=F.x1.lt
 have af:w2.heap.size<w4.heap.size:=F.x2.lt
 cases hc:(decide (V<0)&&isT (Cx.mk A j false) q4.pos 4 zr) with
 |true=>
  unfold pv
  go_wp2_with fail
  refine (zj (Cx.mk A j false) J H z S4 q4 V d 4 zr _ (F.alloc _).m.tok I (by decide)).mono ?_
  rintro e w5 ⟨rfl,U⟩
  rw[hc]
  replace F:=(F.new3 _).below U
  have db:=F.x3.boxC
  go_wp2_with fail
  refine (zah (Cx.mk A j false) J H z _ S4 q4 V d zr _ L.out.fst F.m).mono ?_
  rintro e w6 ⟨S6,q6,z6,rfl,N,m6,s6⟩
  replace F:=F.stp m6 s6
  clear db
  go_wp2_with fail
  refine (zah (Cx.mk A j false) J H z _ S6 q6 z6 d za8 _ N.out F.m).mono ?_
  rintro e w7 ⟨S7,q7,z7,rfl,aa,m7,s7⟩
  replace F:=F.stp m7 s7
  have db:=F.x3.boxC
  unfold pv
  go_wp2_with fail
  refine (zdk (Cx.mk A j false) J H z _ S7 q7 z7 d ⟨5,0,n2,n4,0,0⟩ _ aa.out (F.put3 ..).m (zbx aa.out)).mono ?_
  rintro e w8 ⟨S8,q8,z8,rfl,aj,m8,s8⟩
  replace F:=(F.put3 ..).stp m8 s8
  clear db
  have bb:=F.x1.boxC
  unfold pv
  go_wp2
  refine (F.x1.put ..).ret rfl rfl ?_
  rw[HV.out,←HQ.out,←ac.out,←zkv L.out hc]
  exact (F.put1 ..).done rfl aj.out
 |false=>
  unfold pv
  go_wp2_with fail
  refine (zj (Cx.mk A j false) J H z S4 q4 V d 4 zr _ (F.alloc _).m.tok I (by decide)).mono ?_
  rintro e w5 ⟨rfl,U⟩
  rw[hc]
  replace F:=(F.new3 _).below U
  have db:=F.x3.boxC
  go_wp2_with fail
  refine (zdk (Cx.mk A j false) J H z _ S4 q4 V d ⟨4,0,n2,n4,0,0⟩ _ L.out.fst F.m (zkx L.out)).mono ?_
  rintro e w6 ⟨S6,q6,z6,rfl,N,m6,s6⟩
  replace F:=F.stp m6 s6
  clear db
  have bb:=F.x1.boxC
  unfold pv
  go_wp2
  refine (F.x1.put ..).ret rfl rfl ?_
  rw[HV.out,←HQ.out,←ac.out,←zkw L.out hc]
  exact (F.put1 ..).done rfl N.out
def zhU (C:Cx) (gt cap base m:Nat):Prop:=∀(x:PR) (S:Sv) (q:PS) (z:Int) (d:Nat) (w:World),Is x q z→Mem C gt cap base S q w→(z<0→C.ts.length-q.pos<m)→d≤20→
 Calls Tryz.prog 182 #[pv C gt cap S q z d] w (Out C gt cap base (bd x (pE C .part d)) d S w)
def zk0 (C:Cx) (gt cap base m:Nat):Prop:=∀(x:PR) (S:Sv) (q:PS) (z:Int) (d:Nat) (w:World),Is x q z→Mem C gt cap base S q w→(z<0→C.ts.length-q.pos<m)→d≤20→
 Calls Tryz.prog 150 #[pv C gt cap S q z d] w (Out C gt cap base (bd x (pE C .prod d)) d S w)
theorem SumOK.mono {C:Cx} {H A j m k:Nat} (h:SumOK C H A j m) (I:k≤m):SumOK C H A j k:=fun x S q z d w M J N L=>h x S q z d w M J (fun g=>Nat.lt_of_lt_of_le (N g) I) L
theorem zqt {C:Cx} {J H j m:Nat} (hS:SumOK C J H j m):zhU C J H j (m+1):=by
 intro x S q z d w hx L hl U
 by_cases Z:z<0
 ·obtain⟨rfl,rfl⟩:=zaH hx Z
  rw[zC]
  have ab:SumOK C J H j (C.ts.length-q.pos):=hS.mono (by have:=hl Z;omega)
  cases M:((ze C q.pos).kind==2) with
  |true=>exact zqh C J H j S q d w L M
  |false=>
   cases O:isT C q.pos 4 zr with
   |true=>
    by_cases aa:20≤d
    ·exact zqi C J H j S q d w L M O aa U
    ·exact zqj C J H j S q d w L M O (by omega) ab
   |false=>
    obtain⟨I,A,V⟩:=C
    cases V with
    |true=>
     by_cases N:q.pos<I.length
     ·cases Y:isT (Cx.mk I A true) q.pos 1 zaE with
      |true=>exact zqm I A J H j S q d w L M O N Y
      |false=>
       cases X:zH (Cx.mk I A true) q.pos false with
       |false=>exact zql I A J H j S q d w L M O N Y X
       |true=>
        cases U:isT (Cx.mk I A true) (q.pos+1) 4 cPoint with
        |false=>exact zqn I A J H j S q d w L M O N Y X U
        |true=>exact zqo I A J H j S q d w L M O N Y X U
     ·exact zqk I A J H j S q d w L N
    |false=>
     by_cases N:q.pos<I.length
     ·cases X:zH (Cx.mk I A false) q.pos false with
      |false=>exact zqq I A J H j S q d w L M O N X
      |true=>
       cases U:isT (Cx.mk I A false) (q.pos+1) 4 cPoint with
       |false=>exact zqr I A J H j S q d w L M O N X U
       |true=>exact zqs I A J H j S q d w L M O N X U
     ·exact zqp I A J H j S q d w L N
 ·obtain⟨e,rfl,rfl⟩:=zd3 hx Z
  rw[zez]
  obtain⟨I,A,V⟩:=C
  cases V with
  |true=>exact zky I A J H j S q d w L e
  |false=>exact zkz I A J H j S q d w L e
theorem zhV {C:Cx} {x:PR} {q:PS} {z:Int} (h:Is x q z) (F:PS→Ex):bd x (zQ C (F q))=bd x fun q'=>zQ C (F q') q':=by
 cases x with
 |ok a=>obtain⟨rfl,_⟩:=h;rfl
 |error e=>rfl
theorem zk1 {C:Cx} {y:PS→Ex} {x:PR} {q:PS} {n:Nat} (A: ∀a,x= .ok a→n≤a.pos) (h:(bd x fun q'=>zQ C (y q') q')= .ok q):n≤q.pos:=by
 obtain⟨a,j,z⟩:=zf h
 obtain⟨rfl,_⟩:=zbr z
 exact A a j
theorem zqu {C:Cx} {d m:Nat} {x:PR} {q A:PS} {z j:Int} (M:Is x q z) (J:Is (bd x (pE C .part d)) A j) (I:z<0→C.ts.length-q.pos<m) (N:j<0):C.ts.length-A.pos<m:=by
 obtain⟨e,_⟩:=zaH J N
 obtain⟨a,H,L⟩:=zf e
 subst H
 obtain⟨rfl,rfl⟩:=M
 have:=zbh L
 have:=I (by decide)
 omega
theorem zqv {C:Cx} {d m:Nat} {x:PR} {q A:PS} {z j:Int} (M:Is x q z) (J:Is (bd x (pE C .prod d)) A j) (I:z<0→C.ts.length-q.pos<m) (N:j<0):C.ts.length-A.pos<m:=by
 obtain⟨e,_⟩:=zaH J N
 obtain⟨a,H,L⟩:=zf e
 subst H
 obtain⟨rfl,rfl⟩:=M
 have:=zbh L
 have:=I (by decide)
 omega
theorem zqw {C:Cx} {d:Nat} {j q:PS} {z:Int} (h:Is (bd (.ok (adv j)) (pE C .part d)) q z) (A:z<0):1≤q.pos:=by
 obtain⟨e,_⟩:=zaH h A
 have:=zbh (show pE C .part d (adv j)= .ok q from e)
 rw[zz] at this
 omega
theorem zk2 {C:Cx} {d:Nat} {j q:PS} {z:Int} (h:Is (bd (.ok (adv j)) (pE C .prod d)) q z) (A:z<0):1≤q.pos:=by
 obtain⟨e,_⟩:=zaH h A
 have:=zbh (show pE C .prod d (adv j)= .ok q from e)
 rw[zz] at this
 omega
theorem zqx {C:Cx} {d:Nat} {F:PS→Ex} {j q:PS} {z:Int} (h:Is (bd (bd (.ok (adv j)) (pE C .part d)) fun q'=>zQ C (F q') q') q z) (H:z<0):j.pos+1≤q.pos:=by
 obtain⟨e,_⟩:=zaH h H
 exact zk1 (fun a A=>by have:=zbh (show pE C .part d (adv j)= .ok a from A);rw[zz] at this;exact this) e
theorem zk3 {C:Cx} {d:Nat} {F:PS→Ex} {j q:PS} {z:Int} (h:Is (bd (bd (.ok (adv j)) (pE C .prod d)) fun q'=>zQ C (F q') q') q z) (H:z<0):j.pos+1≤q.pos:=by
 obtain⟨e,_⟩:=zaH h H
 exact zk1 (fun a A=>by have:=zbh (show pE C .prod d (adv j)= .ok a from A);rw[zz] at this;exact this) e
theorem zqy {C:Cx} {d:Nat} {q:PS} (j:isT C q.pos 4 zy=true) (_:q.pos<C.ts.length):
  bd (.ok q) (pE C .prodT d)=bd (bd (bd (.ok (adv q)) (pE C .part d)) fun q'=>zQ C ⟨8,0,sNone,sNone,(q.ex.length:Int)-1,(q'.ex.length:Int)-1⟩ q') (pE C .prodT d):=by
 show pE C .prodT d q=_
 rw[zfX,if_pos j]
 rfl
theorem zk4 {C:Cx} {d:Nat} {q:PS} {k:Int} (j:(isT C q.pos 4 zcu||isT C q.pos 4 zbo)=true) (z:zdz C q.pos=k) (_:q.pos<C.ts.length):
  bd (.ok q) (pE C .sumT d)=bd (bd (bd (.ok (adv q)) (pE C .prod d)) fun q'=>zQ C ⟨k,0,sNone,sNone,(q.ex.length:Int)-1,(q'.ex.length:Int)-1⟩ q') (pE C .sumT d):=by
 show pE C .sumT d q=_
 rw[zfd,if_pos j,z]
 rfl
theorem zqz {C:Cx} {d:Nat} {x:PR} {q:PS} {z:Int} (A:Is x q z) (j:(decide (z<0)&&isT C q.pos 4 zy)=false):Is (bd x (pE C .prodT d)) q z:=by
 cases x with
 |ok a=>
  obtain⟨rfl,rfl⟩:=A
  rw[Bool.and_eq_false_iff] at j
  rw[zC,zfX,j.resolve_left (by decide)]
  exact⟨rfl,rfl⟩
 |error e=>exact A
theorem zq0 {C:Cx} {d:Nat} {x:PR} {q:PS} {z:Int} (H:Is x q z) (A:(decide (z<0)&&isT C q.pos 4 zcu)=false) (j:(decide (z<0)&&isT C q.pos 4 zbo)=false):Is (bd x (pE C .sumT d)) q z:=by
 cases x with
 |ok a=>
  obtain⟨rfl,rfl⟩:=H
  rw[Bool.and_eq_false_iff] at A j
  rw[zC,zfd,A.resolve_left (by decide),j.resolve_left (by decide)]
  exact⟨rfl,rfl⟩
 |error e=>exact H
theorem zq1 {C:Cx} {i:Nat} (h:isT C i 4 zcu=true):isT C i 4 zbo=false:=by
 simp only[isT,Bool.and_eq_true,beq_iff_eq] at h
 simp only[isT,h.2]
 rw[Bool.and_eq_false_iff]
 exact .inr (by simp)
theorem zk5 {C:Cx} {M I j m:Nat} (hP:zhU C M I j m):zk0 C M I j m:=by
 intro x S q z d w hx hm hl N
 have HP:=zc hP
 have HM:=zc hm
 have HX:=zc hx
 have HL:=zc hl
 have U:=hm.few
 clear hP hm hx hl
 unfold pv
 go_enter Tryz.func150,Tryz.ntmps150
 go_wp2_with fail
 refine (HP.out x S q z d _ HX.out ((HM.out.alloc _).alloc _) HL.out N).mono ?_
 rintro e w1 ⟨S1,q1,z1,rfl,aa,m1,s1⟩
 have F:=HM.out.fm2 m1 s1
 have J:=F.x0.boxC
 unfold pv
 go_wp2
 go_loopg [] (C.ts.length+1) (fun k wr=>∃(x':PR) (H:Sv) (A:PS) (z':Int),Is x' A z'∧bd x' (pE C .prodT d)=bd x (pE C .prod d)∧(z'<0→C.ts.length-A.pos<k)∧(z'<0→C.ts.length-A.pos<m)∧Mem C M I j H A wr∧SB w.heap.size S w H wr∧Bx M H wr w.heap.size #[.slice (some ⟨M,0,none⟩) C.ts.length I,.int .i64 A.pos,.int .i64 C.fin,.bool C.scr,.slice H.rq.a A.rq.length H.rq.cap,.slice H.im.a A.im.length H.im.cap,.slice H.ep.a A.ep.length H.ep.cap,.slice H.st.a A.st.length H.st.cap,.slice H.ex.a A.ex.length H.ex.cap,.slice H.la.a A.la.length H.la.cap,.int .i64 z',.int .i64 d]∧Bx M H wr (w.heap.size+1) #[.slice none 0 0,.int .i64 0,.int .i64 0,.bool false,.slice none 0 0,.slice none 0 0,.slice none 0 0,.slice none 0 0,.slice none 0 0,.slice none 0 0,.int .i64 0,.int .i64 0])
 case atStart=>exact⟨_,S1,q1,z1,aa.out,by rw[zP];exact zaf fun a _=>(ziM C d a).symm,fun _=>by omega,fun Z=>zqu HX.out aa.out HL.out Z,(F.put0 ..).m,(F.put0 ..).t,(F.put0 ..).x0,(F.put0 ..).x1⟩
 case round=>
  obtain⟨x2,S2,L,z2,i2,e2,l2,b2,m2,t2,X0,X1⟩:=hrel
  have F:=Fm.of2 X0 X1 m2 t2 (by omega) (by omega) (by omega)
  have Y:=zc i2
  have ac:=zc e2
  have af:=zc l2
  have ae:=zc b2
  have ak:=m2.inv.ex
  clear X0 X1 i2 m2 t2 e2 l2 b2
  cases hc:(decide (z2<0)&&isT C L.pos 4 zy) with
  |true=>
   have J:=F.x0.boxC
   go_wp2_with fail
   refine (zj C M I j S2 L z2 d 4 zy _ F.m.tok U (by decide)).mono ?_
   rintro e w3 ⟨rfl,X⟩
   rw[hc]
   replace F:=F.below X
   clear J
   rw[Bool.and_eq_true,decide_eq_true_eq] at hc
   obtain⟨Z,hs⟩:=hc
   have hp:L.pos<C.ts.length:=za9 hs (by decide)
   obtain⟨rfl,rfl⟩:=zaH Y.out Z
   have ah:=af.out Z
   have al:=ae.out Z
   skip
   have J:=F.x0.boxC
   go_wp2_with fail
   refine (HP.out (.ok (adv L)) S2 (adv L) (-1) d _ (zab _) ((F.adv hp).set0_1 _).m (fun _=>by rw[zz];omega) N).mono ?_
   rintro e w4 ⟨S4,q4,z4,rfl,V,m4,s4⟩
   replace F:=(F.set0_1 _).stp m4 s4
   clear J
   have J:=F.x0.boxC
   unfold pv
   go_upto_region 6 with fail
   refine (F.put0 ..).cut ?_
   clear J
   intro w5 F
   have J:=F.x0.boxC
   have ag:=F.m.inv.ex
   go_wp2_with fail
   refine (zdk C M I j _ S4 q4 z4 d ⟨8,0,sNone,sNone,(L.ex.length:Int)-1,(q4.ex.length:Int)-1⟩ _ V.out F.m (fun h=>zqw V.out h)).mono ?_
   rintro e w6 ⟨S6,q6,z6,rfl,ad,m6,s6⟩
   replace F:=F.stp m6 s6
   clear J
   have HI:Hid (Is (bd (bd (.ok (adv L)) (pE C .part d)) fun A=>zQ C ⟨8,0,sNone,sNone,(L.ex.length:Int)-1,(A.ex.length:Int)-1⟩ A) q6 z6):=by rw[←zhV V.out (fun A=>⟨8,0,sNone,sNone,(L.ex.length:Int)-1,(A.ex.length:Int)-1⟩)];exact ad.out
   have O:Hid (z6<0→L.pos+1≤q6.pos):=fun h=>zqx HI.out h
   have J:=F.x0.boxC
   unfold pv
   go_wp2
   go_roundg (gk-1)
   case rel=>exact⟨_,S6,q6,z6,HI.out,by rw[←ac.out];exact (zqy (d:=d) hs hp).symm,fun h=>by have:=O.out h;omega,fun h=>by have:=O.out h;omega,(F.put0 ..).m,(F.put0 ..).t,(F.put0 ..).x0,(F.put0 ..).x1⟩
   case measure=>omega
  |false=>
   have J:=F.x0.boxC
   go_wp2_with fail
   refine (zj C M I j S2 L z2 d 4 zy _ F.m.tok U (by decide)).mono ?_
   rintro e w3 ⟨rfl,X⟩
   rw[hc]
   replace F:=F.below X
   clear J
   have J:=F.x0.boxC
   obtain⟨b0,b1,b2,b3,b4,b5,b6,b7,b8,b9,aj,ai,bf⟩:=F.x1.box
   go_wp2
   refine (F.x1.put ..).ret rfl rfl ?_
   exact (F.put1 ..).done rfl (show Is (bd x (pE C .prod d)) L z2 from by rw[←ac.out];exact zqz Y.out hc)
theorem zk6 {C:Cx} {U I j m:Nat} (hP:zk0 C U I j m):SumOK C U I j m:=by
 intro x S q z d w hx hm hl V
 have HP:=zc hP
 have HM:=zc hm
 have HX:=zc hx
 have HL:=zc hl
 have L:=hm.few
 clear hP hm hx hl
 unfold pv
 go_enter Tryz.func111,Tryz.ntmps111
 go_wp2_with fail
 refine (HP.out x S q z d _ HX.out ((HM.out.alloc _).alloc _) HL.out V).mono ?_
 rintro e w1 ⟨S1,q1,z1,rfl,ag,m1,s1⟩
 have F:=HM.out.fm2 m1 s1
 have H:=F.x0.boxC
 unfold pv
 go_wp2
 go_loopg [] (C.ts.length+1) (fun k wr=>∃(x':PR) (O:Sv) (J:PS) (z':Int),Is x' J z'∧bd x' (pE C .sumT d)=bd x (pE C .sum d)∧(z'<0→C.ts.length-J.pos<k)∧(z'<0→C.ts.length-J.pos<m)∧Mem C U I j O J wr∧SB w.heap.size S w O wr∧Bx U O wr w.heap.size #[.slice (some ⟨U,0,none⟩) C.ts.length I,.int .i64 J.pos,.int .i64 C.fin,.bool C.scr,.slice O.rq.a J.rq.length O.rq.cap,.slice O.im.a J.im.length O.im.cap,.slice O.ep.a J.ep.length O.ep.cap,.slice O.st.a J.st.length O.st.cap,.slice O.ex.a J.ex.length O.ex.cap,.slice O.la.a J.la.length O.la.cap,.int .i64 z',.int .i64 d]∧Bx U O wr (w.heap.size+1) #[.slice none 0 0,.int .i64 0,.int .i64 0,.bool false,.slice none 0 0,.slice none 0 0,.slice none 0 0,.slice none 0 0,.slice none 0 0,.slice none 0 0,.int .i64 0,.int .i64 0])
 case atStart=>exact⟨_,S1,q1,z1,ag.out,by rw[zP];exact zaf fun a _=>(ziL C d a).symm,fun _=>by omega,fun Z=>zqv HX.out ag.out HL.out Z,(F.put0 ..).m,(F.put0 ..).t,(F.put0 ..).x0,(F.put0 ..).x1⟩
 case round=>
  obtain⟨x2,S2,A,Y,i2,e2,l2,b2,m2,t2,X0,X1⟩:=hrel
  have F:=Fm.of2 X0 X1 m2 t2 (by omega) (by omega) (by omega)
  have aa:=zc i2
  have af:=zc e2
  have ai:=zc l2
  have ah:=zc b2
  have au:=m2.inv.ex
  clear X0 X1 i2 m2 t2 e2 l2 b2
  cases hc:(decide (Y<0)&&isT C A.pos 4 zcu) with
  |true=>
   have H:=F.x0.boxC
   go_wp2_with fail
   refine (zj C U I j S2 A Y d 4 zcu _ F.m.tok L (by decide)).mono ?_
   rintro e w3 ⟨rfl,ad⟩
   rw[hc]
   replace F:=F.below ad
   clear H
   rw[Bool.and_eq_true,decide_eq_true_eq] at hc
   obtain⟨Z,hs⟩:=hc
   have aj:isT C A.pos 4 zbo=false:=zq1 hs
   have M:(decide (Y<0)&&isT C A.pos 4 zbo)=false:=by rw[aj,Bool.and_false]
   have H:=F.x0.boxC
   go_wp2_with fail
   refine (zj C U I j S2 A Y d 4 zbo _ F.m.tok L (by decide)).mono ?_
   rintro e w4 ⟨rfl,X⟩
   rw[M]
   replace F:=F.below X
   clear H
   clear M
   have hp:A.pos<C.ts.length:=za9 hs (by decide)
   obtain⟨rfl,rfl⟩:=zaH aa.out Z
   have al:=ai.out Z
   have ap:=ah.out Z
   skip
   have H:=F.x0.boxC
   go_wp2_with fail
   refine (HP.out (.ok (adv A)) S2 (adv A) (-1) d _ (zab _) ((F.adv hp).set0_1 _).m (fun _=>by rw[zz];omega) V).mono ?_
   rintro e w5 ⟨S5,q5,z5,rfl,ae,m5,s5⟩
   replace F:=(F.set0_1 _).stp m5 s5
   clear H
   have H:=F.x0.boxC
   unfold pv
   go_upto_region 9 with fail
   refine (F.put0 ..).cut ?_
   clear H
   intro w6 F
   have H:=F.x0.boxC
   have ak:=F.m.inv.ex
   go_wp2_with fail
   refine (zdk C U I j _ S5 q5 z5 d ⟨6,0,sNone,sNone,(A.ex.length:Int)-1,(q5.ex.length:Int)-1⟩ _ ae.out F.m (fun h=>zk2 ae.out h)).mono ?_
   rintro e w7 ⟨S7,q7,z7,rfl,am,m7,s7⟩
   replace F:=F.stp m7 s7
   clear H
   have HI:Hid (Is (bd (bd (.ok (adv A)) (pE C .prod d)) fun J=>zQ C ⟨6,0,sNone,sNone,(A.ex.length:Int)-1,(J.ex.length:Int)-1⟩ J) q7 z7):=by rw[←zhV ae.out (fun J=>⟨6,0,sNone,sNone,(A.ex.length:Int)-1,(J.ex.length:Int)-1⟩)];exact am.out
   have N:Hid (z7<0→A.pos+1≤q7.pos):=fun h=>zk3 HI.out h
   have H:=F.x0.boxC
   unfold pv
   go_wp2
   go_roundg (gk-1)
   case rel=>exact⟨_,S7,q7,z7,HI.out,by rw[←af.out];exact (zk4 (d:=d) (by rw[hs];rfl) (show zdz C A.pos=6 by rw[zdz,aj];rfl) hp).symm,fun h=>by have:=N.out h;omega,fun h=>by have:=N.out h;omega,(F.put0 ..).m,(F.put0 ..).t,(F.put0 ..).x0,(F.put0 ..).x1⟩
   case measure=>omega
  |false=>
   have H:=F.x0.boxC
   go_wp2_with fail
   refine (zj C U I j S2 A Y d 4 zcu _ F.m.tok L (by decide)).mono ?_
   rintro e w3 ⟨rfl,ad⟩
   rw[hc]
   replace F:=F.below ad
   clear H
   cases M:(decide (Y<0)&&isT C A.pos 4 zbo) with
   |true=>
    have H:=F.x0.boxC
    go_wp2_with fail
    refine (zj C U I j S2 A Y d 4 zbo _ F.m.tok L (by decide)).mono ?_
    rintro e w4 ⟨rfl,X⟩
    rw[M]
    replace F:=F.below X
    clear H
    have H:=F.x0.boxC
    go_wp2_with fail
    refine (zj C U I j S2 A Y d 4 zbo _ F.m.tok L (by decide)).mono ?_
    rintro e w5 ⟨rfl,an⟩
    rw[M]
    replace F:=F.below an
    clear H
    rw[Bool.and_eq_true,decide_eq_true_eq] at M
    obtain⟨Z,hs⟩:=M
    have hp:A.pos<C.ts.length:=za9 hs (by decide)
    obtain⟨rfl,rfl⟩:=zaH aa.out Z
    have al:=ai.out Z
    have ap:=ah.out Z
    skip
    have H:=F.x0.boxC
    go_wp2_with fail
    refine (HP.out (.ok (adv A)) S2 (adv A) (-1) d _ (zab _) ((F.adv hp).set0_1 _).m (fun _=>by rw[zz];omega) V).mono ?_
    rintro e w6 ⟨S6,q6,z6,rfl,ac,m6,s6⟩
    replace F:=(F.set0_1 _).stp m6 s6
    clear H
    have H:=F.x0.boxC
    unfold pv
    go_upto_region 9 with fail
    refine (F.put0 ..).cut ?_
    clear H
    intro w7 F
    have H:=F.x0.boxC
    have ak:=F.m.inv.ex
    go_wp2_with fail
    refine (zdk C U I j _ S6 q6 z6 d ⟨7,0,sNone,sNone,(A.ex.length:Int)-1,(q6.ex.length:Int)-1⟩ _ ac.out F.m (fun h=>zk2 ac.out h)).mono ?_
    rintro e w8 ⟨S8,q8,z8,rfl,ao,m8,s8⟩
    replace F:=F.stp m8 s8
    clear H
    have HI:Hid (Is (bd (bd (.ok (adv A)) (pE C .prod d)) fun J=>zQ C ⟨7,0,sNone,sNone,(A.ex.length:Int)-1,(J.ex.length:Int)-1⟩ J) q8 z8):=by rw[←zhV ac.out (fun J=>⟨7,0,sNone,sNone,(A.ex.length:Int)-1,(J.ex.length:Int)-1⟩)];exact ao.out
    have N:Hid (z8<0→A.pos+1≤q8.pos):=fun h=>zk3 HI.out h
    have H:=F.x0.boxC
    unfold pv
    go_wp2
    go_roundg (gk-1)
    case rel=>exact⟨_,S8,q8,z8,HI.out,by rw[←af.out];exact (zk4 (d:=d) (by rw[hs,Bool.or_true]) (show zdz C A.pos=7 by rw[zdz,hs];rfl) hp).symm,fun h=>by have:=N.out h;omega,fun h=>by have:=N.out h;omega,(F.put0 ..).m,(F.put0 ..).t,(F.put0 ..).x0,(F.put0 ..).x1⟩
    case measure=>omega
   |false=>
    have H:=F.x0.boxC
    go_wp2_with fail
    refine (zj C U I j S2 A Y d 4 zbo _ F.m.tok L (by decide)).mono ?_
    rintro e w4 ⟨rfl,X⟩
    rw[M]
    replace F:=F.below X
    clear H
    have H:=F.x0.boxC
    obtain⟨b0,b1,b2,b3,b4,b5,b6,b7,b8,b9,ar,aq,bf⟩:=F.x1.box
    go_wp2
    refine (F.x1.put ..).ret rfl rfl ?_
    exact (F.put1 ..).done rfl (show Is (bd x (pE C .sum d)) A Y from by rw[←af.out];exact zq0 aa.out hc M)
theorem zq2 (C:Cx) (J A j:Nat):zhU C J A j 0:=by
 intro x S q z d w U L O V
 by_cases N:z<0
 ·have:=O N
  omega
 ·obtain⟨e,rfl,rfl⟩:=zd3 U N
  rw[zez]
  obtain⟨M,H,I⟩:=C
  cases I with
  |true=>exact zky M H J A j S q d w L e
  |false=>exact zkz M H J A j S q d w L e
theorem zq3 (C:Cx) (z q j:Nat) (m:Nat):SumOK C z q j m:=by
 induction m with
 |zero=>exact zk6 (zk5 (zq2 C z q j))
 |succ m A=>exact zk6 (zk5 (zqt A))
theorem zdu (C:Cx) (H A j:Nat) (x:PR) (S:Sv) (q:PS) (z:Int) (w:World) (J:Is x q z) (I:Mem C H A j S q w):
  Calls Tryz.prog 111 #[pv C H A S q z 0] w (Out C H A j (bd x (pE C .sum 0)) 0 S w):=
 zq3 C H A j (C.ts.length+1) x S q z 0 w J I (fun _=>by omega) (by omega)
theorem Is2.withN {y:PRN} {q q':PS} {z z':Int} {n:ByteArray} {F:PR→ByteArray→PR} (h:Is2 y q z n) (H: ∀e n,F (.error e) n= .error e) (j:Is (F (zaR y) n) q' z'):Is2 (withN y F) q' z' n:=by
 cases y with
 |ok a=>
  obtain⟨_,_,rfl⟩:=h
  have e:zaR (.ok a)= .ok a.1:=rfl
  rw[e] at j
  show Is2 (bd (F (.ok a.1) a.2) fun q=>.ok (q,a.2)) q' z' a.2
  cases A:F (.ok a.1) a.2 with
  |ok b=>rw[A] at j;exact⟨j.1,j.2,rfl⟩
  |error e=>rw[A] at j;exact j
 |error e=>
  have I:zaR (.error e)= .error e:=rfl
  rw[I,H] at j
  exact j
theorem zk7 {C:Cx} {A q j:Nat} {y:PRN} {d:Nat} {S S':Sv} {w w':World} {q':PS} {z':Int} {z:ByteArray} {v:Value} (I:v=pv C A q S' q' z' d) (L:Is2 y q' z' z) (H:Mem C A q j S' q' w') (J:SB w.heap.size S w S' w'):zdI C A q j y d S w (.returned (.tuple #[v,.string z])) w':=
 ⟨S',q',z',z,by rw[I],L,H,J.done⟩
theorem zhW (C:Cx) (A z j:Nat) (S:Sv) (q:PS) (w:World) (V:Mem C A z j S q w):
  Calls Tryz.prog 108 #[pv C A z S q (-1) 0] w (zdI C A z j (zc9 C q) 0 S w):=by
 have O:=zc V
 clear V
 unfold pv
 go_enter Tryz.func108,Tryz.ntmps108
 go_wp2_with fail
 refine (zaO C A z j (.ok q) S q (-1) 0 zG _ (zab q) ((O.out.alloc _).alloc _)).mono ?_
 rintro e w1 ⟨S1,q1,z1,rfl,J,m1,s1⟩
 have F:=O.out.fm2 m1 s1
 go_wp2_with fail
 refine (zbt C A z j _ S1 q1 z1 0 false _ J.out F.m).mono ?_
 rintro e w2 ⟨S2,q2,z2,n2,rfl,I,Y,s2⟩
 replace F:=F.stp Y s2
 have U:w.heap.size+1<w2.heap.size:=F.x1.lt
 unfold pv
 go_wp2_with fail
 refine (zah C A z j _ S2 q2 z2 0 cEq _ I.out.fst (F.alloc _).m).mono ?_
 rintro e w3 ⟨S3,q3,z3,rfl,N,Z,s3⟩
 replace F:=(F.new2 _).stp Z s3
 go_wp2_with fail
 refine (zdu C A z j _ S3 q3 z3 _ N.out F.m).mono ?_
 rintro e w4 ⟨S4,q4,z4,rfl,M,m4,X⟩
 replace F:=F.stp m4 X
 go_wp2_with fail
 refine (zah C A z j _ S4 q4 z4 0 cSemi _ M.out F.m).mono ?_
 rintro e w5 ⟨S5,q5,z5,rfl,H,m5,s5⟩
 replace F:=F.stp m5 s5
 have cb:=F.x2.boxC
 unfold pv
 go_upto_region 3 with fail
 refine (F.put2 ..).cut ?_
 clear cb
 intro w6 F
 have cb:=F.x2.boxC
 go_wp2_with fail
 refine (zdl C A z j _ S5 q5 z5 0 1 n2 _ H.out F.m (zbx H.out)).mono ?_
 rintro e w7 ⟨S7,q7,z7,rfl,L,m7,s7⟩
 replace F:=F.stp m7 s7
 clear cb
 have bb:=F.x1.boxC
 unfold pv
 go_wp2
 refine bodyPost_ret (zas rfl _ _ (w.heap.size+1) 122 _ (0,0) _ rfl ((F.x1.put ..)).heap Tryz.underlying122 rfl (by kernel_rfl)) rfl ?_
 exact zk7 rfl (I.out.withN (F:=fun x n=>_) (fun _ _=>rfl) L.out) (F.put1 ..).m (F.put1 ..).t
theorem zhX (C:Cx) (A z j:Nat) (S:Sv) (q:PS) (w:World) (hm:Mem C A z j S q w):
  Calls Tryz.prog 109 #[pv C A z S q (-1) 0] w (zdI C A z j (fnP C q) 0 S w):=by
 have HM:=zc hm
 clear hm
 unfold pv
 go_enter Tryz.func109,Tryz.ntmps109
 go_wp2_with fail
 refine (zaO C A z j (.ok q) S q (-1) 0 zX _ (zab q) ((HM.out.alloc _).alloc _)).mono ?_
 rintro e w1 ⟨S1,q1,z1,rfl,V,m1,s1⟩
 have F:=HM.out.fm2 m1 s1
 go_wp2_with fail
 refine (zbt C A z j _ S1 q1 z1 0 false _ V.out F.m).mono ?_
 rintro e w2 ⟨S2,q2,z2,n2,rfl,I,m2,s2⟩
 replace F:=F.stp m2 s2
 have ak:w.heap.size+1<w2.heap.size:=F.x1.lt
 unfold pv
 go_wp2_with fail
 refine (zah C A z j _ S2 q2 z2 0 zr _ I.out.fst (F.alloc _).m).mono ?_
 rintro e w3 ⟨S3,q3,z3,rfl,ah,m3,s3⟩
 replace F:=(F.new2 _).stp m3 s3
 go_wp2_with fail
 refine (zah C A z j _ S3 q3 z3 0 za8 _ ah.out F.m).mono ?_
 rintro e w4 ⟨S4,q4,z4,rfl,Y,m4,s4⟩
 replace F:=F.stp m4 s4
 go_wp2_with fail
 refine (zah C A z j _ S4 q4 z4 0 zM _ Y.out F.m).mono ?_
 rintro e w5 ⟨S5,q5,z5,rfl,ad,m5,s5⟩
 replace F:=F.stp m5 s5
 have cb:=F.x2.boxC
 unfold pv
 go_upto_region 3 with fail
 refine (F.put2 ..).cut ?_
 clear cb
 intro w6 F
 have cb:=F.x2.boxC
 go_wp2_with fail
 refine (zaO C A z j _ S5 q5 z5 0 zey _ ad.out F.m).mono ?_
 rintro e w7 ⟨S7,q7,z7,rfl,X,m7,s7⟩
 replace F:=F.stp m7 s7
 clear cb
 go_wp2_with fail
 refine (zdu C A z j _ S7 q7 z7 _ X.out F.m).mono ?_
 rintro e w8 ⟨S8,q8,z8,rfl,ag,m8,s8⟩
 replace F:=F.stp m8 s8
 have cb:=F.x2.boxC
 unfold pv
 go_upto_region 4 with fail
 refine (F.put2 ..).cut ?_
 clear cb
 intro w9 F
 have cb:=F.x2.boxC
 go_wp2_with fail
 refine (zah C A z j _ S8 q8 z8 0 cSemi _ ag.out F.m).mono ?_
 rintro e aq ⟨ac,aj,M,rfl,L,ae,N⟩
 replace F:=F.stp ae N
 clear cb
 go_wp2_with fail
 refine (zah C A z j _ ac aj M 0 zb2 _ L.out F.m).mono ?_
 rintro e am ⟨Z,af,ai,rfl,H,O,U⟩
 replace F:=F.stp O U
 have cb:=F.x2.boxC
 unfold pv
 go_upto_region 5 with fail
 refine (F.put2 ..).cut ?_
 clear cb
 intro ar F
 have cb:=F.x2.boxC
 go_wp2_with fail
 refine (zdl C A z j _ Z af ai 0 2 n2 _ H.out F.m (zbx H.out)).mono ?_
 rintro e ap ⟨ao,an,al,rfl,J,ab,aa⟩
 replace F:=F.stp ab aa
 clear cb
 have bb:=F.x1.boxC
 unfold pv
 go_wp2
 refine bodyPost_ret (zas rfl _ _ (w.heap.size+1) 122 _ (0,0) _ rfl ((F.x1.put ..)).heap Tryz.underlying122 rfl (by kernel_rfl)) rfl ?_
 exact zk7 rfl (I.out.withN (F:=fun x n=>_) (fun _ _=>rfl) J.out) (F.put1 ..).m (F.put1 ..).t
end Go.Proofs.YtjdddblpfbmpaaaGreat
