/-
  What impl.Acyclic answers: the walk.
  What is known of a graph that came in.
-/
import Derived.Test.YtgcbmogmniahjaaGreatCAcImplWalkToImplReachIn
namespace Go.Proofs.YtgcbmogmniahjaaGreat
set_option maxRecDepth 100000
set_option maxHeartbeats 3200000
open Go.RowKit Go.PlainAid Go.Sort
theorem zxa (cG:GrC 10) (base:Nat) (G:GS) (g:Gr) (w:World) (ho:GrOwn w base G g) (hg:GdG g):
  Calls Tryz.prog 13 #[grD G g] w fun e w'=>SameOut (zhk g) e∧Below w.heap.size w w':=by
 have HO:=zc ho
 have HG:=zc hg
 have CG:=zc cG
 have af:=hg.ll
 clear ho hg cG
 obtain⟨pr,mr,sv,⟨la,lc⟩⟩:=G
 unfold grD
 go_enter Tryz.func13,Tryz.ntmps13
 go_upto_region 1 with fail
 obtain⟨gx,N⟩: ∃gx,gx=w.heap.size:=⟨_,rfl⟩
 rw[←N]
 refine zx (R:=fun W=>Bk W gx #[.slice pr.a g.ps.length pr.cap,.slice mr.a g.ms.length mr.cap,.slice la g.ls.length lc] 32∧Below w.heap.size w W) (by rw[N];exact⟨heap_alloc_new w _,zaB w _⟩) ?_
 rintro W0 ⟨hx,h⟩
 clear N
 have X0:=zc hx
 have B0:=zc h
 clear hx h
 obtain⟨c0,Z,c2,cf⟩:=zo X0.out
 go_wp2_with fail
 refine (CG.out base ⟨pr,mr,sv,⟨la,lc⟩⟩ g W0 (HO.out.later B0.out) HG.out).mono ?_
 rintro e w1 ⟨⟨b,rfl,aa⟩,h⟩
 have X1:=zc (X0.out.later h)
 have B1:=zc (zaf B0.out h)
 have OK:=zc aa
 clear aa h c0 Z c2 cf X0 B0
 obtain⟨c0,Z,c2,cf⟩:=zo X1.out
 cases b with
 |false=>
  go_wp2
  go_ret
  exact⟨⟨false,rfl,⟨fun k=>(by cases k),fun k=>absurd (OK.out.2 k.1) (by decide)⟩⟩,B1.out⟩
 |true=>
  have K:Hid (GrS g):=OK.out.1 (by simp)
  have LK:=zc K.out.links
  have ag:g.ms.length≤8:=K.out.1.2
  have HR:=zc (RowAt.of (f:=lkL) (m:=3) (fun _=>rfl) HO.out.ls)
  clear OK
  go_wp2_with fail
  refine (zwY base ⟨pr,mr,sv,⟨la,lc⟩⟩ g w1 (HO.out.later B1.out) ag af LK.out).mono ?_
  rintro e w2 ⟨bb,gs,rfl,X,h⟩
  have X2:=zc (X1.out.later h)
  have O:=zc (zaf B1.out h)
  have RA:=zc X
  clear X h X1 B1 c0 Z c2 cf
  obtain⟨c0,Z,c2,cf⟩:=zo X2.out
  go_wp2
  go_loopw [14] (fun i wr=>∃j:Nat,j≤g.ls.length∧i= .int .i64 j∧Hid (∀k x,k<j→g.ls[k]? =some x→zbB g x.to.toNat x.frm.toNat=false)∧Hid (Below w2.heap.size w2 wr)) (fun i _=>(g.ls.length-intOf i).toNat)
  case atStart=>exact⟨0,Nat.zero_le _,rfl,zc (fun k x hk=>absurd hk (Nat.not_lt_zero k)),zc (Below.refl _ _)⟩
  case round=>
   obtain⟨j,hj,rfl,HA,Y⟩:=hrel
   clear c0 Z c2 cf
   by_cases U:j<g.ls.length
   ·have ad:(j:Int)<(g.ls.length:Int):=by omega
    obtain⟨l,L⟩: ∃l,g.ls[j]? =some l:=⟨_,List.getElem?_eq_getElem U⟩
    obtain⟨y0,y1,y2,y3⟩:=LK.out l (List.mem_of_getElem? L)
    obtain⟨bl,aj,ab,q⟩:=(HR.out.later (O.out.trans (Y.out.mono O.out.size))).get L
    have k0:=q 0 _ rfl
    have k1:=q 1 _ rfl
    have k2:=q 2 _ rfl
    simp only[Nat.add_zero] at k0
    have H:la=some ⟨bl,aj,none⟩:=ab
    rw[H]
    obtain⟨z,J⟩: ∃z:Nat,l.frm=z:=⟨l.frm.toNat,by omega⟩
    obtain⟨A,M⟩: ∃A:Nat,l.to=A:=⟨l.to.toNat,by omega⟩
    have ak:z<g.ms.length:=by omega
    have ah:A<g.ms.length:=by omega
    have HC:Hid (zbB g l.to.toNat l.frm.toNat=zbB g A z):=by rw[J,M,Int.toNat_natCast,Int.toNat_natCast];exact zc rfl
    have al:=zc (fun q=>zmM (i:=j) HA.out L q)
    have ai:Hid (zbB g A z=true→¬zhk g):=zc (fun q k=>by
     have:=k.2 l (List.mem_of_getElem? L)
     rw[HC.out,q] at this
     cases this)
    rw[J] at k0
    rw[M] at k2
    clear y0 y1 y2 y3 J M L q ab H
    obtain⟨W2,I⟩: ∃W2,W2=wr.alloc (.cells #[.int .i64 (z:Int),.string l.spec,.int .i64 (A:Int)] 57):=⟨_,rfl⟩
    have ac:Below wr.heap.size wr W2:=by rw[I];exact (Below.refl _ _).alloc (Nat.le_refl _) _
    have B3:=zc (Y.out.trans (ac.mono Y.out.size))
    clear ac Y
    go_wp2_with fail
    rw[←I]
    refine (zwZ g bb z A gs l.spec W2 (RA.out.later B3.out) ak ah).mono ?_
    rintro e W3 ⟨rfl,ae⟩
    have B4:=zc (B3.out.trans (ae.mono B3.out.size))
    clear ae B3 I
    cases V:zbB g A z with
    |true=>
     go_wp2
     go_ret
     exact⟨⟨false,rfl,⟨fun k=>(by cases k),fun k=>absurd k (ai.out V)⟩⟩,O.out.trans (B4.out.mono O.out.size)⟩
    |false=>
     go_wp2
     go_roundw
     case rel=>exact⟨j+1,U,by go_num,zc (al.out (by rw[HC.out];exact V)),B4⟩
     case measure=>simp[intOf];omega
   ·have ad: ¬(j:Int)<(g.ls.length:Int):=by omega
    go_wp2
    go_ret
    exact⟨⟨true,rfl,⟨fun _=>⟨K.out,fun l L=>by
     obtain⟨i,hi⟩:=List.mem_iff_getElem?.1 L
     exact HA.out i l (by have:=(List.getElem?_eq_some_iff.1 hi).1;omega) hi⟩,fun _=>rfl⟩⟩,O.out.trans (Y.out.mono O.out.size)⟩
open Go.Deep
theorem zxb {H:Type} {enc:TypeId×Value→H} {w:World} {base:Nat} {q:Nat→Bool} {I:Bool} {M:Nat} {K:List Value} {z:DataW H×List MemPlace} (h:DataW.trod enc Tryz.prog w base q I M 26 K=some z):
  ∃(A:GA) (g:Gr),K=(grA A g).cells.toList∧GrIn w A g∧BigG A g∧∀x∈A.ms,zaW x.2.ex:=by
 obtain⟨xs,k,_,_,J,V,Y⟩:=DataW.trod_struct Tryz.underlying26 h
 have cM:Tryz.prog.cellsOf 26=3:=by kernel_rfl
 rw[cM] at J
 have k0:Tryz.prog.cellsOf 22=1:=by kernel_rfl
 have k1:Tryz.prog.cellsOf 23=1:=by kernel_rfl
 have k2:Tryz.prog.cellsOf 24=1:=by kernel_rfl
 obtain⟨U,N,O,rfl⟩:=list3 J
 obtain⟨y0,y1,y2,rfl⟩:=list3 (V.trans rfl)
 have g0:DataW.trod enc Tryz.prog w base q I k 22 (List.take (Tryz.prog.cellsOf 22) (List.drop 0 [U,N,O]))=some y0:=Y 0 _ rfl
 rw[k0] at g0
 have g1:DataW.trod enc Tryz.prog w base q I k 23 (List.take (Tryz.prog.cellsOf 23) (List.drop 1 [U,N,O]))=some y1:=Y 1 _ rfl
 rw[k1] at g1
 have g2:DataW.trod enc Tryz.prog w base q I k 24 (List.take (Tryz.prog.cellsOf 24) (List.drop 2 [U,N,O]))=some y2:=Y 2 _ rfl
 rw[k2] at g2
 obtain⟨a0,c0,l0,e0,b0,r0,q0⟩:=zdP sNone (α:=ByteArray) (f:=(fun x=>[Value.string x])) (m:=1) (Q:=zdR) (by omega) (fun _=>rfl) Tryz.underlying22 (by kernel_rfl) (fun n K y h J=>zk4 h J) (show DataW.trod enc Tryz.prog w base q I k 22 [U]=some y0 from g0)
 subst e0
 obtain⟨a1,c1,Z,e1,b1,r1,X⟩:=zdP (⟨none,none,none,none,none,0,0,0,0,0⟩,⟨[],[],[],[],[]⟩) (α:=MA×Md) (f:=maL) (m:=5) (Q:=fun x=>ModIn w x.1 x.2∧zfD x.2∧zaW x.2.ex) (by omega) (fun _=>rfl) Tryz.underlying23 (by kernel_rfl) (fun n K y h _=>by
  obtain⟨A,m,e,hm⟩:=zqz h
  exact⟨(A,m),e,hm⟩) (show DataW.trod enc Tryz.prog w base q I k 23 [N]=some y1 from g1)
 subst e1
 obtain⟨a2,c2,l2,e2,b2,r2,q2⟩:=zdP ⟨0,sNone,0⟩ (α:=Lk) (f:=lkL) (m:=3) (Q:=zev) (by omega) (fun _=>rfl) Tryz.underlying24 (by kernel_rfl) (fun n K y h J=>zq8 h J) (show DataW.trod enc Tryz.prog w base q I k 24 [O]=some y2 from g2)
 subst e2
 unfold maxLen at b0 b1 b2
 exact⟨⟨a0,c0,a1,c1,a2,c2,Z⟩,⟨l0,Z.map (·.2),l2⟩,rfl,⟨r0,r1,fun x L=>(X x L).1,r2,rfl⟩,⟨by show l0.length≤_;omega,q0,by show Z.length≤_;omega,fun x L=>(X x L).2.1,by show l2.length≤_;omega,q2⟩,fun x L=>(X x L).2.2⟩
end Go.Proofs.YtgcbmogmniahjaaGreat
