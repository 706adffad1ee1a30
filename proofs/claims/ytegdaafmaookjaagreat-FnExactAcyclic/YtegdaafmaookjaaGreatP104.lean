/- Facts. -/
import Derived.Test.YtegdaafmaookjaaGreatP87
namespace Go.Proofs.YtegdaafmaookjaaGreat
open Go.Proofs.Tryz
set_option maxRecDepth 100000
set_option maxHeartbeats 3200000
open Go.RowKit Go.PlainAid Go.Sort
theorem zzs (cG:GrC 13) (base:Nat) (G:GS) (g:Gr) (w:World) (ho:GrOwn w base G g) (hg:GdG g):
  Calls prog 16 #[grD G g] w fun e w'=>SameOut (zie g) e/\Bw w w':=by
 have HO:=zc ho;have HG:=zc hg;have CG:=zc cG;have af:=hg.ll;clear ho hg cG;obtain⟨pr,mr,sv,⟨la,lc⟩⟩:=G;unfold grD;go_enter func16,ntmps16;go_upto_region 1 with fail;obtain⟨gx,O⟩: ∃gx,gx=w.heap.size:=⟨_,rfl⟩;rw[<-O];refine zp (R:=fun W=>Bk W gx #[.slice pr.a g.ps.length pr.cap,.slice mr.a g.ms.length mr.cap,.slice la g.ls.length lc] 32/\Below w.heap.size w W) (by rw[O];exact⟨hN0 w _,zn w _⟩) ?_;rintro W0 ⟨hx,h⟩;clear O;have X0:=zc hx;have B0:=zc h;clear hx h;obtain⟨c0,c1,c2,cf⟩:=zg X0.o;go_wp2_with fail;refine (CG.o base ⟨pr,mr,sv,⟨la,lc⟩⟩ g W0 (HO.o.later B0.o) HG.o).mono ?_;rintro e w1 ⟨⟨b,rfl,aa⟩,h⟩;have X1:=zc (X0.o.later h);have B1:=zc (zi B0.o h);have OK:=zc aa;clear aa h c0 c1 c2 cf X0 B0;obtain⟨c0,c1,c2,cf⟩:=zg X1.o;cases b with
 |false=>
  go_wp2;go_ret;exact⟨⟨false,rfl,⟨fun k=>(by cases k),fun k=>absurd (OK.o.2 k.1) (by decide)⟩⟩,B1.o⟩
 |true=>
  have L:Hid (GrS g):=OK.o.1 (by simp);have LK:=zc L.o.links;have ag:g.ms.length<=8:=L.o.1.2;have HR:=zc (RowAt.of (f:=lkL) (m:=3) (fun _=>rfl) HO.o.ls);clear OK;go_wp2_with fail;refine (zgC base ⟨pr,mr,sv,⟨la,lc⟩⟩ g w1 (HO.o.later B1.o) ag af LK.o).mono ?_;rintro e w2 ⟨bb,gs,rfl,Y,h⟩;have X2:=zc (X1.o.later h);have U:=zc (zi B1.o h);have RA:=zc Y;clear Y h X1 B1 c0 c1 c2 cf;obtain⟨c0,c1,c2,cf⟩:=zg X2.o;go_wp2;go_loopw [14] (fun i wr=>∃j:Nat,j<=g.ls.length/\i= .int .i64 j/\Hid (∀k x,k<j->g.ls[k]? =some x->zx g x.to.toNat x.frm.toNat=false)/\Hid (Bw w2 wr)) (fun i _=>(g.ls.length-intOf i).toNat)
  case atStart=>exact⟨0,Nat.zero_le _,rfl,zc (fun k x hk=>absurd hk (Nat.not_lt_zero k)),zc (Below.refl _ _)⟩
  case round=>
   obtain⟨j,hj,rfl,HA,Z⟩:=hrel;clear c0 c1 c2 cf;by_cases V:j<g.ls.length
   ·have ad:(j:Int)<(g.ls.length:Int):=by omega
    obtain⟨l,M⟩: ∃l,g.ls[j]? =some l:=⟨_,gE V⟩;obtain⟨y0,y1,y2,y3⟩:=LK.o l (mG M);obtain⟨bl,aj,ab,q⟩:=(HR.o.later (U.o.trans (Z.o.mono U.o.size))).get M;have k0:=q 0 _ rfl;have k1:=q 1 _ rfl;have k2:=q 2 _ rfl;simp only[Nat.add_zero] at k0;have I:la=some ⟨bl,aj,none⟩:=ab;rw[I];obtain⟨A,K⟩: ∃A:Nat,l.frm=A:=⟨l.frm.toNat,by omega⟩;obtain⟨H,N⟩: ∃H:Nat,l.to=H:=⟨l.to.toNat,by omega⟩;have ak:A<g.ms.length:=by omega
    have ah:H<g.ms.length:=by omega
    have HC:Hid (zx g l.to.toNat l.frm.toNat=zx g H A):=by rw[K,N,Int.toNat_natCast,Int.toNat_natCast];exact zc rfl
    have al:=zc (fun q=>zow (i:=j) HA.o M q)
    have ai:Hid (zx g H A=true->¬zie g):=zc (fun q k=>by
     have:=k.2 l (mG M);rw[HC.o,q] at this
     cases this)
    rw[K] at k0;rw[N] at k2;clear y0 y1 y2 y3 K N M q ab I;obtain⟨W2,J⟩: ∃W2,W2=wr.alloc (.cells #[.int .i64 (A:Int),.string l.spec,.int .i64 (H:Int)] 62):=⟨_,rfl⟩;have ac:Bw wr W2:=by rw[J];exact bA0
    have B3:=zc (Z.o.trans (ac.mono Z.o.size));clear ac Z;go_wp2_with fail;rw[<-J];refine (zoy g bb A H gs l.spec W2 (RA.o.later B3.o) ak ah).mono ?_;rintro e W3 ⟨rfl,ae⟩;have B4:=zc (B3.o.trans (ae.mono B3.o.size));clear ae B3 J;cases X:zx g H A with
    |true=>
     go_wp2;go_ret;exact⟨⟨false,rfl,⟨fun k=>(by cases k),fun k=>absurd k (ai.o X)⟩⟩,U.o.trans (B4.o.mono U.o.size)⟩
    |false=>
     go_wp2;go_roundw
     case rel=>exact⟨j+1,V,by go_num,zc (al.o (by rw[HC.o];exact X)),B4⟩
     case measure=>simp[intOf];omega
   ·have ad: ¬(j:Int)<(g.ls.length:Int):=by omega
    go_wp2;go_ret
    exact⟨⟨true,rfl,⟨fun _=>⟨L.o,fun l M=>by
     obtain⟨i,hi⟩:=List.mem_iff_getElem?.1 M
     exact HA.o i l (by have:=(gS hi).1;omega) hi⟩,fun _=>rfl⟩⟩,U.o.trans (Z.o.mono U.o.size)⟩
