/- Facts and walks that the theorem stands on. -/
import Derived.Test.YtgcbmogmniahjaaGreatA62
import Derived.Test.YtgcbmogmniahjaaGreatA64
namespace Go.Proofs.YtgcbmogmniahjaaGreat
open Go.Proofs.Tryz
set_option maxRecDepth 100000
set_option maxHeartbeats 6400000
open Go.RowKit Go.PlainAid Go.Sort
def acV (p m l:Value) (gx bl off j fr tt n:Nat) (v:Bool) (gb:Nat):Nat->Value
 |0=>.agg #[p,m,l]
 |1=>.pointer (some ⟨gx,2,none⟩)
 |2=>l
 |3=>.int .i64 (j:Int)
 |4=>.pointer (some ⟨bl,off+j*3,none⟩)
 |5=>.pointer (some ⟨bl,off+j*3+2,none⟩)
 |6=>.int .i64 (tt:Int)
 |7=>.slice (some ⟨gb,0,none⟩) n n
 |8=>.pointer (some ⟨gx,2,none⟩)
 |9=>l
 |10=>.int .i64 (j:Int)
 |11=>.pointer (some ⟨bl,off+j*3,none⟩)
 |12=>.pointer (some ⟨bl,off+j*3,none⟩)
 |13=>.int .i64 (fr:Int)
 |14=>.pointer (some ⟨gb,fr,none⟩)
 |_=>.bool v
theorem zwO {p m l:Value} {z A q j H w n J I i:Nat} {v:Bool} (h:i≠7) (k:i≠14):acV p m l z A q j H w n v I i=acV p m l z A q j H w n v J i:=by
 unfold acV
 split<;>first|rfl|exact absurd rfl h|exact absurd rfl k
theorem zwP (cG:GrC 8) (base:Nat) (G:GS) (g:Gr) (w:World) (ho:GrOwn w base G g) (hg:GdG g):
  Calls prog 12 #[grD G g] w fun e w'=>SameOut (zhk g) e/\Below w.heap.size w w':=by
 have HO:=zc ho;have HG:=zc hg;have CG:=zc cG;have ax:=hg.ll;clear ho hg cG;obtain⟨I,A,sv,⟨la,Z⟩⟩:=G;unfold grD;go_enter func12,ntmps12;go_upto_region 1 with fail;obtain⟨M,ae⟩: ∃M,M=w.heap.size:=⟨_,rfl⟩;rw[<-ae];refine zx (R:=fun W=>Bk W M #[.slice I.a g.ps.length I.cap,.slice A.a g.ms.length A.cap,.slice la g.ls.length Z] 32/\Below w.heap.size w W) (by rw[ae];exact⟨heap_alloc_new w _,zaB w _⟩) ?_;rintro W0 ⟨hx,z⟩;clear ae;have X0:=zc hx;have B0:=zc z;clear hx z;obtain⟨c0,c1,c2,cf⟩:=zo X0.o;go_wp2_with fail;refine (CG.o base ⟨I,A,sv,⟨la,Z⟩⟩ g W0 (HO.o.later B0.o) HG.o).mono ?_;rintro e w1 ⟨⟨b,rfl,ag⟩,z⟩;have X1:=zc (X0.o.later z);have B1:=zc (zaf B0.o z);have OK:=zc ag;clear ag z c0 c1 c2 cf X0 B0;cases b with
 |false=>
  go_wp2;go_ret;exact⟨⟨false,rfl,⟨fun k=>(by cases k),fun k=>absurd (OK.o.2 k.1) (by decide)⟩⟩,B1.o⟩
 |true=>
  have aa:Hid (GrS g):=OK.o.1 (by simp);have LK:=zc aa.o.links;have aj:1<=g.ms.length:=aa.o.1.1;have ap:g.ms.length<=8:=aa.o.1.2;have HR:=zc (RowAt.of (f:=lkL) (m:=3) (fun _=>rfl) HO.o.ls);clear OK;go_wp2;go_loopw [3] (fun i wr=>∃j:Nat,j<=g.ls.length/\i= .int .i64 j/\Hid (∀k x,k<j->g.ls[k]? =some x->zbB g x.to.toNat x.frm.toNat=false)/\Hid (Bk wr M #[.slice I.a g.ps.length I.cap,.slice A.a g.ms.length A.cap,.slice la g.ls.length Z] 32)/\Hid (Below w.heap.size w wr)) (fun i _=>(g.ls.length-intOf i).toNat)
  case atStart=>exact⟨0,Nat.zero_le _,rfl,zc (fun k x hk=>absurd hk (Nat.not_lt_zero k)),X1,B1⟩
  case round=>
   obtain⟨j,hj,rfl,HA,HX,HB⟩:=hrel;clear X1 B1;obtain⟨c0,c1,c2,cf⟩:=zo HX.o;by_cases ah:j<g.ls.length
   ·have ai:(j:Int)<(g.ls.length:Int):=by omega
    obtain⟨l,hl⟩: ∃l,g.ls[j]? =some l:=⟨_,List.getElem?_eq_getElem ah⟩;obtain⟨y0,y1,y2,y3⟩:=LK.o l (List.mem_of_getElem? hl);obtain⟨J,h,ar,_⟩:=(HR.o.later HB.o).get hl;subst ar
    have RC:Hid (∀W,Below w.heap.size w W->W.cell? ⟨J,h+j*3,none⟩=some (.int .i64 l.frm)/\W.cell? ⟨J,h+j*3+2,none⟩=some (.int .i64 l.to)):=zc (fun W hW=>by
     obtain⟨b',o',e',U⟩:=(HR.o.later hW).get hl;cases e'
     exact⟨U 0 _ rfl,U 2 _ rfl⟩)
    obtain⟨X,af⟩: ∃X:Nat,l.frm=X:=⟨l.frm.toNat,by omega⟩;obtain⟨V,ac⟩: ∃V:Nat,l.to=V:=⟨l.to.toNat,by omega⟩;have au:X<g.ms.length:=by omega
    have ak:V<g.ms.length:=by omega
    have az:(X:Int)<(g.ms.length:Int):=by omega
    have HC:Hid (zbB g l.to.toNat l.frm.toNat=zbB g V X):=by rw[af,ac,Int.toNat_natCast,Int.toNat_natCast];exact zc rfl
    have av:=zc (fun U=>zmM (i:=j) HA.o hl U)
    have aw:Hid (zbB g V X=true->¬zhk g):=zc (fun U k=>by
     have:=k.2 l (List.mem_of_getElem? hl);rw[HC.o,U] at this
     cases this)
    rw[af,ac] at RC;clear y0 y1 y2 y3 af ac hl;obtain⟨v,hv⟩: ∃v,v=zbB g V X:=⟨_,rfl⟩;have HV:=zc hv;clear hv;go_upto_region 6 with fail;refine zwK (by kernel_rfl) (fun D O W=>∃N,SlI _ 14 16 (acV (.slice I.a g.ps.length I.cap) (.slice A.a g.ms.length A.cap) (.slice (some ⟨J,h,none⟩) g.ls.length Z) M J h j X V g.ms.length v N) D O/\Below wr.heap.size wr W/\(D 7=true->W.cell? ⟨N,X,none⟩=some (.bool v))/\(D 14=true->D 7=true)) (zwM (by kernel_rfl)) ⟨0,SlI.start _ _ _ _,(Below.refl _ _).drew,(fun k=>by cases k),(fun k=>by cases k)⟩ ?_ ?_
    ·rintro D O W i o ⟨N,H,z,U,L⟩ Y hd q;have ah:i<16:=(aLt Y);obtain rfl|rfl|rfl|rfl|rfl|rfl|rfl|rfl|rfl|rfl|rfl|rfl|rfl|rfl|rfl|rfl:i=0∨i=1∨i=2∨i=3∨i=4∨i=5∨i=6∨i=7∨i=8∨i=9∨i=10∨i=11∨i=12∨i=13∨i=14∨i=15:=by omega
     ·cases Y;have o1:O.tmps[1]? =some (.pointer (some ⟨M,0,none⟩)):=H.oth 1 (by decide);have o3:O.tmps[3]? =some (.int .i64 (j:Int)):=H.oth 3 (by decide);obtain⟨d0,d1,d2,df⟩:=zo (HX.o.later z);obtain⟨m0,m2⟩:=RC.o W (HB.o.trans (z.mono HB.o.size));exact zce rfl rfl (zco (w':=W) (v:=acV (.slice I.a g.ps.length I.cap) (.slice A.a g.ms.length A.cap) (.slice (some ⟨J,h,none⟩) g.ls.length Z) M J h j X V g.ms.length v N 0) (by simp only[acV];go_simp) ⟨N,H.put (by decide) (by simp),z,fun k=>U (by simpa using k),fun k=>by simpa using L (by simpa using k)⟩)
     ·cases Y;have o1:O.tmps[1]? =some (.pointer (some ⟨M,0,none⟩)):=H.oth 1 (by decide);have o3:O.tmps[3]? =some (.int .i64 (j:Int)):=H.oth 3 (by decide);exact zce rfl rfl (zco (w':=W) (v:=acV (.slice I.a g.ps.length I.cap) (.slice A.a g.ms.length A.cap) (.slice (some ⟨J,h,none⟩) g.ls.length Z) M J h j X V g.ms.length v N 1) (by simp only[acV];go_simp) ⟨N,H.put (by decide) (by simp),z,fun k=>U (by simpa using k),fun k=>by simpa using L (by simpa using k)⟩)
     ·cases Y;have o1:O.tmps[1]? =some (.pointer (some ⟨M,0,none⟩)):=H.oth 1 (by decide);have o3:O.tmps[3]? =some (.int .i64 (j:Int)):=H.oth 3 (by decide);have t1:=H.e 1 (by decide) (q ⟨1,.data⟩ (by simp) rfl);simp only[acV] at t1;obtain⟨d0,d1,d2,df⟩:=zo (HX.o.later z);obtain⟨m0,m2⟩:=RC.o W (HB.o.trans (z.mono HB.o.size));exact zce rfl rfl (zco (w':=W) (v:=acV (.slice I.a g.ps.length I.cap) (.slice A.a g.ms.length A.cap) (.slice (some ⟨J,h,none⟩) g.ls.length Z) M J h j X V g.ms.length v N 2) (by simp only[acV];go_simp) ⟨N,H.put (by decide) (by simp),z,fun k=>U (by simpa using k),fun k=>by simpa using L (by simpa using k)⟩)
     ·cases Y;have o1:O.tmps[1]? =some (.pointer (some ⟨M,0,none⟩)):=H.oth 1 (by decide);have o3:O.tmps[3]? =some (.int .i64 (j:Int)):=H.oth 3 (by decide);exact zce rfl rfl (zco (w':=W) (v:=acV (.slice I.a g.ps.length I.cap) (.slice A.a g.ms.length A.cap) (.slice (some ⟨J,h,none⟩) g.ls.length Z) M J h j X V g.ms.length v N 3) (by simp only[acV];go_simp) ⟨N,H.put (by decide) (by simp),z,fun k=>U (by simpa using k),fun k=>by simpa using L (by simpa using k)⟩)
     ·cases Y;have o1:O.tmps[1]? =some (.pointer (some ⟨M,0,none⟩)):=H.oth 1 (by decide);have o3:O.tmps[3]? =some (.int .i64 (j:Int)):=H.oth 3 (by decide);have t2:=H.e 2 (by decide) (q ⟨2,.data⟩ (by simp) rfl);have t3:=H.e 3 (by decide) (q ⟨3,.data⟩ (by simp) rfl);simp only[acV] at t2 t3;exact zce rfl rfl (zco (w':=W) (v:=acV (.slice I.a g.ps.length I.cap) (.slice A.a g.ms.length A.cap) (.slice (some ⟨J,h,none⟩) g.ls.length Z) M J h j X V g.ms.length v N 4) (by simp only[acV];go_simp) ⟨N,H.put (by decide) (by simp),z,fun k=>U (by simpa using k),fun k=>by simpa using L (by simpa using k)⟩)
     ·cases Y;have o1:O.tmps[1]? =some (.pointer (some ⟨M,0,none⟩)):=H.oth 1 (by decide);have o3:O.tmps[3]? =some (.int .i64 (j:Int)):=H.oth 3 (by decide);have t4:=H.e 4 (by decide) (q ⟨4,.data⟩ (by simp) rfl);simp only[acV] at t4;exact zce rfl rfl (zco (w':=W) (v:=acV (.slice I.a g.ps.length I.cap) (.slice A.a g.ms.length A.cap) (.slice (some ⟨J,h,none⟩) g.ls.length Z) M J h j X V g.ms.length v N 5) (by simp only[acV];go_simp) ⟨N,H.put (by decide) (by simp),z,fun k=>U (by simpa using k),fun k=>by simpa using L (by simpa using k)⟩)
     ·cases Y;have o1:O.tmps[1]? =some (.pointer (some ⟨M,0,none⟩)):=H.oth 1 (by decide);have o3:O.tmps[3]? =some (.int .i64 (j:Int)):=H.oth 3 (by decide);have t5:=H.e 5 (by decide) (q ⟨5,.data⟩ (by simp) rfl);simp only[acV] at t5;obtain⟨d0,d1,d2,df⟩:=zo (HX.o.later z);obtain⟨m0,m2⟩:=RC.o W (HB.o.trans (z.mono HB.o.size));exact zce rfl rfl (zco (w':=W) (v:=acV (.slice I.a g.ps.length I.cap) (.slice A.a g.ms.length A.cap) (.slice (some ⟨J,h,none⟩) g.ls.length Z) M J h j X V g.ms.length v N 6) (by simp only[acV];go_simp) ⟨N,H.put (by decide) (by simp),z,fun k=>U (by simpa using k),fun k=>by simpa using L (by simpa using k)⟩)
     ·cases Y;have t0:=H.e 0 (by decide) (q ⟨0,.data⟩ (by simp) rfl);have t6:=H.e 6 (by decide) (q ⟨6,.data⟩ (by simp) rfl);simp only[acV] at t0 t6;refine zce rfl rfl (zwN (f:=41) (args:=#[grD ⟨I,A,sv,⟨some ⟨J,h,none⟩,Z⟩⟩ g,.int .i64 (V:Int)]) (by unfold grD;go_simp) ((zwI base ⟨I,A,sv,⟨some ⟨J,h,none⟩,Z⟩⟩ g V ak W (HO.o.later (HB.o.trans (z.mono HB.o.size))) aj ap ax LK.o).mono ?_));rintro e W' ⟨g2,rfl,hr,ao⟩;have v0:=hr.cell (zmL (a:=V) au);rw[<-HV.o] at v0;exact⟨_,rfl,g2,(H.anew fun i _ ad=>zwO (fun e=>by subst e;rw[hd] at ad;cases ad) (fun e=>by subst e;exact absurd (L ad) (by rw[hd];decide))).put (i:=7) (by decide) (by simp),z.trans (ao.mono z.size),fun _=>v0,fun k=>absurd (L (by simpa using k)) (by rw[hd];decide)⟩
     ·cases Y;have o1:O.tmps[1]? =some (.pointer (some ⟨M,0,none⟩)):=H.oth 1 (by decide);have o3:O.tmps[3]? =some (.int .i64 (j:Int)):=H.oth 3 (by decide);exact zce rfl rfl (zco (w':=W) (v:=acV (.slice I.a g.ps.length I.cap) (.slice A.a g.ms.length A.cap) (.slice (some ⟨J,h,none⟩) g.ls.length Z) M J h j X V g.ms.length v N 8) (by simp only[acV];go_simp) ⟨N,H.put (by decide) (by simp),z,fun k=>U (by simpa using k),fun k=>by simpa using L (by simpa using k)⟩)
     ·cases Y;have o1:O.tmps[1]? =some (.pointer (some ⟨M,0,none⟩)):=H.oth 1 (by decide);have o3:O.tmps[3]? =some (.int .i64 (j:Int)):=H.oth 3 (by decide);have t8:=H.e 8 (by decide) (q ⟨8,.data⟩ (by simp) rfl);simp only[acV] at t8;obtain⟨d0,d1,d2,df⟩:=zo (HX.o.later z);obtain⟨m0,m2⟩:=RC.o W (HB.o.trans (z.mono HB.o.size));exact zce rfl rfl (zco (w':=W) (v:=acV (.slice I.a g.ps.length I.cap) (.slice A.a g.ms.length A.cap) (.slice (some ⟨J,h,none⟩) g.ls.length Z) M J h j X V g.ms.length v N 9) (by simp only[acV];go_simp) ⟨N,H.put (by decide) (by simp),z,fun k=>U (by simpa using k),fun k=>by simpa using L (by simpa using k)⟩)
     ·cases Y;have o1:O.tmps[1]? =some (.pointer (some ⟨M,0,none⟩)):=H.oth 1 (by decide);have o3:O.tmps[3]? =some (.int .i64 (j:Int)):=H.oth 3 (by decide);exact zce rfl rfl (zco (w':=W) (v:=acV (.slice I.a g.ps.length I.cap) (.slice A.a g.ms.length A.cap) (.slice (some ⟨J,h,none⟩) g.ls.length Z) M J h j X V g.ms.length v N 10) (by simp only[acV];go_simp) ⟨N,H.put (by decide) (by simp),z,fun k=>U (by simpa using k),fun k=>by simpa using L (by simpa using k)⟩)
     ·cases Y;have o1:O.tmps[1]? =some (.pointer (some ⟨M,0,none⟩)):=H.oth 1 (by decide);have o3:O.tmps[3]? =some (.int .i64 (j:Int)):=H.oth 3 (by decide);have t9:=H.e 9 (by decide) (q ⟨9,.data⟩ (by simp) rfl);have an:=H.e 10 (by decide) (q ⟨10,.data⟩ (by simp) rfl);simp only[acV] at t9 an;exact zce rfl rfl (zco (w':=W) (v:=acV (.slice I.a g.ps.length I.cap) (.slice A.a g.ms.length A.cap) (.slice (some ⟨J,h,none⟩) g.ls.length Z) M J h j X V g.ms.length v N 11) (by simp only[acV];go_simp) ⟨N,H.put (by decide) (by simp),z,fun k=>U (by simpa using k),fun k=>by simpa using L (by simpa using k)⟩)
     ·cases Y;have o1:O.tmps[1]? =some (.pointer (some ⟨M,0,none⟩)):=H.oth 1 (by decide);have o3:O.tmps[3]? =some (.int .i64 (j:Int)):=H.oth 3 (by decide);have am:=H.e 11 (by decide) (q ⟨11,.data⟩ (by simp) rfl);simp only[acV] at am;exact zce rfl rfl (zco (w':=W) (v:=acV (.slice I.a g.ps.length I.cap) (.slice A.a g.ms.length A.cap) (.slice (some ⟨J,h,none⟩) g.ls.length Z) M J h j X V g.ms.length v N 12) (by simp only[acV];go_simp) ⟨N,H.put (by decide) (by simp),z,fun k=>U (by simpa using k),fun k=>by simpa using L (by simpa using k)⟩)
     ·cases Y;have o1:O.tmps[1]? =some (.pointer (some ⟨M,0,none⟩)):=H.oth 1 (by decide);have o3:O.tmps[3]? =some (.int .i64 (j:Int)):=H.oth 3 (by decide);have aq:=H.e 12 (by decide) (q ⟨12,.data⟩ (by simp) rfl);simp only[acV] at aq;obtain⟨d0,d1,d2,df⟩:=zo (HX.o.later z);obtain⟨m0,m2⟩:=RC.o W (HB.o.trans (z.mono HB.o.size));exact zce rfl rfl (zco (w':=W) (v:=acV (.slice I.a g.ps.length I.cap) (.slice A.a g.ms.length A.cap) (.slice (some ⟨J,h,none⟩) g.ls.length Z) M J h j X V g.ms.length v N 13) (by simp only[acV];go_simp) ⟨N,H.put (by decide) (by simp),z,fun k=>U (by simpa using k),fun k=>by simpa using L (by simpa using k)⟩)
     ·cases Y;have o1:O.tmps[1]? =some (.pointer (some ⟨M,0,none⟩)):=H.oth 1 (by decide);have o3:O.tmps[3]? =some (.int .i64 (j:Int)):=H.oth 3 (by decide);have t7:=H.e 7 (by decide) (q ⟨7,.data⟩ (by simp) rfl);have al:=H.e 13 (by decide) (q ⟨13,.data⟩ (by simp) rfl);simp only[acV] at t7 al;exact zce rfl rfl (zco (w':=W) (v:=acV (.slice I.a g.ps.length I.cap) (.slice A.a g.ms.length A.cap) (.slice (some ⟨J,h,none⟩) g.ls.length Z) M J h j X V g.ms.length v N 14) (by simp only[acV];go_simp) ⟨N,H.put (by decide) (by simp),z,fun k=>U (by simpa using k),fun _=>by simpa using q ⟨7,.data⟩ (by simp) rfl⟩)
     ·cases Y;have o1:O.tmps[1]? =some (.pointer (some ⟨M,0,none⟩)):=H.oth 1 (by decide);have o3:O.tmps[3]? =some (.int .i64 (j:Int)):=H.oth 3 (by decide);have ay:=H.e 14 (by decide) (q ⟨14,.data⟩ (by simp) rfl);simp only[acV] at ay;have m7:=U (L (q ⟨14,.data⟩ (by simp) rfl));exact zce rfl rfl (zco (w':=W) (v:=acV (.slice I.a g.ps.length I.cap) (.slice A.a g.ms.length A.cap) (.slice (some ⟨J,h,none⟩) g.ls.length Z) M J h j X V g.ms.length v N 15) (by simp only[acV];go_simp) ⟨N,H.put (by decide) (by simp),z,fun k=>U (by simpa using k),fun k=>by simpa using L (by simpa using k)⟩)
    ·rintro D O W ⟨N,H,z,U,_⟩ ab;rw[H.all (fun i Y=>ab i Y) (by simp)];simp only[List.range,List.range.loop,List.foldl_cons,List.foldl_nil,acV,Nat.reduceAdd]
     rename_i K hK _hx
     refine hK _ _ ?_;clear hK H;simp only[Act.put,List.setIfInBounds_toArray,List.set_cons_succ,List.set_cons_zero];have X2:=zc (HX.o.later z);have B2:=zc (HB.o.trans (z.mono HB.o.size));clear z U ab HX HB c0 c1 c2 cf;cases v with
     |true=>
      go_wp2;go_ret;exact⟨⟨false,rfl,⟨fun k=>(by cases k),fun k=>absurd k (aw.o HV.o.symm)⟩⟩,B2.o⟩
     |false=>
      go_wp2;go_roundw
      case rel=>exact⟨j+1,by omega,by go_num,zc (av.o (by rw[HC.o];exact HV.o.symm)),X2,B2⟩
      case measure=>simp[intOf];omega
   ·have ai: ¬(j:Int)<(g.ls.length:Int):=by omega
    go_wp2;go_ret
    exact⟨⟨true,rfl,⟨fun _=>⟨aa.o,fun l hl=>by
     obtain⟨i,Y⟩:=List.mem_iff_getElem?.1 hl
     exact HA.o i l (by have:=(List.getElem?_eq_some_iff.1 Y).1;omega) Y⟩,fun _=>rfl⟩⟩,HB.o⟩
structure Enc (α:Type) where
 f:α->List Value
 m:Nat
 len: ∀x,(f x).length=m
 pos:0<m
 one: ∀x,∀v∈f x,v.oneCell'=true
def OwnE {α:Type} (E:Enc α) (w:World) (base:Nat) (e:TypeId) (g n cap:Nat) (l:List α):Prop:=w.ownsRow base e E.m (.slice (some ⟨g,0,none⟩) n cap) n (l.flatMap E.f)/\n=l.length
theorem zni {α:Type} (E:Enc α) (l:List α):(l.flatMap E.f).length=l.length*E.m:=by
 induction l with
 |nil=>simp
 |cons x l h=>rw[List.flatMap_cons,List.length_append,h,E.len,List.length_cons,Nat.succ_mul];omega
theorem zwQ {α:Type} (E:Enc α) (l:List α) {j i:Nat} {x:α} {v:Value} (h:l[j]? =some x) (q:(E.f x)[i]? =some v):(l.flatMap E.f)[j*E.m+i]? =some v:=zbm E.len l j x i v h q
theorem OwnE.blk {α:Type} {E:Enc α} {w:World} {base g n z:Nat} {e:TypeId} {l:List α} (h:OwnE E w base e g n z l):base<=g/\g<w.heap.size:=by
 rcases h.1.2 with ⟨q,_⟩|⟨K,A,H,q,I,J,_⟩
 ·simp at q
 ·simp only[Value.slice.injEq,Option.some.injEq,Addr.mk.injEq,and_true,true_and] at q;obtain⟨rfl,rfl⟩:=q;exact⟨I,(aLt J)⟩
theorem OwnE.cap {α:Type} {E:Enc α} {w:World} {base g n q:Nat} {e:TypeId} {l:List α} (h:OwnE E w base e g n q l):n<=q:=by
 rcases h.1.2 with ⟨z,_⟩|⟨J,A,H,z,_,_,I,_⟩
 ·simp at z
 ·simp only[Value.slice.injEq,Option.some.injEq,Addr.mk.injEq,and_true,true_and] at z;obtain⟨_,rfl⟩:=z;exact I
theorem OwnE.keep {α:Type} {E:Enc α} {w W:World} {base g n q:Nat} {e:TypeId} {l:List α} (h:OwnE E w base e g n q l) (J:W.heap[g]? =w.heap[g]?):OwnE E W base e g n q l:=by
 refine⟨⟨h.1.1,?_⟩,h.2⟩;rcases h.1.2 with ⟨z,_⟩|⟨M,I,A,z,H,L,K⟩
 ·simp at z
 ·simp only[Value.slice.injEq,Option.some.injEq,Addr.mk.injEq,and_true,true_and] at z;obtain⟨rfl,rfl⟩:=z;exact .inr ⟨g,q,A,rfl,H,J.trans L,K⟩
theorem OwnE.later {α:Type} {E:Enc α} {w W:World} {base g n q:Nat} {e:TypeId} {l:List α} (h:OwnE E w base e g n q l) (z:Below w.heap.size w W):OwnE E W base e g n q l:=h.keep (z.block g h.blk.2)
theorem OwnE.low {α:Type} {E:Enc α} {w:World} {base b g n q:Nat} {e:TypeId} {l:List α} (h:OwnE E w base e g n q l) (K:b<=base):OwnE E w b e g n q l:=by
 refine⟨⟨h.1.1,?_⟩,h.2⟩;rcases h.1.2 with ⟨H,_⟩|⟨M,z,A,H,I,L,J⟩
 ·simp at H
 ·exact .inr ⟨M,z,A,H,Nat.le_trans K I,L,J⟩
theorem OwnE.aside {α:Type} {E:Enc α} {w W:World} {base g n q:Nat} {e:TypeId} {l:List α} {x:Option Nat} (h:OwnE E w base e g n q l) (z:w.grownBy W x) (A:some g≠x):OwnE E W base e g n q l:=h.keep (z.block g h.blk.2 A)
theorem OwnE.nil {α:Type} (E:Enc α) (w:World) (e:TypeId):OwnE E (w.alloc (.cells #[] e)) w.heap.size e w.heap.size 0 0 []:=⟨World.ownsRow_lit w #[] 0 (Nat.le_refl _) (by unfold maxLen;omega) (by simp),rfl⟩
theorem OwnE.row {α:Type} {E:Enc α} {w:World} {base g n A:Nat} {e:TypeId} {l:List α} (h:OwnE E w base e g n A l):RowAt w (some ⟨g,0,none⟩) E.f E.m l:=by
 refine .inr ⟨g,0,rfl,h.blk.2,fun j x H i v I=>?_⟩;have z:j<l.length:=(List.getElem?_eq_some_iff.1 H).1;have K:i<E.m:=by have:=(List.getElem?_eq_some_iff.1 I).1;rw[E.len] at this;exact this
 have q:j*E.m+i<n*E.m:=by
  rw[h.2];have J:(j+1)*E.m<=l.length*E.m:=Nat.mul_le_mul_right _ z;rw[Nat.succ_mul] at J;omega
 rw[Nat.zero_add,h.1.cellAt _ q];exact zwQ E l H I
theorem zwR (b o j:Nat):(⟨b,o,none⟩:Addr).add j=⟨b,o+j,none⟩:=by simp[Addr.add]
theorem zwS {P:Program} {α:Type} (E:Enc α) (W:World) {L:Array Oper} {rest:List Oper} {o:Oper} {a:Act} {Q:Exit->Act->World->Prop} (M:o.guard=none) (s x:Operand) (t:TypeId)
  (ho:o.op= .call {callee:=.builtin .append,args:=#[s,x],argTypes:=#[t,t]})
  (base:Nat) (e:TypeId) (i:TypeInfo) (z:Value) (J:Nat) (ht:P.underlying t=some (.slice e)) (hi:P.info? e=some i) (hz:i.zero=some z) (H:i.size=E.m) (O:i.bytes=J) (X:z.cells.size=E.m) (N:J<=1024)
  (g n K:Nat) (l:List α) (hs:a.eval s= .slice (some ⟨g,0,none⟩) n K) (q:OwnE E W base e g n K l)
  (V:Nat) (b:α) (hx:a.eval x= .slice (some ⟨V,0,none⟩) 1 1) (hg:W.heap[V]? =some (.cells (E.f b).toArray e (0,0))) (hn:n+1<=100000000)
  (h: ∀A w w',OwnE E w' base e A (n+1) w (l++[b])->W.grownBy w' (some g)->(A=g∨A=W.heap.size)->wpList P L Q rest (a.put o.dst (.slice (some ⟨A,0,none⟩) (n+1) w)) w'):
  wpList P L Q (o::rest) a W:=by
 have I:base<=W.heap.size:=Nat.le_trans q.blk.1 (Nat.le_of_lt q.blk.2);refine wpList_append_own_at _ M s x t ho base e i z E.m J ht hi hz H O X E.pos _ n _ hs q.1 ⟨V,0,none⟩ 1 1 (E.f b) hx (by rw[E.len,Nat.one_mul]) ?_ (E.one b) ?_ ?_ I ?_
 ·intro j u hj;rw[zwR,Nat.zero_add];simp[World.cell?,hg,hj]
 ·unfold maxLen;omega
 ·exact Nat.le_trans (Nat.mul_le_mul hn N) (by decide)
 ·intro v' w' Z k2 k3 k4;rcases Z.2 with ⟨hv,ab⟩|⟨A,w,aa,rfl,Y⟩
  ·omega
  ·refine h A w w' ⟨by rw[List.flatMap_append];simpa using Z,by rw[List.length_append,<-q.2];rfl⟩ k2 ?_;have U:some A=some g∨some A=some W.heap.size:=k4;rcases U with k|k
   ·exact .inl (Option.some.inj k)
   ·exact .inr (Option.some.inj k)
def OutE {α:Type} (E:Enc α) (e:TypeId) (w:World) (base:Nat) (a:Option Addr) (n cap:Nat) (l:List α):Prop:=n=l.length/\(0<n->∃g,a=some ⟨g,0,none⟩/\OwnE E w base e g n cap l)
theorem OutE.own {α:Type} {E:Enc α} {e:TypeId} {w:World} {base g n q:Nat} {l:List α} (h:OwnE E w base e g n q l):OutE E e w base (some ⟨g,0,none⟩) n q l:=⟨h.2,fun _=>⟨g,rfl,h⟩⟩
theorem OutE.nil {α:Type} (E:Enc α) (e:TypeId) (w:World) (base:Nat) (a:Option Addr) (q:Nat):OutE E e w base a 0 q []:=⟨rfl,fun h=>absurd h (Nat.lt_irrefl _)⟩
theorem OutE.later {α:Type} {E:Enc α} {e:TypeId} {w W:World} {base n q:Nat} {a:Option Addr} {l:List α} (h:OutE E e w base a n q l) (H:Below w.heap.size w W):OutE E e W base a n q l:=
 ⟨h.1,fun k=>by obtain⟨g,A,z⟩:=h.2 k;exact⟨g,A,z.later H⟩⟩
theorem OutE.aside {α:Type} {E:Enc α} {e:TypeId} {w W:World} {base n q x:Nat} {a:Option Addr} {l:List α} (h:OutE E e w base a n q l) (H:w.grownBy W (some x)) (I:x<base):OutE E e W base a n q l:=
 ⟨h.1,fun k=>by
  obtain⟨g,A,z⟩:=h.2 k
  exact⟨g,A,z.aside H (fun e=>by have:=Option.some.inj e;have:=z.blk.1;omega)⟩⟩
theorem OutE.row {α:Type} {E:Enc α} {e:TypeId} {w:World} {base n q:Nat} {a:Option Addr} {l:List α} (h:OutE E e w base a n q l):RowAt w a E.f E.m l:=by
 rcases Nat.eq_zero_or_pos n with z|z
 ·exact .inl (List.length_eq_zero_iff.1 (by rw[<-h.1];exact z))
 ·obtain⟨g,rfl,A⟩:=h.2 z;exact A.row
def OwnX (w:World) (base:Nat) (e:TypeId) (size g n cap:Nat) (mk:Nat->Value) (c:Nat):Prop:=∃xs,w.ownsRow base e size (.slice (some ⟨g,0,none⟩) n cap) n xs/\∀i,i<c->xs[i]? =some (mk i)
theorem OwnX.start {w:World} {base size g n q:Nat} {e:TypeId} {xs:List Value} (h:w.ownsRow base e size (.slice (some ⟨g,0,none⟩) n q) n xs) (z:Nat->Value):OwnX w base e size g n q z 0:=⟨xs,h,fun i A=>absurd A (Nat.not_lt_zero i)⟩
theorem OwnX.blk {w:World} {base size g n z c:Nat} {K:Nat->Value} {e:TypeId} (h:OwnX w base e size g n z K c):base<=g/\g<w.heap.size:=by
 obtain⟨M,I,_⟩:=h;rcases I.2 with ⟨q,_⟩|⟨N,A,H,q,J,L,_⟩
 ·simp at q
 ·simp only[Value.slice.injEq,Option.some.injEq,Addr.mk.injEq,and_true,true_and] at q;obtain⟨rfl,rfl⟩:=q;exact⟨J,(aLt L)⟩
theorem OwnX.keep {w W:World} {base size g n q c:Nat} {K:Nat->Value} {e:TypeId} (h:OwnX w base e size g n q K c) (L:W.heap[g]? =w.heap[g]?):OwnX W base e size g n q K c:=by
 obtain⟨O,I,M⟩:=h;refine⟨O,⟨I.1,?_⟩,M⟩;rcases I.2 with ⟨z,_⟩|⟨V,J,A,z,H,U,N⟩
 ·simp at z
 ·simp only[Value.slice.injEq,Option.some.injEq,Addr.mk.injEq,and_true,true_and] at z;obtain⟨rfl,rfl⟩:=z;exact .inr ⟨g,q,A,rfl,H,L.trans U,N⟩
theorem OwnX.later {w W:World} {base size g n q c:Nat} {z:Nat->Value} {e:TypeId} (h:OwnX w base e size g n q z c) (A:Below w.heap.size w W):OwnX W base e size g n q z c:=h.keep (A.block g h.blk.2)
theorem OwnX.has {w:World} {base size g n q c:Nat} {H:Nat->Value} {e:TypeId} (h:OwnX w base e size g n q H c) (i:Nat) (A:i<n*size): ∃v,w.cell? ⟨g,i,none⟩=some v:=by
 obtain⟨I,z,_⟩:=h;rw[z.cellAt i A];exact⟨_,List.getElem?_eq_getElem (by rw[z.1];exact A)⟩
theorem OwnX.cell {w:World} {base size g n q c:Nat} {z:Nat->Value} {e:TypeId} (h:OwnX w base e size g n q z c) (i:Nat) (J:i<n*size) (I:i<c):w.cell? ⟨g,i,none⟩=some (z i):=by
 obtain⟨K,H,A⟩:=h;rw[H.cellAt i J];exact A i I
theorem OwnX.free {w:World} {base size g n q c:Nat} {A:Nat->Value} {e:TypeId} (h:OwnX w base e size g n q A c) (i:Nat):w.frozen? ⟨g,i,none⟩=false:=by
 obtain⟨H,z,_⟩:=h;exact z.frozenAt i
theorem OwnX.put {w:World} {base size g n q c:Nat} {z:Nat->Value} {e:TypeId} (h:OwnX w base e size g n q z c) (K:c<n*size):OwnX (w.setCell ⟨g,c,none⟩ (z c)) base e size g n q z (c+1):=by
 obtain⟨I,A,H⟩:=h;have J:=A.1;refine⟨I.set c (z c),(A.stored c _).1,fun i L=>?_⟩;by_cases e:i=c
 ·subst e;exact List.getElem?_set_self (by omega)
 ·rw[List.getElem?_set_ne (by omega)];exact H i (by omega)
def ntE:Enc Nat:=⟨fun x=>[.int .i64 (x:Int)],1,fun _=>rfl,by decide,fun x v hv=>by simp at hv;rw[hv];rfl⟩
theorem OwnE.cut {α:Type} {E:Enc α} {w:World} {base g n A:Nat} {e:TypeId} {l:List α} (h:OwnE E w base e g n A l) {k:Nat} (M:k<=n):OwnE E w base e g k A (l.take k):=by
 have Y:=h.2;refine⟨⟨?_,?_⟩,by rw[List.length_take];omega⟩
 ·rw[zni,List.length_take];congr 1;omega
 ·rcases h.1.2 with ⟨H,_⟩|⟨g',L,q,H,U,V,O,J,K,z⟩
  ·simp at H
  ·simp only[Value.slice.injEq,Option.some.injEq,Addr.mk.injEq,and_true,true_and] at H;obtain⟨rfl,rfl⟩:=H;refine .inr ⟨g,A,q,rfl,U,V,by omega,J,K,?_⟩;have I:k*E.m<=n*E.m:=Nat.mul_le_mul_right _ M;have N:q.toList.take (k*E.m)=(q.toList.take (n*E.m)).take (k*E.m):=by rw[List.take_take,Nat.min_eq_left I]
   rw[N,z];have X:l.flatMap E.f=(l.take k).flatMap E.f++(l.drop k).flatMap E.f:=by rw[<-List.flatMap_append,List.take_append_drop]
   have Z:((l.take k).flatMap E.f).length=k*E.m:=by rw[zni,List.length_take,<-Y];congr 1;omega
   rw[X,List.take_append_of_le_length (by omega),List.take_of_length_le (by omega)]
theorem OwnE.cells {α:Type} {E:Enc α} {w:World} {base g n A:Nat} {e:TypeId} {l:List α} (h:OwnE E w base e g n A l): ∃q,w.heap[g]? =some (.cells q e (0,0)):=by
 rcases h.1.2 with ⟨z,_⟩|⟨K,H,q,z,J,I,_⟩
 ·simp at z
 ·simp only[Value.slice.injEq,Option.some.injEq,Addr.mk.injEq,and_true,true_and] at z;obtain⟨rfl,rfl⟩:=z;exact⟨q,I⟩
def zd0 (w:World) (g:Nat):Nat->Nat
 |0=>0
 |n+1=>zd0 w g n+match w.cell? ⟨g,n,none⟩ with|some (.bool true)=>1|_=>0
theorem ziZ {w:World} {base g n:Nat} {b:List Bool} (h:OwnBl w base g n b):zd0 w g n=zE b:=by
 have H: ∀k,k<=n->zd0 w g k=zE (b.take k):=by
  intro k
  induction k with
  |zero=>intro _;rfl
  |succ k I=>
   intro K;have L:=h.len;obtain⟨v,A⟩: ∃v,b[k]? =some v:=⟨_,List.getElem?_eq_getElem (by omega)⟩;have J:=h.cell A;rw[zd0,I (by omega),J];obtain⟨z,q⟩:=List.getElem?_eq_some_iff.1 A;rw[List.take_succ_eq_append_getElem z,q,zE,zE,List.count_append];cases v<;>rfl
 have:=H n (Nat.le_refl _);rw[List.take_of_length_le (by rw[h.len];exact Nat.le_refl _)] at this;exact this
structure WkW (w W:World) (G:GS) (g:Gr) (gx gb gs cap:Nat) (n:Nat) (b:List Bool) (st:List Nat):Prop where
 r:RchW w W G g gx gb n b
 s:OwnE ntE W w.heap.size 3 gs st.length cap st
theorem WkW.later {w W J:World} {G:GS} {g:Gr} {I H A q n:Nat} {b:List Bool} {K:List Nat} (h:WkW w W G g I H A q n b K) (z:Below W.heap.size W J):WkW w J G g I H A q n b K:=
 ⟨⟨h.r.x.later z,h.r.r.later z,h.r.ne,h.r.b.trans (z.mono h.r.b.size)⟩,h.s.later z⟩
theorem WkW.ne {w W:World} {G:GS} {g:Gr} {I K A H n:Nat} {b:List Bool} {N:List Nat} (h:WkW w W G g I K A H n b N):A≠K/\A≠I:=by
 obtain⟨L,q⟩:=h.s.cells;obtain⟨J,z⟩:=h.r.r.block;constructor
 ·intro e;rw[e,z] at q;exact absurd (Option.some.inj q) (by simp)
 ·intro e;have M:W.heap[I]? =_:=h.r.x;rw[e,M] at q;exact absurd (Option.some.inj q) (by simp)
theorem WkW.set {w W:World} {G:GS} {g:Gr} {H z A q n:Nat} {b:List Bool} {I:List Nat} (h:WkW w W G g H z A q n b I) (j:Nat):WkW w (W.setCell ⟨z,j,none⟩ (.bool true)) G g H z A q n (b.set j true) I:=
 ⟨h.r.set j,h.s.keep (heap_setCell_other W ⟨z,j,none⟩ A _ h.ne.1)⟩
theorem WkW.grow {w W K:World} {G:GS} {g:Gr} {A H L z I q n:Nat} {b:List Bool} {U st':List Nat} (h:WkW w W G g A H L I n b U) (J:W.grownBy K (some L)) (O:OwnE ntE K w.heap.size 3 z st'.length q st'):WkW w K G g A H z q n b st':=by
 have M:W.heap[A]? =_:=h.r.x;refine⟨⟨(J.block A (aLt M) fun e=>h.ne.2 (Option.some.inj e).symm).trans M,?_,h.r.ne,h.r.b.grown J h.r.b.size fun j e=>by cases e;exact h.s.blk.1⟩,O⟩;exact OwnR.keep h.r.r fun k N=>by
  have e:k=H:=by simpa [Rw.blk,Value.ownBlock] using N.symm
  rw[e];exact J.block H h.r.r.at.2 fun e=>h.ne.1 (Option.some.inj e).symm
end Go.Proofs.YtgcbmogmniahjaaGreat
namespace Go.Proofs.YtgcbmogmniahjaaGreat
open Go.Proofs.Tryz
set_option maxRecDepth 1000000
set_option maxHeartbeats 6400000
open Go.RowKit Go.PlainAid Go.Sort
def zwT:Value->Nat| .slice _ n _=>n|_=>0
def zwU:Value->Nat| .slice (some a) _ _=>a.block|_=>0
theorem Tryz.infoNt:(prog.info? 3).map (fun i=>(i.zero,i.size,i.bytes))=some (some (.int .i64 0),1,8):=by kernel_rfl
theorem zwV (base:Nat) (G:GS) (g:Gr) (N:Nat) (hm:N<g.ms.length) (w:World) (ho:GrOwn w base G g) (b5:g.ms.length<=8) (hl:g.ls.length<=1048576) (hr: ∀l∈g.ls,0<=l.frm/\l.frm<(g.ms.length:Int)/\0<=l.to/\l.to<(g.ms.length:Int)):
  Calls prog 71 #[grD G g,.int .i64 (N:Int)] w fun e w'=>ziS w g.ms.length (zai g.ls g.ms.length (zay g.ms.length N)) e w':=by
 have HR:=zc (RowAt.of (f:=lkL) (m:=3) (fun _=>rfl) ho.ls);have HC:=zc hr;have bb:Hid (zhj g.ls g.ms.length):=zc (fun l hl=>by have:=hr l hl;exact⟨by omega,by omega⟩);have HZ:Hid (∀l∈g.ls,0<=l.frm):=zc (fun l hl=>(hr l hl).1);clear ho hr;obtain⟨i0,hi,bC,bK,bH⟩:=info_parts Tryz.infoBl;obtain⟨j0,ji,bF,bM,bx⟩:=info_parts Tryz.infoNt;unfold grD;go_enter func71,ntmps71;go_wp2;obtain⟨U,ak⟩: ∃U,U=w.heap.size:=⟨_,rfl⟩;rw[<-ak];refine zx (R:=fun W=>Bk W U (grC G g) 32/\Below w.heap.size w W) (by rw[ak];exact⟨heap_alloc_new w _,zaB w _⟩) ?_;rintro W0 ⟨hx,hb⟩;have bX:w.heap.size<=U:=by omega
 clear ak;have X0:=zc hx;have ae:=zc hb;have ai:U<W0.heap.size:=(aLt hx);clear hx hb;refine zmV 0 (fun a' w'=>∃(I a gs af:Nat) (b:List Bool) (st:List Nat) (u3 u8 u9 aI bm aG aY bi a2 az a8 aA aE aJ bp aD aB a1 av bj bk br aw bq a0 bt aT aK ba bo aU a4 aX bf a5 aO bh a6 be a3 ax aF aH aR aM aq aS bv aZ aW bs aL bu aQ bn:Value),a'={tmps:=#[grD G g,.int .i64 (N:Int),.pointer (some ⟨U,0,none⟩),u3,.slice none 0 0,.slice (some ⟨I,0,none⟩) g.ms.length g.ms.length,.int .i64 (a:Int),.slice (some ⟨gs,0,none⟩) st.length af,u8,u9,aI,bm,aG,aY,bi,a2,az,a8,aA,aE,aJ,bp,aD,aB,a1,av,bj,bk,br,aw,bq,a0,bt,aT,aK,ba,bo,aU,a4,aX,bf,a5,aO,bh,a6,be,a3,ax,aF,aH,aR,aM,aq,aS,bv,aZ,aW,bs,aL,bu,aQ,bn],defers:=[]}/\Hid (WkP g.ls g.ms.length N a (b,st))/\Hid (WkW w w' G g U I gs af g.ms.length b st)) (fun a' w'=>(g.ms.length-zd0 w' (zwU (a'.tmps.getD 5 undef)) g.ms.length)+zwT (a'.tmps.getD 7 undef)) rfl ?_ ?_
 ·rintro a' wr ⟨I,a,gs,af,b,st,u3,u8,u9,aI,bm,aG,aY,bi,a2,az,a8,aA,aE,aJ,bp,aD,aB,a1,av,bj,bk,br,aw,bq,a0,bt,aT,aK,ba,bo,aU,a4,aX,bf,a5,aO,bh,a6,be,a3,ax,aF,aH,aR,aM,aq,aS,bv,aZ,aW,bs,aL,bu,aQ,bn,rfl,HP,J⟩;clear X0 ae ai;have ag:=HC.o;obtain⟨c0,c1,c2,cf⟩:=zo J.o.r.x;have bw:Hid (zd0 wr I g.ms.length=zE b):=zc (ziZ J.o.r.r);have KK:Hid (WkK g.ls g.ms.length N a (b,st) 0 (b,st)):=zc (WkK.first HP.o);clear HP;go_wp2;go_loopw [23,7] (fun i s wq=>∃(k L z:Nat) (A:List Bool) (q:List Nat),k<=g.ls.length/\i= .int .i64 k/\s= .slice (some ⟨L,0,none⟩) q.length z/\Hid (WkK g.ls g.ms.length N a (b,st) k (A,q))/\Hid (WkW w wq G g U I L z g.ms.length A q)) (fun i _ _=>(g.ls.length-intOf i).toNat)
  case atStart=>exact⟨0,gs,af,b,st,Nat.zero_le _,rfl,rfl,KK,J⟩
  case round=>
   clear KK J c0 c1 c2 cf;obtain⟨k,L,z,A,q,hk,rfl,rfl,X,J⟩:=hrel;by_cases ad:k<g.ls.length
   ·have bP:(k:Int)<(g.ls.length:Int):=by omega
    obtain⟨l,Z⟩: ∃l,g.ls[k]? =some l:=⟨_,List.getElem?_eq_getElem ad⟩;obtain⟨y0,y1,y2,y3⟩:=HC.o l (List.mem_of_getElem? Z);obtain⟨bl,bU,bg,hc⟩:=(HR.o.later J.o.r.b).get Z;have k0:=hc 0 _ rfl;have k1:=hc 1 _ rfl;have k2:=hc 2 _ rfl;simp only[Nat.add_zero] at k0;have HN:=zc (X.o.next bb.o HZ.o Z);obtain⟨V,al⟩: ∃V:Nat,l.frm=V:=⟨l.frm.toNat,by omega⟩;obtain⟨H,aC⟩: ∃H:Nat,l.to=H:=⟨l.to.toNat,by omega⟩;have bW:=J.o.r.r.len;have bZ:H<g.ms.length:=by omega
    obtain⟨v,hv⟩: ∃v,A[H]? =some v:=⟨_,List.getElem?_eq_getElem (by omega)⟩;have HS:Hid (zdz a (A,q) l=if V=a/\v=false then (A.set H true,q++[H]) else (A,q)):=by
     show zdz a (A,q) l=_;unfold zdz;rw[al,aC,Int.toNat_natCast];have e1:A.getD H true=v:=by rw[List.getD,hv];rfl
     show (if (V:Int)=(a:Int)/\A.getD H true=false then _ else _)=_;rw[e1];congr 1;simp only[Int.natCast_inj]
    have bI:=X.o.wk.cnt;have ar:=zdN A;rw[al] at k0;rw[aC] at k2;rw[bg];have ac:q.length<=8:=by have:=X.o.wk.cnt;have:=X.o.wk.len;simp only at*;omega
    clear X al bg hc y0 y1 y2 y3 Z bI ar ag;obtain⟨W2,ab⟩: ∃W2,W2=wr.alloc (.cells #[.int .i64 (V:Int),.string l.spec,.int .i64 (H:Int)] 57):=⟨_,rfl⟩;have aV:Below wr.heap.size wr W2:=by rw[ab];exact (Below.refl _ _).alloc (Nat.le_refl _) _
    have aj:=zc (J.o.later aV);have X2:Hid (W2.heap[wr.heap.size]? =some (.cells #[.int .i64 (V:Int),.string l.spec,.int .i64 (H:Int)] 57)):=by rw[ab];exact heap_alloc_new wr _
    clear aV;have b1:=J.o.r.r.cell hv;have bT:I<wr.heap.size:=J.o.r.r.at.2;have f1:=J.o.r.r.free H;have bN:wr.heap.size<W2.heap.size:=(aLt X2.o);have bS:(H:Int)<(g.ms.length:Int):=by omega
    by_cases ao:V=a
    ·subst ao;cases v with
     |true=>
      have aa:Hid (zdz V (A,q) l=(A,q)):=by show _=_;rw[HS.o,if_neg (by simp)]
      clear HS;go_wp2;rw[<-ab];go_roundw
      case rel=>exact⟨k+1,L,z,A,q,ad,by go_num,rfl,by rw[<-aa.o];exact HN,aj⟩
      case measure=>simp[intOf];omega
     |false=>
      have aa:Hid (zdz V (A,q) l=(A.set H true,q++[H])):=by show _=_;rw[HS.o,if_pos ⟨rfl,rfl⟩]
      have bc:=zc (J.o.set H);have e3:((wr.setCell ⟨I,H,none⟩ (.bool true)).alloc (.cells #[.int .i64 (V:Int),.string l.spec,.int .i64 (H:Int)] 57)).heap.size=wr.heap.size+1:=by rw[zg,World.size_setCell]
      clear HS X2 aj ab J bN;go_wp2_with (at_builtin;refine zwS ntE _ rfl _ _ 36 rfl w.heap.size 3 j0 _ 8 underlying36 ji bF bM bx rfl (by decide) L q.length z q (by rfl) (by exact ((bc.o.later ((Below.refl _ _).alloc (Nat.le_refl _) _)).later ((Below.refl _ _).alloc (Nat.le_refl _) _)).s) (wr.heap.size+1) H (by rfl) (by have h:=heap_alloc_new ((wr.setCell ⟨I,H,none⟩ (.bool true)).alloc (.cells #[.int .i64 (V:Int),.string l.spec,.int .i64 (H:Int)] 57)) (.cells #[.int .i64 (H:Int)] 3);rw[e3] at h;exact h) (by omega) ?_;intro g4 a9 w4 bL bJ bO);have bA:=zc (((bc.o.later ((Below.refl _ _).alloc (Nat.le_refl _) _)).later ((Below.refl _ _).alloc (Nat.le_refl _) _)).grow bJ (st':=q++[H]) (by rw[List.length_append];exact bL));go_roundw
      case rel=>exact⟨k+1,g4,a9,A.set H true,q++[H],ad,by go_num,by rw[List.length_append];rfl,by rw[<-aa.o];exact HN,bA⟩
      case measure=>simp[intOf];omega
    ·have b6:((V:Int)==(a:Int))=false:=beq_eq_false_iff_ne.2 (by omega);have aa:Hid (zdz a (A,q) l=(A,q)):=by show _=_;rw[HS.o,if_neg (fun k=>ao k.1)]
     clear HS;go_wp2;rw[<-ab];go_roundw
     case rel=>exact⟨k+1,L,z,A,q,ad,by go_num,rfl,by rw[<-aa.o];exact HN,aj⟩
     case measure=>simp[intOf];omega
   ·obtain rfl:k=g.ls.length:=by omega
    have a7:=X.o.wk.cnt;have bE:=X.o.wk.len;have ar:=zdN A;have bR:=zdN b;have ac:q.length<=8:=by simp only at*;omega
    rcases List.eq_nil_or_concat q with rfl|⟨M,x,rfl⟩
    ·have HE:=zc (X.o.over hm bb.o rfl);go_wp2;simp only[Exit.jump];go_ret;refine⟨I,rfl,?_,J.o.r.b⟩;rw[<-show A=_ from HE.o];exact J.o.r.r
    ·rw[List.concat_eq_append] at X J ac a7 ⊢;have bB:=zc (X.o.pop rfl);have HM:=zc X.o.meas;obtain⟨ln,Y⟩: ∃ln,ln=M.length:=⟨_,rfl⟩;have bz:(M++[x]).length=ln+1:=by rw[List.length_append,Y];rfl
     have bD:Hid (OwnE ntE wr w.heap.size 3 L ln z M):=zc (by
      have h:=J.o.s.cut (k:=ln) (by omega);rw[Y,List.take_left] at h;rw[Y]
      exact h)
     have hx:wr.cell? ⟨L,ln,none⟩=some (.int .i64 (x:Int)):=by
      obtain⟨b4,bQ,he,hc⟩:=J.o.s.row.get (j:=ln) (x:=x) (by rw[Y,List.getElem?_append_right (Nat.le_refl _),Nat.sub_self];rfl);cases he;have h:=hc 0 _ rfl
      simpa [ntE] using h
     have ay:=J.o.s.cap;have aP:=zc J.o.r;have bY:Hid (zd0 wr I g.ms.length=zE A):=zc (ziZ J.o.r.r);rw[bz] at ay ac ⊢;clear J X a7 bE;subst Y;have bV:(M.length:Int)<=(z:Int):=by omega
     have Z:M.length<M.length+1:=by omega
     have aN:Below wr.heap.size wr wr.drew:=(Below.refl _ _).drew;have W9:Hid (WkW w wr.drew G g U I L z g.ms.length A M):=zc (WkW.later ⟨aP.o,bD.o⟩ aN);have M9:Hid (zd0 wr.drew I g.ms.length=zE A):=zc (ziZ W9.o.r.r);clear aN;go_wp2;go_region
     all_goals
      go_wp2;go_step3;refine⟨rfl,⟨I,x,L,z,A,M,_,_,_,_,_,_,_,_,_,_,_,_,_,_,_,_,_,_,_,_,_,_,_,_,_,_,_,_,_,_,_,_,_,_,_,_,_,_,_,_,_,_,_,_,_,_,_,_,_,_,_,_,_,_,_,rfl,bB,W9⟩,?_⟩;have q1:=HM.o;have q2:=M9.o;have q3:=bw.o;simp only[List.length_append,List.length_singleton] at q1;have q4:=aP.o.r.len;show (g.ms.length-zd0 wr.drew I g.ms.length)+M.length<(g.ms.length-zd0 _ I g.ms.length)+st.length;rw[q2,q3];omega
 ·intro ap;obtain⟨c0,c1,c2,cf⟩:=zo X0.o;go_wp2_with (first|(at_make;refine wpList_make_full W0 rfl _ _ 58 rfl w.heap.size 4 i0 _ 1 underlying58 hi bC bK .i64 .i64 _ _ g.ms.length (by rfl) (by rfl) rfl rfl (by rw[bH];omega) (by unfold maxLen;omega) ae.o.size ?_));intro w1 O ah;have an:Below W0.heap.size W0 w1:=(Below.refl _ _).grown ah (Nat.le_refl _) (fun k h=>by cases h);obtain⟨I,am⟩: ∃I,I=W0.heap.size:=⟨_,rfl⟩;have RR:Hid (RchW w w1 G g U I g.ms.length (List.replicate g.ms.length false)):=by
   refine⟨X0.o.later an,?_,by omega,zaf ae.o an⟩;unfold OwnBl OwnR;rw[toList_madeCells_one] at O;rw[am,List.map_replicate];exact O
  rw[<-am];clear O ah an am X0 ae ai c0 c1 c2 cf;obtain⟨c0,c1,c2,cf⟩:=zo RR.o.x;have f0:=RR.o.r.free N;have b0:=RR.o.r.cell (j:=N) (v:=false) (by rw[List.getElem?_replicate,if_pos (by omega)]);have bG:(N:Int)<(g.ms.length:Int):=by omega
  have R1:=zc (RR.o.set N);go_upto_region 3 with fail;obtain⟨w2,au⟩: ∃w2,w2=w1.setCell ⟨I,N,none⟩ (.bool true):=⟨_,rfl⟩;rw[<-au] at R1 ⊢;clear au RR f0 b0 c0 c1 c2 cf bG;change Hid (RchW w w2 G g U I g.ms.length (zay g.ms.length N)) at R1;have HP:Hid (WkP g.ls g.ms.length N N (zay g.ms.length N,[])):=zc (WkP.start hm)
  have W1:Hid (WkW w (w2.alloc (.cells #[] 3)) G g U I w2.heap.size 0 g.ms.length (zay g.ms.length N) []):=zc (by
   have hb:Below w2.heap.size w2 (w2.alloc (.cells #[] 3)):=(Below.refl _ _).alloc (Nat.le_refl _) _
   exact⟨⟨R1.o.x.later hb,R1.o.r.later hb,R1.o.ne,R1.o.b.trans (hb.mono R1.o.b.size)⟩,(OwnE.nil ntE w2 3).low R1.o.b.size⟩)
  go_wp2;go_step3
  rename_i K hK
  refine hK _ _ (ap _ _ ⟨I,N,w2.heap.size,0,zay g.ms.length N,[],_,_,_,_,_,_,_,_,_,_,_,_,_,_,_,_,_,_,_,_,_,_,_,_,_,_,_,_,_,_,_,_,_,_,_,_,_,_,_,_,_,_,_,_,_,_,_,_,_,_,_,_,_,_,_,rfl,HP,W1⟩)
theorem Tryz.infoBls:(prog.info? 58).map (fun i=>(i.zero,i.size,i.bytes))=some (some (.slice none 0 0),1,24):=by kernel_rfl
def reV (n:Nat) (gs:Nat->Nat) (k j:Nat):Value:=if j<k then .slice (some ⟨gs j,0,none⟩) n n else .slice none 0 0
def reL (n:Nat) (gs:Nat->Nat) (k:Nat):List Value:=(List.range n).map (reV n gs k)
theorem zwW {n k:Nat} (w:Nat->Nat) (z:k<n) (q:Nat):(reL n w k).set k (.slice (some ⟨q,0,none⟩) n n)=reL n (fun j=>if j=k then q else w j) (k+1):=by
 apply List.ext_getElem?;intro i;rw[List.getElem?_set];simp only[reL,List.getElem?_map,List.length_map,List.length_range];by_cases H:i<n
 ·rw[List.getElem?_range H];by_cases e:k=i
  ·subst e;simp[reV,z]
  ·simp only[e,if_false,Option.map_some,reV];have A:(i<k+1)=(i<k):=by apply propext;omega
   simp only[A,show ¬i=k from fun h=>e h.symm,if_false]
 ·rw[List.getElem?_eq_none (by simp;omega)];by_cases e:k=i
  ·omega
  ·simp[e]
theorem zwX {W H:World} {base g n q:Nat} {e:TypeId} {size:Nat} {k:Nat} {xs:List Value} (h:W.ownsRow base e size (.slice (some ⟨g,0,none⟩) n q) k xs) (J:H.heap[g]? =W.heap[g]?):H.ownsRow base e size (.slice (some ⟨g,0,none⟩) n q) k xs:=by
 refine⟨h.1,?_⟩;rcases h.2 with ⟨w,_⟩|⟨L,A,z,w,I,K,rest⟩
 ·simp at w
 ·simp only[Value.slice.injEq,Option.some.injEq,Addr.mk.injEq,and_true] at w;obtain⟨rfl,rfl,rfl⟩:=w;exact .inr ⟨g,q,z,rfl,I,J.trans K,rest⟩
structure ReW (w W:World) (G:GS) (g:Gr) (gx b:Nat) (gs:Nat->Nat) (k:Nat):Prop where
 x:Bk W gx (grC G g) 32
 row:W.ownsRow w.heap.size 58 1 (.slice (some ⟨b,0,none⟩) g.ms.length g.ms.length) g.ms.length (reL g.ms.length gs k)
 bl: ∀j,j<k->OwnBl W w.heap.size (gs j) g.ms.length (zai g.ls g.ms.length (zay g.ms.length j))
 bel:Below w.heap.size w W
theorem ReW.blk {w W:World} {G:GS} {g:Gr} {H b k:Nat} {I:Nat->Nat} (h:ReW w W G g H b I k):w.heap.size<=b/\∃q,W.heap[b]? =some (.cells q 58 (0,0)):=by
 rcases h.row.2 with ⟨z,_⟩|⟨L,A,q,z,J,K,_⟩
 ·simp at z
 ·simp only[Value.slice.injEq,Option.some.injEq,Addr.mk.injEq,and_true,true_and] at z;obtain⟨rfl,_⟩:=z;exact⟨J,q,K⟩
theorem ReW.later {w W H:World} {G:GS} {g:Gr} {A b k:Nat} {z:Nat->Nat} (h:ReW w W G g A b z k) (q:Below W.heap.size W H):ReW w H G g A b z k:=by
 obtain⟨_,I,K⟩:=h.blk;exact⟨h.x.later q,zwX h.row (q.block b (aLt K)),fun j J=>(h.bl j J).later q,h.bel.trans (q.mono h.bel.size)⟩
theorem ReW.put {w W:World} {G:GS} {g:Gr} {H b k z:Nat} {J:Nat->Nat} (h:ReW w W G g H b J k) (Y:k<g.ms.length) (Z:OwnBl W w.heap.size z g.ms.length (zai g.ls g.ms.length (zay g.ms.length k))):
  ReW w (W.setCell ⟨b,k,none⟩ (.slice (some ⟨z,0,none⟩) g.ms.length g.ms.length)) G g H b (fun j=>if j=k then z else J j) (k+1):=by
 obtain⟨hb,X,U⟩:=h.blk;have V:W.heap[H]? =_:=h.x;have I:H≠b:=fun e=>by
  rw[e,U] at V;exact absurd (Option.some.inj V) (by simp)
 have L: ∀{q:Nat} {l:List Bool},OwnBl W w.heap.size q g.ms.length l->OwnBl (W.setCell ⟨b,k,none⟩ (.slice (some ⟨z,0,none⟩) g.ms.length g.ms.length)) w.heap.size q g.ms.length l:=fun {q l} hq=>by
  refine OwnR.keep hq fun j N=>?_;have e:j=q:=by simpa [Rw.blk,Value.ownBlock] using N.symm
  rw[e];refine heap_setCell_other W ⟨b,k,none⟩ q _ fun K=>?_;obtain⟨M,A⟩:=hq.block;have K:q=b:=K;rw[K,U] at A;exact absurd (Option.some.inj A) (by simp)
 have O:=(h.row.stored k (.slice (some ⟨z,0,none⟩) g.ms.length g.ms.length)).1;rw[zwW J Y] at O;refine⟨(heap_setCell_other W ⟨b,k,none⟩ H _ I).trans h.x,O,fun j N=>?_,h.bel.setCell (p:=⟨b,k,none⟩) hb _⟩;by_cases e:j=k
 ·subst e;simp only[if_true];exact L Z
 ·simp only[e,if_false];exact L (h.bl j (by omega))
theorem ReW.cell {w W:World} {G:GS} {g:Gr} {A b k j:Nat} {q:Nat->Nat} (h:ReW w W G g A b q k) (z:j<g.ms.length):W.cell? ⟨b,j,none⟩=some (reV g.ms.length q k j):=by
 rw[h.row.cellAt j (by omega)];simp[reL,List.getElem?_range z]
theorem ReW.free {w W:World} {G:GS} {g:Gr} {z b k j:Nat} {q:Nat->Nat} (h:ReW w W G g z b q k):W.frozen? ⟨b,j,none⟩=false:=h.row.frozenAt j
def ReAt (W:World) (g:Gr) (b:Nat) (gs:Nat->Nat):Prop:=b<W.heap.size/\∀j,j<g.ms.length->W.cell? ⟨b,j,none⟩=some (.slice (some ⟨gs j,0,none⟩) g.ms.length g.ms.length)/\gs j<W.heap.size/\∀i,i<g.ms.length->W.cell? ⟨gs j,i,none⟩=some (.bool (zbB g j i))
theorem ReAt.later {W A:World} {g:Gr} {b:Nat} {w:Nat->Nat} (h:ReAt W g b w) (q:Below W.heap.size W A):ReAt A g b w:=
 ⟨Nat.lt_of_lt_of_le h.1 q.size,fun j H=>by
  obtain⟨I,z,J⟩:=h.2 j H
  exact⟨(q.cell (p:=⟨b,j,none⟩) h.1).trans I,Nat.lt_of_lt_of_le z q.size,fun i K=>(q.cell (p:=⟨w j,i,none⟩) z).trans (J i K)⟩⟩
theorem zwY (base:Nat) (G:GS) (g:Gr) (w:World) (ho:GrOwn w base G g) (ad:g.ms.length<=8) (hl:g.ls.length<=1048576) (hr: ∀l∈g.ls,0<=l.frm/\l.frm<(g.ms.length:Int)/\0<=l.to/\l.to<(g.ms.length:Int)):
  Calls prog 42 #[grD G g] w fun e w'=>∃b U,e= .returned (.slice (some ⟨b,0,none⟩) g.ms.length g.ms.length)/\ReAt w' g b U/\Below w.heap.size w w':=by
 have HO:=zc ho;have HC:=zc hr;clear ho hr;obtain⟨i0,J,aa,ab,ac⟩:=info_parts Tryz.infoBls;unfold grD;go_enter func42,ntmps42;go_upto_region 1 with fail;obtain⟨V,M⟩: ∃V,V=w.heap.size:=⟨_,rfl⟩;rw[<-M];refine zx (R:=fun W=>Bk W V (grC G g) 32/\Below w.heap.size w W) (by rw[M];exact⟨heap_alloc_new w _,zaB w _⟩) ?_;rintro Z ⟨hx,hb⟩;clear M;have X0:=zc hx;have I:=zc hb;clear hx hb;obtain⟨c0,c1,c2,cf⟩:=zo X0.o;go_wp2_with (first|(at_make;refine wpList_make_full Z rfl _ _ 71 rfl w.heap.size 58 i0 _ 1 underlying71 J aa ab .i64 .i64 _ _ g.ms.length (by rfl) (by rfl) rfl rfl (by rw[ac];omega) (by unfold maxLen;omega) I.o.size ?_));intro w1 q H;have L:Below Z.heap.size Z w1:=(Below.refl _ _).grown H (Nat.le_refl _) (fun k h=>by cases h);obtain⟨b,K⟩: ∃b,b=Z.heap.size:=⟨_,rfl⟩;have R1:Hid (ReW w w1 G g V b (fun _=>0) 0):=by
  refine zc ⟨X0.o.later L,?_,fun j N=>absurd N (Nat.not_lt_zero j),zaf I.o L⟩;rw[toList_madeCells_one] at q;rw[K];have e:reL g.ms.length (fun _=>0) 0=List.replicate g.ms.length (.slice none 0 0):=by
   apply List.ext_getElem?;intro i;rw[reL,List.getElem?_map,List.getElem?_replicate];by_cases J:i<g.ms.length
   ·rw[List.getElem?_range J,if_pos J];rfl
   ·rw[List.getElem?_eq_none (by simp;omega),if_neg J];rfl
  rw[e];exact q
 rw[<-K];clear q H L K X0 I c0 c1 c2 cf;go_wp2;go_loopw [11,4] (fun i _ wr=>∃(k:Nat) (U:Nat->Nat),k<=g.ms.length/\i= .int .i64 k/\Hid (ReW w wr G g V b U k)) (fun i _ _=>(g.ms.length-intOf i).toNat)
 case atStart=>exact⟨0,_,Nat.zero_le _,rfl,R1⟩
 case round=>
  clear R1;obtain⟨k,U,hk,rfl,z⟩:=hrel;by_cases A:k<g.ms.length
  ·have Y:(k:Int)<(g.ms.length:Int):=by omega
   obtain⟨c0,c1,c2,cf⟩:=zo z.o.x;go_wp2_with fail;refine (zwV base G g k A wr (HO.o.later z.o.bel) ad hl HC.o).mono ?_;rintro e w2 ⟨g2,rfl,O,X⟩;have R2:=zc (z.o.later X);have O2:Hid (OwnBl w2 w.heap.size g2 g.ms.length (zai g.ls g.ms.length (zay g.ms.length k))):=zc (OwnR.low O z.o.bel.size);have q0:=R2.o.cell A;have qf:=R2.o.free (j:=k);have R3:=zc (R2.o.put A O2.o);clear O X z c0 c1 c2 cf;go_wp2;go_roundw
   case rel=>exact⟨k+1,_,A,by go_num,R3⟩
   case measure=>simp[intOf];omega
  ·have Y: ¬(k:Int)<(g.ms.length:Int):=by omega
   obtain rfl:k=g.ms.length:=by omega
   go_wp2;go_ret;obtain⟨_,ae,hc⟩:=z.o.blk;refine⟨b,rfl,⟨U,(aLt hc),fun j N=>⟨?_,(z.o.bl j N).at.2,fun i J=>(z.o.bl j N).cell (zmL J)⟩⟩,z.o.bel⟩;have:=z.o.cell N;rw[reV,if_pos N] at this;exact this
theorem zwZ (g:Gr) (b z q:Nat) (N:Nat->Nat) (A:BA) (w:World) (h:ReAt w g b N) (I:z<g.ms.length) (O:q<g.ms.length):
  Calls prog 43 #[.slice (some ⟨b,0,none⟩) g.ms.length g.ms.length,.agg #[.int .i64 (z:Int),.string A,.int .i64 (q:Int)]] w fun e w'=>e= .returned (.bool (zbB g q z))/\Below w.heap.size w w':=by
 have K:Hid (Below w.heap.size w (w.alloc (.cells #[.int .i64 (z:Int),.string A,.int .i64 (q:Int)] 57))):=(Below.refl _ _).alloc (Nat.le_refl _) _;obtain⟨X,V,H⟩:=h.2 q O;have L:=H z I;have J:=h.1;generalize zbB g q z=v at L ⊢;have U:(z:Int)<(g.ms.length:Int):=by omega
 have M:(q:Int)<(g.ms.length:Int):=by omega
 clear h H;go_enter func43,ntmps43;go_wp2;go_region
 all_goals
  go_wp2;go_ret;exact⟨rfl,K.o.drew⟩
end Go.Proofs.YtgcbmogmniahjaaGreat
namespace Go.Proofs.YtgcbmogmniahjaaGreat
open Go.Proofs.Tryz
set_option maxRecDepth 100000
set_option maxHeartbeats 3200000
open Go.RowKit Go.PlainAid Go.Sort
theorem zxa (cG:GrC 10) (base:Nat) (G:GS) (g:Gr) (w:World) (ho:GrOwn w base G g) (hg:GdG g):
  Calls prog 13 #[grD G g] w fun e w'=>SameOut (zhk g) e/\Below w.heap.size w w':=by
 have HO:=zc ho;have HG:=zc hg;have CG:=zc cG;have af:=hg.ll;clear ho hg cG;obtain⟨pr,mr,sv,⟨la,lc⟩⟩:=G;unfold grD;go_enter func13,ntmps13;go_upto_region 1 with fail;obtain⟨gx,N⟩: ∃gx,gx=w.heap.size:=⟨_,rfl⟩;rw[<-N];refine zx (R:=fun W=>Bk W gx #[.slice pr.a g.ps.length pr.cap,.slice mr.a g.ms.length mr.cap,.slice la g.ls.length lc] 32/\Below w.heap.size w W) (by rw[N];exact⟨heap_alloc_new w _,zaB w _⟩) ?_;rintro W0 ⟨hx,h⟩;clear N;have X0:=zc hx;have B0:=zc h;clear hx h;obtain⟨c0,Z,c2,cf⟩:=zo X0.o;go_wp2_with fail;refine (CG.o base ⟨pr,mr,sv,⟨la,lc⟩⟩ g W0 (HO.o.later B0.o) HG.o).mono ?_;rintro e w1 ⟨⟨b,rfl,aa⟩,h⟩;have X1:=zc (X0.o.later h);have B1:=zc (zaf B0.o h);have OK:=zc aa;clear aa h c0 Z c2 cf X0 B0;obtain⟨c0,Z,c2,cf⟩:=zo X1.o;cases b with
 |false=>
  go_wp2;go_ret;exact⟨⟨false,rfl,⟨fun k=>(by cases k),fun k=>absurd (OK.o.2 k.1) (by decide)⟩⟩,B1.o⟩
 |true=>
  have K:Hid (GrS g):=OK.o.1 (by simp);have LK:=zc K.o.links;have ag:g.ms.length<=8:=K.o.1.2;have HR:=zc (RowAt.of (f:=lkL) (m:=3) (fun _=>rfl) HO.o.ls);clear OK;go_wp2_with fail;refine (zwY base ⟨pr,mr,sv,⟨la,lc⟩⟩ g w1 (HO.o.later B1.o) ag af LK.o).mono ?_;rintro e w2 ⟨bb,gs,rfl,X,h⟩;have X2:=zc (X1.o.later h);have O:=zc (zaf B1.o h);have RA:=zc X;clear X h X1 B1 c0 Z c2 cf;obtain⟨c0,Z,c2,cf⟩:=zo X2.o;go_wp2;go_loopw [14] (fun i wr=>∃j:Nat,j<=g.ls.length/\i= .int .i64 j/\Hid (∀k x,k<j->g.ls[k]? =some x->zbB g x.to.toNat x.frm.toNat=false)/\Hid (Below w2.heap.size w2 wr)) (fun i _=>(g.ls.length-intOf i).toNat)
  case atStart=>exact⟨0,Nat.zero_le _,rfl,zc (fun k x hk=>absurd hk (Nat.not_lt_zero k)),zc (Below.refl _ _)⟩
  case round=>
   obtain⟨j,hj,rfl,HA,Y⟩:=hrel;clear c0 Z c2 cf;by_cases U:j<g.ls.length
   ·have ad:(j:Int)<(g.ls.length:Int):=by omega
    obtain⟨l,L⟩: ∃l,g.ls[j]? =some l:=⟨_,List.getElem?_eq_getElem U⟩;obtain⟨y0,y1,y2,y3⟩:=LK.o l (List.mem_of_getElem? L);obtain⟨bl,aj,ab,q⟩:=(HR.o.later (O.o.trans (Y.o.mono O.o.size))).get L;have k0:=q 0 _ rfl;have k1:=q 1 _ rfl;have k2:=q 2 _ rfl;simp only[Nat.add_zero] at k0;have H:la=some ⟨bl,aj,none⟩:=ab;rw[H];obtain⟨z,J⟩: ∃z:Nat,l.frm=z:=⟨l.frm.toNat,by omega⟩;obtain⟨A,M⟩: ∃A:Nat,l.to=A:=⟨l.to.toNat,by omega⟩;have ak:z<g.ms.length:=by omega
    have ah:A<g.ms.length:=by omega
    have HC:Hid (zbB g l.to.toNat l.frm.toNat=zbB g A z):=by rw[J,M,Int.toNat_natCast,Int.toNat_natCast];exact zc rfl
    have al:=zc (fun q=>zmM (i:=j) HA.o L q)
    have ai:Hid (zbB g A z=true->¬zhk g):=zc (fun q k=>by
     have:=k.2 l (List.mem_of_getElem? L);rw[HC.o,q] at this
     cases this)
    rw[J] at k0;rw[M] at k2;clear y0 y1 y2 y3 J M L q ab H;obtain⟨W2,I⟩: ∃W2,W2=wr.alloc (.cells #[.int .i64 (z:Int),.string l.spec,.int .i64 (A:Int)] 57):=⟨_,rfl⟩;have ac:Below wr.heap.size wr W2:=by rw[I];exact (Below.refl _ _).alloc (Nat.le_refl _) _
    have B3:=zc (Y.o.trans (ac.mono Y.o.size));clear ac Y;go_wp2_with fail;rw[<-I];refine (zwZ g bb z A gs l.spec W2 (RA.o.later B3.o) ak ah).mono ?_;rintro e W3 ⟨rfl,ae⟩;have B4:=zc (B3.o.trans (ae.mono B3.o.size));clear ae B3 I;cases V:zbB g A z with
    |true=>
     go_wp2;go_ret;exact⟨⟨false,rfl,⟨fun k=>(by cases k),fun k=>absurd k (ai.o V)⟩⟩,O.o.trans (B4.o.mono O.o.size)⟩
    |false=>
     go_wp2;go_roundw
     case rel=>exact⟨j+1,U,by go_num,zc (al.o (by rw[HC.o];exact V)),B4⟩
     case measure=>simp[intOf];omega
   ·have ad: ¬(j:Int)<(g.ls.length:Int):=by omega
    go_wp2;go_ret
    exact⟨⟨true,rfl,⟨fun _=>⟨K.o,fun l L=>by
     obtain⟨i,hi⟩:=List.mem_iff_getElem?.1 L
     exact HA.o i l (by have:=(List.getElem?_eq_some_iff.1 hi).1;omega) hi⟩,fun _=>rfl⟩⟩,O.o.trans (Y.o.mono O.o.size)⟩
open Go.Deep
theorem zxb {H:Type} {enc:TypeId×Value->H} {w:World} {base:Nat} {q:Nat->Bool} {I:Bool} {M:Nat} {K:List Value} {z:DataW H×List MemPlace} (h:DataW.trod enc prog w base q I M 26 K=some z):
  ∃(A:GA) (g:Gr),K=(grA A g).cells.toList/\GrIn w A g/\BigG A g/\∀x∈A.ms,zaW x.2.ex:=by
 obtain⟨xs,k,_,_,J,V,Y⟩:=DataW.trod_struct underlying26 h;have cM:prog.cellsOf 26=3:=by kernel_rfl
 rw[cM] at J;have k0:prog.cellsOf 22=1:=by kernel_rfl
 have k1:prog.cellsOf 23=1:=by kernel_rfl
 have k2:prog.cellsOf 24=1:=by kernel_rfl
 obtain⟨U,N,O,rfl⟩:=list3 J;obtain⟨y0,y1,y2,rfl⟩:=list3 (V.trans rfl);have g0:DataW.trod enc prog w base q I k 22 (List.take (prog.cellsOf 22) (List.drop 0 [U,N,O]))=some y0:=Y 0 _ rfl;rw[k0] at g0;have g1:DataW.trod enc prog w base q I k 23 (List.take (prog.cellsOf 23) (List.drop 1 [U,N,O]))=some y1:=Y 1 _ rfl;rw[k1] at g1;have g2:DataW.trod enc prog w base q I k 24 (List.take (prog.cellsOf 24) (List.drop 2 [U,N,O]))=some y2:=Y 2 _ rfl;rw[k2] at g2;obtain⟨a0,c0,l0,e0,b0,r0,q0⟩:=zdP sNone (α:=BA) (f:=(fun x=>[Value.string x])) (m:=1) (Q:=zdR) (by omega) (fun _=>rfl) underlying22 (by kernel_rfl) (fun n K y h J=>zk4 h J) (show DataW.trod enc prog w base q I k 22 [U]=some y0 from g0);subst e0
 obtain⟨a1,c1,Z,e1,b1,r1,X⟩:=zdP (⟨none,none,none,none,none,0,0,0,0,0⟩,⟨[],[],[],[],[]⟩) (α:=MA×Md) (f:=maL) (m:=5) (Q:=fun x=>ModIn w x.1 x.2/\zfD x.2/\zaW x.2.ex) (by omega) (fun _=>rfl) underlying23 (by kernel_rfl) (fun n K y h _=>by
  obtain⟨A,m,e,hm⟩:=zqz h
  exact⟨(A,m),e,hm⟩) (show DataW.trod enc prog w base q I k 23 [N]=some y1 from g1)
 subst e1;obtain⟨a2,c2,l2,e2,b2,r2,q2⟩:=zdP ⟨0,sNone,0⟩ (α:=Lk) (f:=lkL) (m:=3) (Q:=zev) (by omega) (fun _=>rfl) underlying24 (by kernel_rfl) (fun n K y h J=>zq8 h J) (show DataW.trod enc prog w base q I k 24 [O]=some y2 from g2);subst e2;unfold maxLen at b0 b1 b2;exact⟨⟨a0,c0,a1,c1,a2,c2,Z⟩,⟨l0,Z.map (·.2),l2⟩,rfl,⟨r0,r1,fun x L=>(X x L).1,r2,rfl⟩,⟨by show l0.length<=_;omega,q0,by show Z.length<=_;omega,fun x L=>(X x L).2.1,by show l2.length<=_;omega,q2⟩,fun x L=>(X x L).2.2⟩
end Go.Proofs.YtgcbmogmniahjaaGreat
