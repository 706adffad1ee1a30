/-
  What spec.Acyclic answers: the walk.
  Rows of the call's own,of elements of any make: grown,kept,marked. No program is spoken of.
  A walk's row of bools and its stack,in memory. No program is spoken of but for the numbers of its types.
-/
import Derived.Test.YtgcbmogmniahjaaGreatCAcCycPreToSpecFrom
import Derived.Test.YtgcbmogmniahjaaGreatCAcOrderInvToOrderSlots
namespace Go.Proofs.YtgcbmogmniahjaaGreat
set_option maxRecDepth 100000
set_option maxHeartbeats 6400000
open Go.RowKit Go.PlainAid Go.Sort
def acV (p m l:Value) (gx bl off j fr tt n:Nat) (v:Bool) (gb:Nat):Nat→Value
 |0=>.agg #[p,m,l]
 |1=>.pointer (some ⟨gx,2,none⟩)
 |2=>l
 |3=>.int .i64 (j:Int)
 |4=>.pointer (some ⟨bl,off+j*3,none⟩)
 |5=>.pointer (some ⟨bl,off+j*3+2,none⟩)
 |6=>.int .i64 (tt:Int)
 |7=>.slice (some ⟨gb,0,none⟩) n n
 |8=>.pointer (some ⟨gx,2,none⟩)
 |9=>l
 |10=>.int .i64 (j:Int)
 |11=>.pointer (some ⟨bl,off+j*3,none⟩)
 |12=>.pointer (some ⟨bl,off+j*3,none⟩)
 |13=>.int .i64 (fr:Int)
 |14=>.pointer (some ⟨gb,fr,none⟩)
 |_=>.bool v
theorem zwO {p m l:Value} {z A q j H w n J I i:Nat} {v:Bool} (h:i≠7) (k:i≠14):acV p m l z A q j H w n v I i=acV p m l z A q j H w n v J i:=by
 unfold acV
 split<;>first|rfl|exact absurd rfl h|exact absurd rfl k
theorem zwP (cG:GrC 8) (base:Nat) (G:GS) (g:Gr) (w:World) (ho:GrOwn w base G g) (hg:GdG g):
  Calls Tryz.prog 12 #[grD G g] w fun e w'=>SameOut (zhk g) e∧Below w.heap.size w w':=by
 have HO:=zc ho
 have HG:=zc hg
 have CG:=zc cG
 have ax:=hg.ll
 clear ho hg cG
 obtain⟨I,A,sv,⟨la,Z⟩⟩:=G
 unfold grD
 go_enter Tryz.func12,Tryz.ntmps12
 go_upto_region 1 with fail
 obtain⟨M,ae⟩: ∃M,M=w.heap.size:=⟨_,rfl⟩
 rw[←ae]
 refine zx (R:=fun W=>Bk W M #[.slice I.a g.ps.length I.cap,.slice A.a g.ms.length A.cap,.slice la g.ls.length Z] 32∧Below w.heap.size w W) (by rw[ae];exact⟨heap_alloc_new w _,zaB w _⟩) ?_
 rintro W0 ⟨hx,z⟩
 clear ae
 have X0:=zc hx
 have B0:=zc z
 clear hx z
 obtain⟨c0,c1,c2,cf⟩:=zo X0.out
 go_wp2_with fail
 refine (CG.out base ⟨I,A,sv,⟨la,Z⟩⟩ g W0 (HO.out.later B0.out) HG.out).mono ?_
 rintro e w1 ⟨⟨b,rfl,ag⟩,z⟩
 have X1:=zc (X0.out.later z)
 have B1:=zc (zaf B0.out z)
 have OK:=zc ag
 clear ag z c0 c1 c2 cf X0 B0
 cases b with
 |false=>
  go_wp2
  go_ret
  exact⟨⟨false,rfl,⟨fun k=>(by cases k),fun k=>absurd (OK.out.2 k.1) (by decide)⟩⟩,B1.out⟩
 |true=>
  have aa:Hid (GrS g):=OK.out.1 (by simp)
  have LK:=zc aa.out.links
  have aj:1≤g.ms.length:=aa.out.1.1
  have ap:g.ms.length≤8:=aa.out.1.2
  have HR:=zc (RowAt.of (f:=lkL) (m:=3) (fun _=>rfl) HO.out.ls)
  clear OK
  go_wp2
  go_loopw [3] (fun i wr=>∃j:Nat,j≤g.ls.length∧i= .int .i64 j∧Hid (∀k x,k<j→g.ls[k]? =some x→zbB g x.to.toNat x.frm.toNat=false)∧Hid (Bk wr M #[.slice I.a g.ps.length I.cap,.slice A.a g.ms.length A.cap,.slice la g.ls.length Z] 32)∧Hid (Below w.heap.size w wr)) (fun i _=>(g.ls.length-intOf i).toNat)
  case atStart=>exact⟨0,Nat.zero_le _,rfl,zc (fun k x hk=>absurd hk (Nat.not_lt_zero k)),X1,B1⟩
  case round=>
   obtain⟨j,hj,rfl,HA,HX,HB⟩:=hrel
   clear X1 B1
   obtain⟨c0,c1,c2,cf⟩:=zo HX.out
   by_cases ah:j<g.ls.length
   ·have ai:(j:Int)<(g.ls.length:Int):=by omega
    obtain⟨l,hl⟩: ∃l,g.ls[j]? =some l:=⟨_,List.getElem?_eq_getElem ah⟩
    obtain⟨y0,y1,y2,y3⟩:=LK.out l (List.mem_of_getElem? hl)
    obtain⟨J,h,ar,_⟩:=(HR.out.later HB.out).get hl
    subst ar
    have RC:Hid (∀W,Below w.heap.size w W→W.cell? ⟨J,h+j*3,none⟩=some (.int .i64 l.frm)∧W.cell? ⟨J,h+j*3+2,none⟩=some (.int .i64 l.to)):=zc (fun W hW=>by
     obtain⟨b',o',e',U⟩:=(HR.out.later hW).get hl
     cases e'
     exact⟨U 0 _ rfl,U 2 _ rfl⟩)
    obtain⟨X,af⟩: ∃X:Nat,l.frm=X:=⟨l.frm.toNat,by omega⟩
    obtain⟨V,ac⟩: ∃V:Nat,l.to=V:=⟨l.to.toNat,by omega⟩
    have au:X<g.ms.length:=by omega
    have ak:V<g.ms.length:=by omega
    have az:(X:Int)<(g.ms.length:Int):=by omega
    have HC:Hid (zbB g l.to.toNat l.frm.toNat=zbB g V X):=by rw[af,ac,Int.toNat_natCast,Int.toNat_natCast];exact zc rfl
    have av:=zc (fun U=>zmM (i:=j) HA.out hl U)
    have aw:Hid (zbB g V X=true→¬zhk g):=zc (fun U k=>by
     have:=k.2 l (List.mem_of_getElem? hl)
     rw[HC.out,U] at this
     cases this)
    rw[af,ac] at RC
    clear y0 y1 y2 y3 af ac hl
    obtain⟨v,hv⟩: ∃v,v=zbB g V X:=⟨_,rfl⟩
    have HV:=zc hv
    clear hv
    go_upto_region 6 with fail
    refine zwK (by kernel_rfl) (fun D O W=>∃N,SlI _ 14 16 (acV (.slice I.a g.ps.length I.cap) (.slice A.a g.ms.length A.cap) (.slice (some ⟨J,h,none⟩) g.ls.length Z) M J h j X V g.ms.length v N) D O∧Below wr.heap.size wr W∧(D 7=true→W.cell? ⟨N,X,none⟩=some (.bool v))∧(D 14=true→D 7=true)) (zwM (by kernel_rfl)) ⟨0,SlI.start _ _ _ _,(Below.refl _ _).drew,(fun k=>by cases k),(fun k=>by cases k)⟩ ?_ ?_
    ·rintro D O W i o ⟨N,H,z,U,L⟩ Y hd q
     have ah:i<16:=(Array.getElem?_eq_some_iff.1 Y).1
     obtain rfl|rfl|rfl|rfl|rfl|rfl|rfl|rfl|rfl|rfl|rfl|rfl|rfl|rfl|rfl|rfl:i=0∨i=1∨i=2∨i=3∨i=4∨i=5∨i=6∨i=7∨i=8∨i=9∨i=10∨i=11∨i=12∨i=13∨i=14∨i=15:=by omega
     ·cases Y
      have o1:O.tmps[1]? =some (.pointer (some ⟨M,0,none⟩)):=H.oth 1 (by decide)
      have o3:O.tmps[3]? =some (.int .i64 (j:Int)):=H.oth 3 (by decide)
      obtain⟨d0,d1,d2,df⟩:=zo (HX.out.later z)
      obtain⟨m0,m2⟩:=RC.out W (HB.out.trans (z.mono HB.out.size))
      exact zce rfl rfl (zco (w':=W) (v:=acV (.slice I.a g.ps.length I.cap) (.slice A.a g.ms.length A.cap) (.slice (some ⟨J,h,none⟩) g.ls.length Z) M J h j X V g.ms.length v N 0) (by simp only[acV];go_simp) ⟨N,H.put (by decide) (by simp),z,fun k=>U (by simpa using k),fun k=>by simpa using L (by simpa using k)⟩)
     ·cases Y
      have o1:O.tmps[1]? =some (.pointer (some ⟨M,0,none⟩)):=H.oth 1 (by decide)
      have o3:O.tmps[3]? =some (.int .i64 (j:Int)):=H.oth 3 (by decide)
      exact zce rfl rfl (zco (w':=W) (v:=acV (.slice I.a g.ps.length I.cap) (.slice A.a g.ms.length A.cap) (.slice (some ⟨J,h,none⟩) g.ls.length Z) M J h j X V g.ms.length v N 1) (by simp only[acV];go_simp) ⟨N,H.put (by decide) (by simp),z,fun k=>U (by simpa using k),fun k=>by simpa using L (by simpa using k)⟩)
     ·cases Y
      have o1:O.tmps[1]? =some (.pointer (some ⟨M,0,none⟩)):=H.oth 1 (by decide)
      have o3:O.tmps[3]? =some (.int .i64 (j:Int)):=H.oth 3 (by decide)
      have t1:=H.e 1 (by decide) (q ⟨1,.data⟩ (by simp) rfl)
      simp only[acV] at t1
      obtain⟨d0,d1,d2,df⟩:=zo (HX.out.later z)
      obtain⟨m0,m2⟩:=RC.out W (HB.out.trans (z.mono HB.out.size))
      exact zce rfl rfl (zco (w':=W) (v:=acV (.slice I.a g.ps.length I.cap) (.slice A.a g.ms.length A.cap) (.slice (some ⟨J,h,none⟩) g.ls.length Z) M J h j X V g.ms.length v N 2) (by simp only[acV];go_simp) ⟨N,H.put (by decide) (by simp),z,fun k=>U (by simpa using k),fun k=>by simpa using L (by simpa using k)⟩)
     ·cases Y
      have o1:O.tmps[1]? =some (.pointer (some ⟨M,0,none⟩)):=H.oth 1 (by decide)
      have o3:O.tmps[3]? =some (.int .i64 (j:Int)):=H.oth 3 (by decide)
      exact zce rfl rfl (zco (w':=W) (v:=acV (.slice I.a g.ps.length I.cap) (.slice A.a g.ms.length A.cap) (.slice (some ⟨J,h,none⟩) g.ls.length Z) M J h j X V g.ms.length v N 3) (by simp only[acV];go_simp) ⟨N,H.put (by decide) (by simp),z,fun k=>U (by simpa using k),fun k=>by simpa using L (by simpa using k)⟩)
     ·cases Y
      have o1:O.tmps[1]? =some (.pointer (some ⟨M,0,none⟩)):=H.oth 1 (by decide)
      have o3:O.tmps[3]? =some (.int .i64 (j:Int)):=H.oth 3 (by decide)
      have t2:=H.e 2 (by decide) (q ⟨2,.data⟩ (by simp) rfl)
      have t3:=H.e 3 (by decide) (q ⟨3,.data⟩ (by simp) rfl)
      simp only[acV] at t2 t3
      exact zce rfl rfl (zco (w':=W) (v:=acV (.slice I.a g.ps.length I.cap) (.slice A.a g.ms.length A.cap) (.slice (some ⟨J,h,none⟩) g.ls.length Z) M J h j X V g.ms.length v N 4) (by simp only[acV];go_simp) ⟨N,H.put (by decide) (by simp),z,fun k=>U (by simpa using k),fun k=>by simpa using L (by simpa using k)⟩)
     ·cases Y
      have o1:O.tmps[1]? =some (.pointer (some ⟨M,0,none⟩)):=H.oth 1 (by decide)
      have o3:O.tmps[3]? =some (.int .i64 (j:Int)):=H.oth 3 (by decide)
      have t4:=H.e 4 (by decide) (q ⟨4,.data⟩ (by simp) rfl)
      simp only[acV] at t4
      exact zce rfl rfl (zco (w':=W) (v:=acV (.slice I.a g.ps.length I.cap) (.slice A.a g.ms.length A.cap) (.slice (some ⟨J,h,none⟩) g.ls.length Z) M J h j X V g.ms.length v N 5) (by simp only[acV];go_simp) ⟨N,H.put (by decide) (by simp),z,fun k=>U (by simpa using k),fun k=>by simpa using L (by simpa using k)⟩)
     ·cases Y
      have o1:O.tmps[1]? =some (.pointer (some ⟨M,0,none⟩)):=H.oth 1 (by decide)
      have o3:O.tmps[3]? =some (.int .i64 (j:Int)):=H.oth 3 (by decide)
      have t5:=H.e 5 (by decide) (q ⟨5,.data⟩ (by simp) rfl)
      simp only[acV] at t5
      obtain⟨d0,d1,d2,df⟩:=zo (HX.out.later z)
      obtain⟨m0,m2⟩:=RC.out W (HB.out.trans (z.mono HB.out.size))
      exact zce rfl rfl (zco (w':=W) (v:=acV (.slice I.a g.ps.length I.cap) (.slice A.a g.ms.length A.cap) (.slice (some ⟨J,h,none⟩) g.ls.length Z) M J h j X V g.ms.length v N 6) (by simp only[acV];go_simp) ⟨N,H.put (by decide) (by simp),z,fun k=>U (by simpa using k),fun k=>by simpa using L (by simpa using k)⟩)
     ·cases Y
      have t0:=H.e 0 (by decide) (q ⟨0,.data⟩ (by simp) rfl)
      have t6:=H.e 6 (by decide) (q ⟨6,.data⟩ (by simp) rfl)
      simp only[acV] at t0 t6
      refine zce rfl rfl (zwN (f:=41) (args:=#[grD ⟨I,A,sv,⟨some ⟨J,h,none⟩,Z⟩⟩ g,.int .i64 (V:Int)]) (by unfold grD;go_simp) ((zwI base ⟨I,A,sv,⟨some ⟨J,h,none⟩,Z⟩⟩ g V ak W (HO.out.later (HB.out.trans (z.mono HB.out.size))) aj ap ax LK.out).mono ?_))
      rintro e W' ⟨g2,rfl,hr,ao⟩
      have v0:=hr.cell (zmL (a:=V) au)
      rw[←HV.out] at v0
      exact⟨_,rfl,g2,(H.anew fun i _ ad=>zwO (fun e=>by subst e;rw[hd] at ad;cases ad) (fun e=>by subst e;exact absurd (L ad) (by rw[hd];decide))).put (i:=7) (by decide) (by simp),z.trans (ao.mono z.size),fun _=>v0,fun k=>absurd (L (by simpa using k)) (by rw[hd];decide)⟩
     ·cases Y
      have o1:O.tmps[1]? =some (.pointer (some ⟨M,0,none⟩)):=H.oth 1 (by decide)
      have o3:O.tmps[3]? =some (.int .i64 (j:Int)):=H.oth 3 (by decide)
      exact zce rfl rfl (zco (w':=W) (v:=acV (.slice I.a g.ps.length I.cap) (.slice A.a g.ms.length A.cap) (.slice (some ⟨J,h,none⟩) g.ls.length Z) M J h j X V g.ms.length v N 8) (by simp only[acV];go_simp) ⟨N,H.put (by decide) (by simp),z,fun k=>U (by simpa using k),fun k=>by simpa using L (by simpa using k)⟩)
     ·cases Y
      have o1:O.tmps[1]? =some (.pointer (some ⟨M,0,none⟩)):=H.oth 1 (by decide)
      have o3:O.tmps[3]? =some (.int .i64 (j:Int)):=H.oth 3 (by decide)
      have t8:=H.e 8 (by decide) (q ⟨8,.data⟩ (by simp) rfl)
      simp only[acV] at t8
      obtain⟨d0,d1,d2,df⟩:=zo (HX.out.later z)
      obtain⟨m0,m2⟩:=RC.out W (HB.out.trans (z.mono HB.out.size))
      exact zce rfl rfl (zco (w':=W) (v:=acV (.slice I.a g.ps.length I.cap) (.slice A.a g.ms.length A.cap) (.slice (some ⟨J,h,none⟩) g.ls.length Z) M J h j X V g.ms.length v N 9) (by simp only[acV];go_simp) ⟨N,H.put (by decide) (by simp),z,fun k=>U (by simpa using k),fun k=>by simpa using L (by simpa using k)⟩)
     ·cases Y
      have o1:O.tmps[1]? =some (.pointer (some ⟨M,0,none⟩)):=H.oth 1 (by decide)
      have o3:O.tmps[3]? =some (.int .i64 (j:Int)):=H.oth 3 (by decide)
      exact zce rfl rfl (zco (w':=W) (v:=acV (.slice I.a g.ps.length I.cap) (.slice A.a g.ms.length A.cap) (.slice (some ⟨J,h,none⟩) g.ls.length Z) M J h j X V g.ms.length v N 10) (by simp only[acV];go_simp) ⟨N,H.put (by decide) (by simp),z,fun k=>U (by simpa using k),fun k=>by simpa using L (by simpa using k)⟩)
     ·cases Y
      have o1:O.tmps[1]? =some (.pointer (some ⟨M,0,none⟩)):=H.oth 1 (by decide)
      have o3:O.tmps[3]? =some (.int .i64 (j:Int)):=H.oth 3 (by decide)
      have t9:=H.e 9 (by decide) (q ⟨9,.data⟩ (by simp) rfl)
      have an:=H.e 10 (by decide) (q ⟨10,.data⟩ (by simp) rfl)
      simp only[acV] at t9 an
      exact zce rfl rfl (zco (w':=W) (v:=acV (.slice I.a g.ps.length I.cap) (.slice A.a g.ms.length A.cap) (.slice (some ⟨J,h,none⟩) g.ls.length Z) M J h j X V g.ms.length v N 11) (by simp only[acV];go_simp) ⟨N,H.put (by decide) (by simp),z,fun k=>U (by simpa using k),fun k=>by simpa using L (by simpa using k)⟩)
     ·cases Y
      have o1:O.tmps[1]? =some (.pointer (some ⟨M,0,none⟩)):=H.oth 1 (by decide)
      have o3:O.tmps[3]? =some (.int .i64 (j:Int)):=H.oth 3 (by decide)
      have am:=H.e 11 (by decide) (q ⟨11,.data⟩ (by simp) rfl)
      simp only[acV] at am
      exact zce rfl rfl (zco (w':=W) (v:=acV (.slice I.a g.ps.length I.cap) (.slice A.a g.ms.length A.cap) (.slice (some ⟨J,h,none⟩) g.ls.length Z) M J h j X V g.ms.length v N 12) (by simp only[acV];go_simp) ⟨N,H.put (by decide) (by simp),z,fun k=>U (by simpa using k),fun k=>by simpa using L (by simpa using k)⟩)
     ·cases Y
      have o1:O.tmps[1]? =some (.pointer (some ⟨M,0,none⟩)):=H.oth 1 (by decide)
      have o3:O.tmps[3]? =some (.int .i64 (j:Int)):=H.oth 3 (by decide)
      have aq:=H.e 12 (by decide) (q ⟨12,.data⟩ (by simp) rfl)
      simp only[acV] at aq
      obtain⟨d0,d1,d2,df⟩:=zo (HX.out.later z)
      obtain⟨m0,m2⟩:=RC.out W (HB.out.trans (z.mono HB.out.size))
      exact zce rfl rfl (zco (w':=W) (v:=acV (.slice I.a g.ps.length I.cap) (.slice A.a g.ms.length A.cap) (.slice (some ⟨J,h,none⟩) g.ls.length Z) M J h j X V g.ms.length v N 13) (by simp only[acV];go_simp) ⟨N,H.put (by decide) (by simp),z,fun k=>U (by simpa using k),fun k=>by simpa using L (by simpa using k)⟩)
     ·cases Y
      have o1:O.tmps[1]? =some (.pointer (some ⟨M,0,none⟩)):=H.oth 1 (by decide)
      have o3:O.tmps[3]? =some (.int .i64 (j:Int)):=H.oth 3 (by decide)
      have t7:=H.e 7 (by decide) (q ⟨7,.data⟩ (by simp) rfl)
      have al:=H.e 13 (by decide) (q ⟨13,.data⟩ (by simp) rfl)
      simp only[acV] at t7 al
      exact zce rfl rfl (zco (w':=W) (v:=acV (.slice I.a g.ps.length I.cap) (.slice A.a g.ms.length A.cap) (.slice (some ⟨J,h,none⟩) g.ls.length Z) M J h j X V g.ms.length v N 14) (by simp only[acV];go_simp) ⟨N,H.put (by decide) (by simp),z,fun k=>U (by simpa using k),fun _=>by simpa using q ⟨7,.data⟩ (by simp) rfl⟩)
     ·cases Y
      have o1:O.tmps[1]? =some (.pointer (some ⟨M,0,none⟩)):=H.oth 1 (by decide)
      have o3:O.tmps[3]? =some (.int .i64 (j:Int)):=H.oth 3 (by decide)
      have ay:=H.e 14 (by decide) (q ⟨14,.data⟩ (by simp) rfl)
      simp only[acV] at ay
      have m7:=U (L (q ⟨14,.data⟩ (by simp) rfl))
      exact zce rfl rfl (zco (w':=W) (v:=acV (.slice I.a g.ps.length I.cap) (.slice A.a g.ms.length A.cap) (.slice (some ⟨J,h,none⟩) g.ls.length Z) M J h j X V g.ms.length v N 15) (by simp only[acV];go_simp) ⟨N,H.put (by decide) (by simp),z,fun k=>U (by simpa using k),fun k=>by simpa using L (by simpa using k)⟩)
    ·rintro D O W ⟨N,H,z,U,_⟩ ab
     rw[H.all (fun i Y=>ab i Y) (by simp)]
     simp only[List.range,List.range.loop,List.foldl_cons,List.foldl_nil,acV,Nat.reduceAdd]
     rename_i K hK _hx
     refine hK _ _ ?_
     clear hK H
     simp only[Act.put,List.setIfInBounds_toArray,List.set_cons_succ,List.set_cons_zero]
     have X2:=zc (HX.out.later z)
     have B2:=zc (HB.out.trans (z.mono HB.out.size))
     clear z U ab HX HB c0 c1 c2 cf
     cases v with
     |true=>
      go_wp2
      go_ret
      exact⟨⟨false,rfl,⟨fun k=>(by cases k),fun k=>absurd k (aw.out HV.out.symm)⟩⟩,B2.out⟩
     |false=>
      go_wp2
      go_roundw
      case rel=>exact⟨j+1,by omega,by go_num,zc (av.out (by rw[HC.out];exact HV.out.symm)),X2,B2⟩
      case measure=>simp[intOf];omega
   ·have ai: ¬(j:Int)<(g.ls.length:Int):=by omega
    go_wp2
    go_ret
    exact⟨⟨true,rfl,⟨fun _=>⟨aa.out,fun l hl=>by
     obtain⟨i,Y⟩:=List.mem_iff_getElem?.1 hl
     exact HA.out i l (by have:=(List.getElem?_eq_some_iff.1 Y).1;omega) Y⟩,fun _=>rfl⟩⟩,HB.out⟩
structure Enc (α:Type) where
 f:α→List Value
 m:Nat
 len: ∀x,(f x).length=m
 pos:0<m
 one: ∀x,∀v∈f x,v.oneCell'=true
def OwnE {α:Type} (E:Enc α) (w:World) (base:Nat) (e:TypeId) (g n cap:Nat) (l:List α):Prop:=w.ownsRow base e E.m (.slice (some ⟨g,0,none⟩) n cap) n (l.flatMap E.f)∧n=l.length
theorem zni {α:Type} (E:Enc α) (l:List α):(l.flatMap E.f).length=l.length*E.m:=by
 induction l with
 |nil=>simp
 |cons x l h=>rw[List.flatMap_cons,List.length_append,h,E.len,List.length_cons,Nat.succ_mul];omega
theorem zwQ {α:Type} (E:Enc α) (l:List α) {j i:Nat} {x:α} {v:Value} (h:l[j]? =some x) (q:(E.f x)[i]? =some v):(l.flatMap E.f)[j*E.m+i]? =some v:=zbm E.len l j x i v h q
theorem OwnE.blk {α:Type} {E:Enc α} {w:World} {base g n z:Nat} {e:TypeId} {l:List α} (h:OwnE E w base e g n z l):base≤g∧g<w.heap.size:=by
 rcases h.1.2 with ⟨q,_⟩|⟨K,A,H,q,I,J,_⟩
 ·simp at q
 ·simp only[Value.slice.injEq,Option.some.injEq,Addr.mk.injEq,and_true,true_and] at q
  obtain⟨rfl,rfl⟩:=q
  exact⟨I,(Array.getElem?_eq_some_iff.1 J).1⟩
theorem OwnE.cap {α:Type} {E:Enc α} {w:World} {base g n q:Nat} {e:TypeId} {l:List α} (h:OwnE E w base e g n q l):n≤q:=by
 rcases h.1.2 with ⟨z,_⟩|⟨J,A,H,z,_,_,I,_⟩
 ·simp at z
 ·simp only[Value.slice.injEq,Option.some.injEq,Addr.mk.injEq,and_true,true_and] at z
  obtain⟨_,rfl⟩:=z
  exact I
theorem OwnE.keep {α:Type} {E:Enc α} {w W:World} {base g n q:Nat} {e:TypeId} {l:List α} (h:OwnE E w base e g n q l) (J:W.heap[g]? =w.heap[g]?):OwnE E W base e g n q l:=by
 refine⟨⟨h.1.1,?_⟩,h.2⟩
 rcases h.1.2 with ⟨z,_⟩|⟨M,I,A,z,H,L,K⟩
 ·simp at z
 ·simp only[Value.slice.injEq,Option.some.injEq,Addr.mk.injEq,and_true,true_and] at z
  obtain⟨rfl,rfl⟩:=z
  exact .inr ⟨g,q,A,rfl,H,J.trans L,K⟩
theorem OwnE.later {α:Type} {E:Enc α} {w W:World} {base g n q:Nat} {e:TypeId} {l:List α} (h:OwnE E w base e g n q l) (z:Below w.heap.size w W):OwnE E W base e g n q l:=h.keep (z.block g h.blk.2)
theorem OwnE.low {α:Type} {E:Enc α} {w:World} {base b g n q:Nat} {e:TypeId} {l:List α} (h:OwnE E w base e g n q l) (K:b≤base):OwnE E w b e g n q l:=by
 refine⟨⟨h.1.1,?_⟩,h.2⟩
 rcases h.1.2 with ⟨H,_⟩|⟨M,z,A,H,I,L,J⟩
 ·simp at H
 ·exact .inr ⟨M,z,A,H,Nat.le_trans K I,L,J⟩
theorem OwnE.aside {α:Type} {E:Enc α} {w W:World} {base g n q:Nat} {e:TypeId} {l:List α} {x:Option Nat} (h:OwnE E w base e g n q l) (z:w.grownBy W x) (A:some g≠x):OwnE E W base e g n q l:=h.keep (z.block g h.blk.2 A)
theorem OwnE.nil {α:Type} (E:Enc α) (w:World) (e:TypeId):OwnE E (w.alloc (.cells #[] e)) w.heap.size e w.heap.size 0 0 []:=⟨World.ownsRow_lit w #[] 0 (Nat.le_refl _) (by unfold maxLen;omega) (by simp),rfl⟩
theorem OwnE.row {α:Type} {E:Enc α} {w:World} {base g n A:Nat} {e:TypeId} {l:List α} (h:OwnE E w base e g n A l):RowAt w (some ⟨g,0,none⟩) E.f E.m l:=by
 refine .inr ⟨g,0,rfl,h.blk.2,fun j x H i v I=>?_⟩
 have z:j<l.length:=(List.getElem?_eq_some_iff.1 H).1
 have K:i<E.m:=by have:=(List.getElem?_eq_some_iff.1 I).1;rw[E.len] at this;exact this
 have q:j*E.m+i<n*E.m:=by
  rw[h.2]
  have J:(j+1)*E.m≤l.length*E.m:=Nat.mul_le_mul_right _ z
  rw[Nat.succ_mul] at J
  omega
 rw[Nat.zero_add,h.1.cellAt _ q]
 exact zwQ E l H I
theorem zwR (b o j:Nat):(⟨b,o,none⟩:Addr).add j=⟨b,o+j,none⟩:=by simp[Addr.add]
theorem zwS {P:Program} {α:Type} (E:Enc α) (W:World) {L:Array Oper} {rest:List Oper} {o:Oper} {a:Act} {Q:Exit→Act→World→Prop} (M:o.guard=none) (s x:Operand) (t:TypeId)
  (ho:o.op= .call {callee:=.builtin .append,args:=#[s,x],argTypes:=#[t,t]})
  (base:Nat) (e:TypeId) (i:TypeInfo) (z:Value) (J:Nat) (ht:P.underlying t=some (.slice e)) (hi:P.info? e=some i) (hz:i.zero=some z) (H:i.size=E.m) (O:i.bytes=J) (X:z.cells.size=E.m) (N:J≤1024)
  (g n K:Nat) (l:List α) (hs:a.eval s= .slice (some ⟨g,0,none⟩) n K) (q:OwnE E W base e g n K l)
  (V:Nat) (b:α) (hx:a.eval x= .slice (some ⟨V,0,none⟩) 1 1) (hg:W.heap[V]? =some (.cells (E.f b).toArray e (0,0))) (hn:n+1≤100000000)
  (h: ∀A w w',OwnE E w' base e A (n+1) w (l++[b])→W.grownBy w' (some g)→(A=g∨A=W.heap.size)→wpList P L Q rest (a.put o.dst (.slice (some ⟨A,0,none⟩) (n+1) w)) w'):
  wpList P L Q (o::rest) a W:=by
 have I:base≤W.heap.size:=Nat.le_trans q.blk.1 (Nat.le_of_lt q.blk.2)
 refine wpList_append_own_at _ M s x t ho base e i z E.m J ht hi hz H O X E.pos _ n _ hs q.1 ⟨V,0,none⟩ 1 1 (E.f b) hx (by rw[E.len,Nat.one_mul]) ?_ (E.one b) ?_ ?_ I ?_
 ·intro j u hj
  rw[zwR,Nat.zero_add]
  simp[World.cell?,hg,hj]
 ·unfold maxLen;omega
 ·exact Nat.le_trans (Nat.mul_le_mul hn N) (by decide)
 ·intro v' w' Z k2 k3 k4
  rcases Z.2 with ⟨hv,ab⟩|⟨A,w,aa,rfl,Y⟩
  ·omega
  ·refine h A w w' ⟨by rw[List.flatMap_append];simpa using Z,by rw[List.length_append,←q.2];rfl⟩ k2 ?_
   have U:some A=some g∨some A=some W.heap.size:=k4
   rcases U with k|k
   ·exact .inl (Option.some.inj k)
   ·exact .inr (Option.some.inj k)
def OutE {α:Type} (E:Enc α) (e:TypeId) (w:World) (base:Nat) (a:Option Addr) (n cap:Nat) (l:List α):Prop:=n=l.length∧(0<n→∃g,a=some ⟨g,0,none⟩∧OwnE E w base e g n cap l)
theorem OutE.own {α:Type} {E:Enc α} {e:TypeId} {w:World} {base g n q:Nat} {l:List α} (h:OwnE E w base e g n q l):OutE E e w base (some ⟨g,0,none⟩) n q l:=⟨h.2,fun _=>⟨g,rfl,h⟩⟩
theorem OutE.nil {α:Type} (E:Enc α) (e:TypeId) (w:World) (base:Nat) (a:Option Addr) (q:Nat):OutE E e w base a 0 q []:=⟨rfl,fun h=>absurd h (Nat.lt_irrefl _)⟩
theorem OutE.later {α:Type} {E:Enc α} {e:TypeId} {w W:World} {base n q:Nat} {a:Option Addr} {l:List α} (h:OutE E e w base a n q l) (H:Below w.heap.size w W):OutE E e W base a n q l:=
 ⟨h.1,fun k=>by obtain⟨g,A,z⟩:=h.2 k;exact⟨g,A,z.later H⟩⟩
theorem OutE.aside {α:Type} {E:Enc α} {e:TypeId} {w W:World} {base n q x:Nat} {a:Option Addr} {l:List α} (h:OutE E e w base a n q l) (H:w.grownBy W (some x)) (I:x<base):OutE E e W base a n q l:=
 ⟨h.1,fun k=>by
  obtain⟨g,A,z⟩:=h.2 k
  exact⟨g,A,z.aside H (fun e=>by have:=Option.some.inj e;have:=z.blk.1;omega)⟩⟩
theorem OutE.row {α:Type} {E:Enc α} {e:TypeId} {w:World} {base n q:Nat} {a:Option Addr} {l:List α} (h:OutE E e w base a n q l):RowAt w a E.f E.m l:=by
 rcases Nat.eq_zero_or_pos n with z|z
 ·exact .inl (List.length_eq_zero_iff.1 (by rw[←h.1];exact z))
 ·obtain⟨g,rfl,A⟩:=h.2 z
  exact A.row
def OwnX (w:World) (base:Nat) (e:TypeId) (size g n cap:Nat) (mk:Nat→Value) (c:Nat):Prop:=∃xs,w.ownsRow base e size (.slice (some ⟨g,0,none⟩) n cap) n xs∧∀i,i<c→xs[i]? =some (mk i)
theorem OwnX.start {w:World} {base size g n q:Nat} {e:TypeId} {xs:List Value} (h:w.ownsRow base e size (.slice (some ⟨g,0,none⟩) n q) n xs) (z:Nat→Value):OwnX w base e size g n q z 0:=⟨xs,h,fun i A=>absurd A (Nat.not_lt_zero i)⟩
theorem OwnX.blk {w:World} {base size g n z c:Nat} {K:Nat→Value} {e:TypeId} (h:OwnX w base e size g n z K c):base≤g∧g<w.heap.size:=by
 obtain⟨M,I,_⟩:=h
 rcases I.2 with ⟨q,_⟩|⟨N,A,H,q,J,L,_⟩
 ·simp at q
 ·simp only[Value.slice.injEq,Option.some.injEq,Addr.mk.injEq,and_true,true_and] at q
  obtain⟨rfl,rfl⟩:=q
  exact⟨J,(Array.getElem?_eq_some_iff.1 L).1⟩
theorem OwnX.keep {w W:World} {base size g n q c:Nat} {K:Nat→Value} {e:TypeId} (h:OwnX w base e size g n q K c) (L:W.heap[g]? =w.heap[g]?):OwnX W base e size g n q K c:=by
 obtain⟨O,I,M⟩:=h
 refine⟨O,⟨I.1,?_⟩,M⟩
 rcases I.2 with ⟨z,_⟩|⟨V,J,A,z,H,U,N⟩
 ·simp at z
 ·simp only[Value.slice.injEq,Option.some.injEq,Addr.mk.injEq,and_true,true_and] at z
  obtain⟨rfl,rfl⟩:=z
  exact .inr ⟨g,q,A,rfl,H,L.trans U,N⟩
theorem OwnX.later {w W:World} {base size g n q c:Nat} {z:Nat→Value} {e:TypeId} (h:OwnX w base e size g n q z c) (A:Below w.heap.size w W):OwnX W base e size g n q z c:=h.keep (A.block g h.blk.2)
theorem OwnX.has {w:World} {base size g n q c:Nat} {H:Nat→Value} {e:TypeId} (h:OwnX w base e size g n q H c) (i:Nat) (A:i<n*size): ∃v,w.cell? ⟨g,i,none⟩=some v:=by
 obtain⟨I,z,_⟩:=h
 rw[z.cellAt i A]
 exact⟨_,List.getElem?_eq_getElem (by rw[z.1];exact A)⟩
theorem OwnX.cell {w:World} {base size g n q c:Nat} {z:Nat→Value} {e:TypeId} (h:OwnX w base e size g n q z c) (i:Nat) (J:i<n*size) (I:i<c):w.cell? ⟨g,i,none⟩=some (z i):=by
 obtain⟨K,H,A⟩:=h
 rw[H.cellAt i J]
 exact A i I
theorem OwnX.free {w:World} {base size g n q c:Nat} {A:Nat→Value} {e:TypeId} (h:OwnX w base e size g n q A c) (i:Nat):w.frozen? ⟨g,i,none⟩=false:=by
 obtain⟨H,z,_⟩:=h
 exact z.frozenAt i
theorem OwnX.put {w:World} {base size g n q c:Nat} {z:Nat→Value} {e:TypeId} (h:OwnX w base e size g n q z c) (K:c<n*size):OwnX (w.setCell ⟨g,c,none⟩ (z c)) base e size g n q z (c+1):=by
 obtain⟨I,A,H⟩:=h
 have J:=A.1
 refine⟨I.set c (z c),(A.stored c _).1,fun i L=>?_⟩
 by_cases e:i=c
 ·subst e
  exact List.getElem?_set_self (by omega)
 ·rw[List.getElem?_set_ne (by omega)]
  exact H i (by omega)
def ntE:Enc Nat:=⟨fun x=>[.int .i64 (x:Int)],1,fun _=>rfl,by decide,fun x v hv=>by simp at hv;rw[hv];rfl⟩
theorem OwnE.cut {α:Type} {E:Enc α} {w:World} {base g n A:Nat} {e:TypeId} {l:List α} (h:OwnE E w base e g n A l) {k:Nat} (M:k≤n):OwnE E w base e g k A (l.take k):=by
 have Y:=h.2
 refine⟨⟨?_,?_⟩,by rw[List.length_take];omega⟩
 ·rw[zni,List.length_take]
  congr 1
  omega
 ·rcases h.1.2 with ⟨H,_⟩|⟨g',L,q,H,U,V,O,J,K,z⟩
  ·simp at H
  ·simp only[Value.slice.injEq,Option.some.injEq,Addr.mk.injEq,and_true,true_and] at H
   obtain⟨rfl,rfl⟩:=H
   refine .inr ⟨g,A,q,rfl,U,V,by omega,J,K,?_⟩
   have I:k*E.m≤n*E.m:=Nat.mul_le_mul_right _ M
   have N:q.toList.take (k*E.m)=(q.toList.take (n*E.m)).take (k*E.m):=by rw[List.take_take,Nat.min_eq_left I]
   rw[N,z]
   have X:l.flatMap E.f=(l.take k).flatMap E.f++(l.drop k).flatMap E.f:=by rw[←List.flatMap_append,List.take_append_drop]
   have Z:((l.take k).flatMap E.f).length=k*E.m:=by rw[zni,List.length_take,←Y];congr 1;omega
   rw[X,List.take_append_of_le_length (by omega),List.take_of_length_le (by omega)]
theorem OwnE.cells {α:Type} {E:Enc α} {w:World} {base g n A:Nat} {e:TypeId} {l:List α} (h:OwnE E w base e g n A l): ∃q,w.heap[g]? =some (.cells q e (0,0)):=by
 rcases h.1.2 with ⟨z,_⟩|⟨K,H,q,z,J,I,_⟩
 ·simp at z
 ·simp only[Value.slice.injEq,Option.some.injEq,Addr.mk.injEq,and_true,true_and] at z
  obtain⟨rfl,rfl⟩:=z
  exact⟨q,I⟩
def zd0 (w:World) (g:Nat):Nat→Nat
 |0=>0
 |n+1=>zd0 w g n+match w.cell? ⟨g,n,none⟩ with|some (.bool true)=>1|_=>0
theorem ziZ {w:World} {base g n:Nat} {b:List Bool} (h:OwnBl w base g n b):zd0 w g n=zE b:=by
 have H: ∀k,k≤n→zd0 w g k=zE (b.take k):=by
  intro k
  induction k with
  |zero=>intro _;rfl
  |succ k I=>
   intro K
   have L:=h.len
   obtain⟨v,A⟩: ∃v,b[k]? =some v:=⟨_,List.getElem?_eq_getElem (by omega)⟩
   have J:=h.cell A
   rw[zd0,I (by omega),J]
   obtain⟨z,q⟩:=List.getElem?_eq_some_iff.1 A
   rw[List.take_succ_eq_append_getElem z,q,zE,zE,List.count_append]
   cases v<;>rfl
 have:=H n (Nat.le_refl _)
 rw[List.take_of_length_le (by rw[h.len];exact Nat.le_refl _)] at this
 exact this
structure WkW (w W:World) (G:GS) (g:Gr) (gx gb gs cap:Nat) (n:Nat) (b:List Bool) (st:List Nat):Prop where
 r:RchW w W G g gx gb n b
 s:OwnE ntE W w.heap.size 3 gs st.length cap st
theorem WkW.later {w W J:World} {G:GS} {g:Gr} {I H A q n:Nat} {b:List Bool} {K:List Nat} (h:WkW w W G g I H A q n b K) (z:Below W.heap.size W J):WkW w J G g I H A q n b K:=
 ⟨⟨h.r.x.later z,h.r.r.later z,h.r.ne,h.r.b.trans (z.mono h.r.b.size)⟩,h.s.later z⟩
theorem WkW.ne {w W:World} {G:GS} {g:Gr} {I K A H n:Nat} {b:List Bool} {N:List Nat} (h:WkW w W G g I K A H n b N):A≠K∧A≠I:=by
 obtain⟨L,q⟩:=h.s.cells
 obtain⟨J,z⟩:=h.r.r.block
 constructor
 ·intro e
  rw[e,z] at q
  exact absurd (Option.some.inj q) (by simp)
 ·intro e
  have M:W.heap[I]? =_:=h.r.x
  rw[e,M] at q
  exact absurd (Option.some.inj q) (by simp)
theorem WkW.set {w W:World} {G:GS} {g:Gr} {H z A q n:Nat} {b:List Bool} {I:List Nat} (h:WkW w W G g H z A q n b I) (j:Nat):WkW w (W.setCell ⟨z,j,none⟩ (.bool true)) G g H z A q n (b.set j true) I:=
 ⟨h.r.set j,h.s.keep (heap_setCell_other W ⟨z,j,none⟩ A _ h.ne.1)⟩
theorem WkW.grow {w W K:World} {G:GS} {g:Gr} {A H L z I q n:Nat} {b:List Bool} {U st':List Nat} (h:WkW w W G g A H L I n b U) (J:W.grownBy K (some L)) (O:OwnE ntE K w.heap.size 3 z st'.length q st'):WkW w K G g A H z q n b st':=by
 have M:W.heap[A]? =_:=h.r.x
 refine⟨⟨(J.block A (Array.getElem?_eq_some_iff.1 M).1 fun e=>h.ne.2 (Option.some.inj e).symm).trans M,?_,h.r.ne,h.r.b.grown J h.r.b.size fun j e=>by cases e;exact h.s.blk.1⟩,O⟩
 exact OwnR.keep h.r.r fun k N=>by
  have e:k=H:=by simpa [Rw.blk,Value.ownBlock] using N.symm
  rw[e]
  exact J.block H h.r.r.at.2 fun e=>h.ne.1 (Option.some.inj e).symm
end Go.Proofs.YtgcbmogmniahjaaGreat
