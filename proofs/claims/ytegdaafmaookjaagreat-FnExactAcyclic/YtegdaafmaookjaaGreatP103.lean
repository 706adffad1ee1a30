/- Facts. -/
import Derived.Test.YtegdaafmaookjaaGreatP87
import Derived.Test.YtegdaafmaookjaaGreatP102
namespace Go.Proofs.YtegdaafmaookjaaGreat
open Go.Proofs.Tryz
set_option maxRecDepth 100000
set_option maxHeartbeats 6400000
open Go.RowKit Go.PlainAid Go.Sort
def acV (p m l:Value) (gx bl off j fr tt n:Nat) (v:Bool) (gb:Nat):Nat->Value
 |0=>.agg #[p,m,l]
 |1=>.pointer (some ⟨gx,2,none⟩)
 |2=>l
 |3=>.int .i64 (j:Int)
 |4=>.pointer (some ⟨bl,off+j*3,none⟩)
 |5=>.pointer (some ⟨bl,off+j*3+2,none⟩)
 |6=>.int .i64 (tt:Int)
 |7=>.slice (some ⟨gb,0,none⟩) n n
 |8=>.pointer (some ⟨gx,2,none⟩)
 |9=>l
 |10=>.int .i64 (j:Int)
 |11=>.pointer (some ⟨bl,off+j*3,none⟩)
 |12=>.pointer (some ⟨bl,off+j*3,none⟩)
 |13=>.int .i64 (fr:Int)
 |14=>.pointer (some ⟨gb,fr,none⟩)
 |_=>.bool v
theorem zzq {p m l:Value} {A H q j I w n K J i:Nat} {v:Bool} (h:i≠7) (k:i≠14):acV p m l A H q j I w n v J i=acV p m l A H q j I w n v K i:=by
 unfold acV
 split<;>first|rfl|exact absurd rfl h|exact absurd rfl k
theorem zzr (cG:GrC 11) (base:Nat) (G:GS) (g:Gr) (w:World) (ho:GrOwn w base G g) (hg:GdG g):
  Calls prog 15 #[grD G g] w fun e w'=>SameOut (zie g) e/\Bw w w':=by
 have HO:=zc ho;have HG:=zc hg;have CG:=zc cG;have ax:=hg.ll;clear ho hg cG;obtain⟨J,I,sv,⟨la,lc⟩⟩:=G;unfold grD;go_enter func15,ntmps15;go_upto_region 1 with fail;obtain⟨N,ae⟩: ∃N,N=w.heap.size:=⟨_,rfl⟩;rw[<-ae];refine zp (R:=fun W=>Bk W N #[.slice J.a g.ps.length J.cap,.slice I.a g.ms.length I.cap,.slice la g.ls.length lc] 32/\Below w.heap.size w W) (by rw[ae];exact⟨hN0 w _,zn w _⟩) ?_;rintro W0 ⟨hx,A⟩;clear ae;have X0:=zc hx;have B0:=zc A;clear hx A;obtain⟨c0,c1,c2,cf⟩:=zg X0.o;go_wp2_with fail;refine (CG.o base ⟨J,I,sv,⟨la,lc⟩⟩ g W0 (HO.o.later B0.o) HG.o).mono ?_;rintro e w1 ⟨⟨b,rfl,ag⟩,A⟩;have X1:=zc (X0.o.later A);have B1:=zc (zi B0.o A);have OK:=zc ag;clear ag A c0 c1 c2 cf X0 B0;cases b with
 |false=>
  go_wp2;go_ret;exact⟨⟨false,rfl,⟨fun k=>(by cases k),fun k=>absurd (OK.o.2 k.1) (by decide)⟩⟩,B1.o⟩
 |true=>
  have aa:Hid (GrS g):=OK.o.1 (by simp);have LK:=zc aa.o.links;have aj:1<=g.ms.length:=aa.o.1.1;have ap:g.ms.length<=8:=aa.o.1.2;have HR:=zc (RowAt.of (f:=lkL) (m:=3) (fun _=>rfl) HO.o.ls);clear OK;go_wp2;go_loopw [3] (fun i wr=>∃j:Nat,j<=g.ls.length/\i= .int .i64 j/\Hid (∀k x,k<j->g.ls[k]? =some x->zx g x.to.toNat x.frm.toNat=false)/\Hid (Bk wr N #[.slice J.a g.ps.length J.cap,.slice I.a g.ms.length I.cap,.slice la g.ls.length lc] 32)/\Hid (Bw w wr)) (fun i _=>(g.ls.length-intOf i).toNat)
  case atStart=>exact⟨0,Nat.zero_le _,rfl,zc (fun k x hk=>absurd hk (Nat.not_lt_zero k)),X1,B1⟩
  case round=>
   obtain⟨j,hj,rfl,HA,HX,HB⟩:=hrel;clear X1 B1;obtain⟨c0,c1,c2,cf⟩:=zg HX.o;by_cases ah:j<g.ls.length
   ·have ai:(j:Int)<(g.ls.length:Int):=by omega
    obtain⟨l,hl⟩: ∃l,g.ls[j]? =some l:=⟨_,gE ah⟩;obtain⟨y0,y1,y2,y3⟩:=LK.o l (mG hl);obtain⟨L,h,ar,_⟩:=(HR.o.later HB.o).get hl;subst ar
    have RC:Hid (∀W,Bw w W->W.cell? ⟨L,h+j*3,none⟩=some (.int .i64 l.frm)/\W.cell? ⟨L,h+j*3+2,none⟩=some (.int .i64 l.to)):=zc (fun W hW=>by
     obtain⟨b',o',e',V⟩:=(HR.o.later hW).get hl;cases e'
     exact⟨V 0 _ rfl,V 2 _ rfl⟩)
    obtain⟨Y,af⟩: ∃Y:Nat,l.frm=Y:=⟨l.frm.toNat,by omega⟩;obtain⟨X,ac⟩: ∃X:Nat,l.to=X:=⟨l.to.toNat,by omega⟩;have au:Y<g.ms.length:=by omega
    have ak:X<g.ms.length:=by omega
    have az:(Y:Int)<(g.ms.length:Int):=by omega
    have HC:Hid (zx g l.to.toNat l.frm.toNat=zx g X Y):=by rw[af,ac,Int.toNat_natCast,Int.toNat_natCast];exact zc rfl
    have av:=zc (fun V=>zow (i:=j) HA.o hl V)
    have aw:Hid (zx g X Y=true->¬zie g):=zc (fun V k=>by
     have:=k.2 l (mG hl);rw[HC.o,V] at this
     cases this)
    rw[af,ac] at RC;clear y0 y1 y2 y3 af ac hl;obtain⟨v,hv⟩: ∃v,v=zx g X Y:=⟨_,rfl⟩;have HV:=zc hv;clear hv;go_upto_region 6 with fail;refine zzm (by kernel_rfl) (fun D U W=>∃O,SlI _ 14 16 (acV (.slice J.a g.ps.length J.cap) (.slice I.a g.ms.length I.cap) (.slice (some ⟨L,h,none⟩) g.ls.length lc) N L h j Y X g.ms.length v O) D U/\Bw wr W/\(D 7=true->W.cell? ⟨O,Y,none⟩=some (.bool v))/\(D 14=true->D 7=true)) (zzo (by kernel_rfl)) ⟨0,SlI.start _ _ _ _,(Below.refl _ _).drew,(fun k=>by cases k),(fun k=>by cases k)⟩ ?_ ?_
    ·rintro D U W i o ⟨O,H,A,V,M⟩ Z hd q;have ah:i<16:=(aLt Z);obtain rfl|rfl|rfl|rfl|rfl|rfl|rfl|rfl|rfl|rfl|rfl|rfl|rfl|rfl|rfl|rfl:i=0∨i=1∨i=2∨i=3∨i=4∨i=5∨i=6∨i=7∨i=8∨i=9∨i=10∨i=11∨i=12∨i=13∨i=14∨i=15:=by omega
     ·cases Z;have o1:U.tmps[1]? =some (.pointer (some ⟨N,0,none⟩)):=H.oth 1 (by decide);have o3:U.tmps[3]? =some (.int .i64 (j:Int)):=H.oth 3 (by decide);obtain⟨d0,d1,d2,df⟩:=zg (HX.o.later A);obtain⟨m0,m2⟩:=RC.o W (HB.o.trans (A.mono HB.o.size));exact zcr rfl rfl (zc1 (w':=W) (v:=acV (.slice J.a g.ps.length J.cap) (.slice I.a g.ms.length I.cap) (.slice (some ⟨L,h,none⟩) g.ls.length lc) N L h j Y X g.ms.length v O 0) (by simp only[acV];go_simp) ⟨O,H.put (by decide) (by simp),A,fun k=>V (by simpa using k),fun k=>by simpa using M (by simpa using k)⟩)
     ·cases Z;have o1:U.tmps[1]? =some (.pointer (some ⟨N,0,none⟩)):=H.oth 1 (by decide);have o3:U.tmps[3]? =some (.int .i64 (j:Int)):=H.oth 3 (by decide);exact zcr rfl rfl (zc1 (w':=W) (v:=acV (.slice J.a g.ps.length J.cap) (.slice I.a g.ms.length I.cap) (.slice (some ⟨L,h,none⟩) g.ls.length lc) N L h j Y X g.ms.length v O 1) (by simp only[acV];go_simp) ⟨O,H.put (by decide) (by simp),A,fun k=>V (by simpa using k),fun k=>by simpa using M (by simpa using k)⟩)
     ·cases Z;have o1:U.tmps[1]? =some (.pointer (some ⟨N,0,none⟩)):=H.oth 1 (by decide);have o3:U.tmps[3]? =some (.int .i64 (j:Int)):=H.oth 3 (by decide);have t1:=H.e 1 (by decide) (q ⟨1,.data⟩ (by simp) rfl);simp only[acV] at t1;obtain⟨d0,d1,d2,df⟩:=zg (HX.o.later A);obtain⟨m0,m2⟩:=RC.o W (HB.o.trans (A.mono HB.o.size));exact zcr rfl rfl (zc1 (w':=W) (v:=acV (.slice J.a g.ps.length J.cap) (.slice I.a g.ms.length I.cap) (.slice (some ⟨L,h,none⟩) g.ls.length lc) N L h j Y X g.ms.length v O 2) (by simp only[acV];go_simp) ⟨O,H.put (by decide) (by simp),A,fun k=>V (by simpa using k),fun k=>by simpa using M (by simpa using k)⟩)
     ·cases Z;have o1:U.tmps[1]? =some (.pointer (some ⟨N,0,none⟩)):=H.oth 1 (by decide);have o3:U.tmps[3]? =some (.int .i64 (j:Int)):=H.oth 3 (by decide);exact zcr rfl rfl (zc1 (w':=W) (v:=acV (.slice J.a g.ps.length J.cap) (.slice I.a g.ms.length I.cap) (.slice (some ⟨L,h,none⟩) g.ls.length lc) N L h j Y X g.ms.length v O 3) (by simp only[acV];go_simp) ⟨O,H.put (by decide) (by simp),A,fun k=>V (by simpa using k),fun k=>by simpa using M (by simpa using k)⟩)
     ·cases Z;have o1:U.tmps[1]? =some (.pointer (some ⟨N,0,none⟩)):=H.oth 1 (by decide);have o3:U.tmps[3]? =some (.int .i64 (j:Int)):=H.oth 3 (by decide);have t2:=H.e 2 (by decide) (q ⟨2,.data⟩ (by simp) rfl);have t3:=H.e 3 (by decide) (q ⟨3,.data⟩ (by simp) rfl);simp only[acV] at t2 t3;exact zcr rfl rfl (zc1 (w':=W) (v:=acV (.slice J.a g.ps.length J.cap) (.slice I.a g.ms.length I.cap) (.slice (some ⟨L,h,none⟩) g.ls.length lc) N L h j Y X g.ms.length v O 4) (by simp only[acV];go_simp) ⟨O,H.put (by decide) (by simp),A,fun k=>V (by simpa using k),fun k=>by simpa using M (by simpa using k)⟩)
     ·cases Z;have o1:U.tmps[1]? =some (.pointer (some ⟨N,0,none⟩)):=H.oth 1 (by decide);have o3:U.tmps[3]? =some (.int .i64 (j:Int)):=H.oth 3 (by decide);have t4:=H.e 4 (by decide) (q ⟨4,.data⟩ (by simp) rfl);simp only[acV] at t4;exact zcr rfl rfl (zc1 (w':=W) (v:=acV (.slice J.a g.ps.length J.cap) (.slice I.a g.ms.length I.cap) (.slice (some ⟨L,h,none⟩) g.ls.length lc) N L h j Y X g.ms.length v O 5) (by simp only[acV];go_simp) ⟨O,H.put (by decide) (by simp),A,fun k=>V (by simpa using k),fun k=>by simpa using M (by simpa using k)⟩)
     ·cases Z;have o1:U.tmps[1]? =some (.pointer (some ⟨N,0,none⟩)):=H.oth 1 (by decide);have o3:U.tmps[3]? =some (.int .i64 (j:Int)):=H.oth 3 (by decide);have t5:=H.e 5 (by decide) (q ⟨5,.data⟩ (by simp) rfl);simp only[acV] at t5;obtain⟨d0,d1,d2,df⟩:=zg (HX.o.later A);obtain⟨m0,m2⟩:=RC.o W (HB.o.trans (A.mono HB.o.size));exact zcr rfl rfl (zc1 (w':=W) (v:=acV (.slice J.a g.ps.length J.cap) (.slice I.a g.ms.length I.cap) (.slice (some ⟨L,h,none⟩) g.ls.length lc) N L h j Y X g.ms.length v O 6) (by simp only[acV];go_simp) ⟨O,H.put (by decide) (by simp),A,fun k=>V (by simpa using k),fun k=>by simpa using M (by simpa using k)⟩)
     ·cases Z;have t0:=H.e 0 (by decide) (q ⟨0,.data⟩ (by simp) rfl);have t6:=H.e 6 (by decide) (q ⟨6,.data⟩ (by simp) rfl);simp only[acV] at t0 t6;refine zcr rfl rfl (zzp (f:=53) (args:=#[grD ⟨J,I,sv,⟨some ⟨L,h,none⟩,lc⟩⟩ g,.int .i64 (X:Int)]) (by unfold grD;go_simp) ((zfO base ⟨J,I,sv,⟨some ⟨L,h,none⟩,lc⟩⟩ g X ak W (HO.o.later (HB.o.trans (A.mono HB.o.size))) aj ap ax LK.o).mono ?_));rintro e W' ⟨g2,rfl,hr,ao⟩;have v0:=hr.cell (zdO (a:=X) au);rw[<-HV.o] at v0;exact⟨_,rfl,g2,(H.anew fun i _ ad=>zzq (fun e=>by subst e;rw[hd] at ad;cases ad) (fun e=>by subst e;exact absurd (M ad) (by rw[hd];decide))).put (i:=7) (by decide) (by simp),A.trans (ao.mono A.size),fun _=>v0,fun k=>absurd (M (by simpa using k)) (by rw[hd];decide)⟩
     ·cases Z;have o1:U.tmps[1]? =some (.pointer (some ⟨N,0,none⟩)):=H.oth 1 (by decide);have o3:U.tmps[3]? =some (.int .i64 (j:Int)):=H.oth 3 (by decide);exact zcr rfl rfl (zc1 (w':=W) (v:=acV (.slice J.a g.ps.length J.cap) (.slice I.a g.ms.length I.cap) (.slice (some ⟨L,h,none⟩) g.ls.length lc) N L h j Y X g.ms.length v O 8) (by simp only[acV];go_simp) ⟨O,H.put (by decide) (by simp),A,fun k=>V (by simpa using k),fun k=>by simpa using M (by simpa using k)⟩)
     ·cases Z;have o1:U.tmps[1]? =some (.pointer (some ⟨N,0,none⟩)):=H.oth 1 (by decide);have o3:U.tmps[3]? =some (.int .i64 (j:Int)):=H.oth 3 (by decide);have t8:=H.e 8 (by decide) (q ⟨8,.data⟩ (by simp) rfl);simp only[acV] at t8;obtain⟨d0,d1,d2,df⟩:=zg (HX.o.later A);obtain⟨m0,m2⟩:=RC.o W (HB.o.trans (A.mono HB.o.size));exact zcr rfl rfl (zc1 (w':=W) (v:=acV (.slice J.a g.ps.length J.cap) (.slice I.a g.ms.length I.cap) (.slice (some ⟨L,h,none⟩) g.ls.length lc) N L h j Y X g.ms.length v O 9) (by simp only[acV];go_simp) ⟨O,H.put (by decide) (by simp),A,fun k=>V (by simpa using k),fun k=>by simpa using M (by simpa using k)⟩)
     ·cases Z;have o1:U.tmps[1]? =some (.pointer (some ⟨N,0,none⟩)):=H.oth 1 (by decide);have o3:U.tmps[3]? =some (.int .i64 (j:Int)):=H.oth 3 (by decide);exact zcr rfl rfl (zc1 (w':=W) (v:=acV (.slice J.a g.ps.length J.cap) (.slice I.a g.ms.length I.cap) (.slice (some ⟨L,h,none⟩) g.ls.length lc) N L h j Y X g.ms.length v O 10) (by simp only[acV];go_simp) ⟨O,H.put (by decide) (by simp),A,fun k=>V (by simpa using k),fun k=>by simpa using M (by simpa using k)⟩)
     ·cases Z;have o1:U.tmps[1]? =some (.pointer (some ⟨N,0,none⟩)):=H.oth 1 (by decide);have o3:U.tmps[3]? =some (.int .i64 (j:Int)):=H.oth 3 (by decide);have t9:=H.e 9 (by decide) (q ⟨9,.data⟩ (by simp) rfl);have an:=H.e 10 (by decide) (q ⟨10,.data⟩ (by simp) rfl);simp only[acV] at t9 an;exact zcr rfl rfl (zc1 (w':=W) (v:=acV (.slice J.a g.ps.length J.cap) (.slice I.a g.ms.length I.cap) (.slice (some ⟨L,h,none⟩) g.ls.length lc) N L h j Y X g.ms.length v O 11) (by simp only[acV];go_simp) ⟨O,H.put (by decide) (by simp),A,fun k=>V (by simpa using k),fun k=>by simpa using M (by simpa using k)⟩)
     ·cases Z;have o1:U.tmps[1]? =some (.pointer (some ⟨N,0,none⟩)):=H.oth 1 (by decide);have o3:U.tmps[3]? =some (.int .i64 (j:Int)):=H.oth 3 (by decide);have am:=H.e 11 (by decide) (q ⟨11,.data⟩ (by simp) rfl);simp only[acV] at am;exact zcr rfl rfl (zc1 (w':=W) (v:=acV (.slice J.a g.ps.length J.cap) (.slice I.a g.ms.length I.cap) (.slice (some ⟨L,h,none⟩) g.ls.length lc) N L h j Y X g.ms.length v O 12) (by simp only[acV];go_simp) ⟨O,H.put (by decide) (by simp),A,fun k=>V (by simpa using k),fun k=>by simpa using M (by simpa using k)⟩)
     ·cases Z;have o1:U.tmps[1]? =some (.pointer (some ⟨N,0,none⟩)):=H.oth 1 (by decide);have o3:U.tmps[3]? =some (.int .i64 (j:Int)):=H.oth 3 (by decide);have aq:=H.e 12 (by decide) (q ⟨12,.data⟩ (by simp) rfl);simp only[acV] at aq;obtain⟨d0,d1,d2,df⟩:=zg (HX.o.later A);obtain⟨m0,m2⟩:=RC.o W (HB.o.trans (A.mono HB.o.size));exact zcr rfl rfl (zc1 (w':=W) (v:=acV (.slice J.a g.ps.length J.cap) (.slice I.a g.ms.length I.cap) (.slice (some ⟨L,h,none⟩) g.ls.length lc) N L h j Y X g.ms.length v O 13) (by simp only[acV];go_simp) ⟨O,H.put (by decide) (by simp),A,fun k=>V (by simpa using k),fun k=>by simpa using M (by simpa using k)⟩)
     ·cases Z;have o1:U.tmps[1]? =some (.pointer (some ⟨N,0,none⟩)):=H.oth 1 (by decide);have o3:U.tmps[3]? =some (.int .i64 (j:Int)):=H.oth 3 (by decide);have t7:=H.e 7 (by decide) (q ⟨7,.data⟩ (by simp) rfl);have al:=H.e 13 (by decide) (q ⟨13,.data⟩ (by simp) rfl);simp only[acV] at t7 al;exact zcr rfl rfl (zc1 (w':=W) (v:=acV (.slice J.a g.ps.length J.cap) (.slice I.a g.ms.length I.cap) (.slice (some ⟨L,h,none⟩) g.ls.length lc) N L h j Y X g.ms.length v O 14) (by simp only[acV];go_simp) ⟨O,H.put (by decide) (by simp),A,fun k=>V (by simpa using k),fun _=>by simpa using q ⟨7,.data⟩ (by simp) rfl⟩)
     ·cases Z;have o1:U.tmps[1]? =some (.pointer (some ⟨N,0,none⟩)):=H.oth 1 (by decide);have o3:U.tmps[3]? =some (.int .i64 (j:Int)):=H.oth 3 (by decide);have ay:=H.e 14 (by decide) (q ⟨14,.data⟩ (by simp) rfl);simp only[acV] at ay;have m7:=V (M (q ⟨14,.data⟩ (by simp) rfl));exact zcr rfl rfl (zc1 (w':=W) (v:=acV (.slice J.a g.ps.length J.cap) (.slice I.a g.ms.length I.cap) (.slice (some ⟨L,h,none⟩) g.ls.length lc) N L h j Y X g.ms.length v O 15) (by simp only[acV];go_simp) ⟨O,H.put (by decide) (by simp),A,fun k=>V (by simpa using k),fun k=>by simpa using M (by simpa using k)⟩)
    ·rintro D U W ⟨O,H,A,V,_⟩ ab;rw[H.all (fun i Z=>ab i Z) (by simp)];simp only[List.range,List.range.loop,List.foldl_cons,List.foldl_nil,acV,Nat.reduceAdd]
     rename_i K hK _hx
     refine hK _ _ ?_;clear hK H;simp only[Act.put,List.setIfInBounds_toArray,List.set_cons_succ,List.set_cons_zero];have X2:=zc (HX.o.later A);have B2:=zc (HB.o.trans (A.mono HB.o.size));clear A V ab HX HB c0 c1 c2 cf;cases v with
     |true=>
      go_wp2;go_ret;exact⟨⟨false,rfl,⟨fun k=>(by cases k),fun k=>absurd k (aw.o HV.o.symm)⟩⟩,B2.o⟩
     |false=>
      go_wp2;go_roundw
      case rel=>exact⟨j+1,by omega,by go_num,zc (av.o (by rw[HC.o];exact HV.o.symm)),X2,B2⟩
      case measure=>simp[intOf];omega
   ·have ai: ¬(j:Int)<(g.ls.length:Int):=by omega
    go_wp2;go_ret
    exact⟨⟨true,rfl,⟨fun _=>⟨aa.o,fun l hl=>by
     obtain⟨i,Z⟩:=List.mem_iff_getElem?.1 hl
     exact HA.o i l (by have:=(gS Z).1;omega) Z⟩,fun _=>rfl⟩⟩,HB.o⟩
