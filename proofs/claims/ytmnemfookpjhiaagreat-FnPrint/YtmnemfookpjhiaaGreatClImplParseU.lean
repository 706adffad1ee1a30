/-
 What exportList of impl's parser answers: the walk.
-/
import Derived.Test.YtmnemfookpjhiaaGreatClImplPrintCToImplParseT
namespace Go.Proofs.YtmnemfookpjhiaaGreat
set_option maxRecDepth 100000
set_option maxHeartbeats 3200000
open Go.RowKit Go.PlainAid Go.Sort
theorem zbjm {C:Cx} {q:PS} {a:PS×ByteArray} (hn:zn C true q= .ok a) (h:isT C a.1.pos 1 sAs=true):zfu C true q=bd (zn C true (adv a.1)) fun b=>.ok (b.1,⟨0,b.2,a.2,sNone⟩):=by
 rw[zfu,hn,zbe,asP,if_pos h]
theorem zbao {C:Cx} {q:PS} {a:PS×ByteArray} (hn:zn C true q= .ok a) (h:isT C a.1.pos 1 sAs=false):zfu C true q= .ok (a.1,⟨0,a.2,a.2,sNone⟩):=by
 rw[zfu,hn,zbe,asP,if_neg (by rw[h];decide),if_neg (by simp)]
 rfl
theorem ztr (C:Cx) (gt cap base gp:Nat) (S:Sv) (q:PS) (w:World) (h:IM C gt cap base gp S q w):
  Calls Tryz.prog 238 #[.pointer (some ⟨gp,0,none⟩)] w (LOut C gt cap base gp 121 4 (fun e=>epL (zw e)) (zcx C true q []) S w):=by
 obtain⟨i0,hi,Q4,V4,N4⟩:=info_parts Tryz.infoExp
 have HH:Hid (IM C gt cap base gp S q w):=h
 clear h
 go_enter Tryz.func238,Tryz.ntmps238
 go_wp2
 go_loopg [3] (C.ts.length+1) (fun k v wr=>∃(S':Sv) (q':PS) (r:Rw) (l:List Ep),v= .slice r.a l.length r.cap∧zcx C true q []=zcx C true q' l∧C.ts.length-q'.pos<k∧l.length+(C.ts.length-q'.pos)≤C.ts.length∧IM C gt cap base gp S' q' wr∧IS gp S w S' wr∧Fr 121 4 wr w.heap.size r l.length (l.flatMap (fun e=>epL (zw e))) S')
 case atStart=>exact⟨S,q,⟨some ⟨w.heap.size,0,none⟩,0⟩,[],rfl,rfl,by omega,by simp,HH.out.alloc _,(IS.refl _ _ _).alloc _,zyn HH.out _ _⟩
 case round=>
  obtain⟨S',q',r,l,rfl,hy,hk,hl,m',s',f'⟩:=hrel
  have HY0:Hid (zcx C true q []=zcx C true q' l):=hy
  have HY:=hidI (HY0.out.trans (zsm C true q' l))
  have E6:Hid (IM C gt cap base gp S' q' wr):=m'
  have K7:Hid (IS gp S w S' wr):=s'
  have sa:Hid (Fr 121 4 wr w.heap.size r l.length (l.flatMap (fun e=>epL (zw e))) S'):=f'
  have I0:=m'.mem.few
  clear hy m' s' f'
  go_wp2_with f0
  refine (zfe C gt cap base gp S' q' _ E6.out).mono ?_
  cases R5:zn C true q' with
  |error p=>
   rintro e w1 ⟨rfl,hb⟩
   have HB:Hid (Below base w w1):=(HH.out.back K7.out).trans hb
   have HX:Hid (zcx C true q []= .error p):=by show _=_;rw[HY.out,zfu,R5];rfl
   unfold Pan
   go_wp2
   refine⟨rfl,?_⟩
   rw[HX.out]
   exact⟨rfl,HB.out⟩
  |ok a=>
   rintro e w1 ⟨rfl,S1,m,s⟩
   have F3:Hid (IM C gt cap base gp S1 a.1 w1):=m
   have L3:Hid (IS gp S w S1 w1):=K7.out.trans s
   have aa:Hid (Fr 121 4 w1 w.heap.size r l.length (l.flatMap (fun e=>epL (zw e))) S1):=sa.out.step E6.out (by decide) s
   clear m s
   cases D6:isT C a.1.pos 1 sAs with
   |true=>
    have HW:=hidI (zbjm R5 D6)
    go_wp2_with f0
    refine (zm C gt cap base gp S1 a.1 1 sAs _ F3.out (by decide)).mono ?_
    rintro e w2 ⟨rfl,m,s⟩
    rw[D6] at m ⊢
    have W0:Hid (IM C gt cap base gp S1 (adv a.1) w2):=m
    have Q2:Hid (IS gp S w S1 w2):=L3.out.trans s
    have T9:Hid (Fr 121 4 w2 w.heap.size r l.length (l.flatMap (fun e=>epL (zw e))) S1):=aa.out.step F3.out (by decide) s
    clear m s
    go_wp2_with f0
    refine (zfe C gt cap base gp S1 (adv a.1) _ W0.out).mono ?_
    cases hn3:zn C true (adv a.1) with
    |error p=>
     rintro e w3 ⟨rfl,hb⟩
     have HB:Hid (Below base w w3):=(HH.out.back Q2.out).trans hb
     have HX:Hid (zcx C true q []= .error p):=by show _=_;rw[HY.out,HW.out,hn3];rfl
     unfold Pan
     go_wp2
     refine⟨rfl,?_⟩
     rw[HX.out]
     exact⟨rfl,HB.out⟩
    |ok c=>
     rintro e w3 ⟨rfl,S3,m,s⟩
     have U2:Hid (IM C gt cap base gp S3 c.1 w3):=m
     have Z2:Hid (IS gp S w S3 w3):=Q2.out.trans s
     have L8:Hid (Fr 121 4 w3 w.heap.size r l.length (l.flatMap (fun e=>epL (zw e))) S3):=T9.out.step W0.out (by decide) s
     clear m s
     have Oc:=hidI (bdO HW.out hn3)
     have HE:=hidI (bdO HY.out Oc.out)
     have hpp:=zrq Oc.out
     have hip:=U2.out.mem.inv.pos
     have O0:=fun o1=>(L8.out.later ((Below.refl w3.heap.size w3).alloc (Nat.le_refl _) o1)).1
     have Y0:=fun o1=>(Z2.out.alloc o1).size
     go_wp2_with (at_builtin;refine zgr _ rfl _ _ 50 rfl w.heap.size 121 i0 _ 4 56 Tryz.underlying50 hi Q4 V4 N4 rfl (by decide) (by decide) r l.length _ (by rfl) (O0 _) w3.heap.size (epL (zw (⟨0,c.2,a.2,sNone⟩:Ep))) (by rfl) (by exact heap_alloc_new w3 _) rfl (zmy _) (by omega) (Y0 _) ?_;intro r' w4 hr F4 U1;have I3:Hid (IM C gt cap base gp S3 c.1 w4):=(U2.out.alloc _).aside F4 (fun k g=>⟨L8.out.2 k g,L8.out.ngp U2.out (by decide) g,L8.out.ngt U2.out (by decide) g⟩);have V2:Hid (IS gp S w S3 w4):=(Z2.out.alloc _).aside F4 (fun k g=>(L8.out.1.typed g).1);have Oe:Hid (Fr 121 4 w4 w.heap.size r' (l.length+1) _ S3):=(L8.out.later ((Below.refl _ _).alloc (Nat.le_refl _) _)).grown (U2.out.alloc _) hr U1;clear hr F4 U1 O0 Y0)
     have el:(l++[(⟨0,c.2,a.2,sNone⟩:Ep)]).length=l.length+1:=by simp
     have yb:Hid (Fr 121 4 w4 w.heap.size r' (l++[(⟨0,c.2,a.2,sNone⟩:Ep)]).length ((l++[(⟨0,c.2,a.2,sNone⟩:Ep)]).flatMap (fun e=>epL (zw e))) S3):=by
      show Fr _ _ _ _ _ _ _ _
      rw[el,List.flatMap_append]
      L0 using Oe.out
     have M8:Hid ((l++[(⟨0,c.2,a.2,sNone⟩:Ep)]).length=l.length+1):=el
     clear el Oe
     go_wp2_with f0
     cases hc:isT C c.1.pos 4 zen with
     |true=>
      have F0:=zcl hc (by decide)
      have HC:=hidI (HE.out.trans (if_pos hc))
      refine (zm C gt cap base gp S3 (c.1) 4 zen _ I3.out (by decide)).mono ?_
      rintro e w5 ⟨rfl,m,s⟩
      rw[hc] at m ⊢
      have U4:Hid (IM C gt cap base gp S3 (adv (c.1)) w5):=m
      have I4:Hid (IS gp S w S3 w5):=V2.out.trans s
      have Vc:Hid (Fr 121 4 w5 w.heap.size r' (l++[(⟨0,c.2,a.2,sNone⟩:Ep)]).length ((l++[(⟨0,c.2,a.2,sNone⟩:Ep)]).flatMap (fun e=>epL (zw e))) S3):=yb.out.step I3.out (by decide) s
      clear m s
      go_wp2
      go_roundg (gk-1)
      case rel=>exact⟨S3,adv c.1,r',(l++[(⟨0,c.2,a.2,sNone⟩:Ep)]),by rw[M8.out],HC.out,by rw[zp];omega,by rw[zp,M8.out];omega,U4.out,I4.out,Vc.out⟩
      case measure=>omega
     |false=>
      have HC:=hidI (HE.out.trans (if_neg (by rw[hc];decide)))
      refine (zm C gt cap base gp S3 (c.1) 4 zen _ I3.out (by decide)).mono ?_
      rintro e w5 ⟨rfl,m,s⟩
      rw[hc] at m ⊢
      have U4:Hid (IM C gt cap base gp S3 (c.1) w5):=m
      have I4:Hid (IS gp S w S3 w5):=V2.out.trans s
      have Vc:Hid (Fr 121 4 w5 w.heap.size r' (l++[(⟨0,c.2,a.2,sNone⟩:Ep)]).length ((l++[(⟨0,c.2,a.2,sNone⟩:Ep)]).flatMap (fun e=>epL (zw e))) S3):=yb.out.step I3.out (by decide) s
      clear m s
      go_wp2_with f0
      refine (zep C gt cap base gp S3 c.1 125 _ U4.out).mono ?_
      cases hn6:tokP C 4 zef c.1 with
      |error p=>
       rintro e w6 ⟨rfl,hb⟩
       have HB:Hid (Below base w w6):=(HH.out.back I4.out).trans hb
       have HX:Hid (zcx C true q []= .error p):=bdE HC.out hn6
       unfold Pan
       go_wp2
       refine⟨rfl,?_⟩
       rw[HX.out]
       exact⟨rfl,HB.out⟩
      |ok a6=>
       rintro e w6 ⟨rfl,S6,m,s⟩
       have HF6:Hid (Fr 121 4 w6 w.heap.size r' (l++[(⟨0,c.2,a.2,sNone⟩:Ep)]).length ((l++[(⟨0,c.2,a.2,sNone⟩:Ep)]).flatMap (fun e=>epL (zw e))) S6):=Vc.out.step U4.out (by decide) s
       have Aa:Hid (IM C gt cap base gp S6 a6 w6):=m
       have ia:Hid (IS gp S w S6 w6):=I4.out.trans s
       clear m s
       have da:=hidI (bdO HC.out hn6)
       go_wp2
       go_ret
       rw[da.out]
       exact⟨r',S6,by rw[M8.out];rfl,Aa.out,ia.out,HF6.out,by show 0<(l++[(⟨0,c.2,a.2,sNone⟩:Ep)]).length;rw[M8.out];omega,by show (l++[(⟨0,c.2,a.2,sNone⟩:Ep)]).length≤4000;rw[M8.out];omega⟩
   |false=>
    have Oc:=hidI (zbao R5 D6)
    have HE:=hidI (bdO HY.out Oc.out)
    go_wp2_with f0
    refine (zm C gt cap base gp S1 a.1 1 sAs _ F3.out (by decide)).mono ?_
    rintro e w2 ⟨rfl,m,s⟩
    rw[D6] at m ⊢
    have W0:Hid (IM C gt cap base gp S1 a.1 w2):=m
    have Q2:Hid (IS gp S w S1 w2):=L3.out.trans s
    have T9:Hid (Fr 121 4 w2 w.heap.size r l.length (l.flatMap (fun e=>epL (zw e))) S1):=aa.out.step F3.out (by decide) s
    clear m s
    have hpp:=zrq Oc.out
    have hip:=W0.out.mem.inv.pos
    have O0:=fun o1=>(T9.out.later ((Below.refl w2.heap.size w2).alloc (Nat.le_refl _) o1)).1
    have Y0:=fun o1=>(Q2.out.alloc o1).size
    go_wp2_with (at_builtin;refine zgr _ rfl _ _ 50 rfl w.heap.size 121 i0 _ 4 56 Tryz.underlying50 hi Q4 V4 N4 rfl (by decide) (by decide) r l.length _ (by rfl) (O0 _) w2.heap.size (epL (zw (⟨0,a.2,a.2,sNone⟩:Ep))) (by rfl) (by exact heap_alloc_new w2 _) rfl (zmy _) (by omega) (Y0 _) ?_;intro r' w3 hr F4 U1;have U2:Hid (IM C gt cap base gp S1 a.1 w3):=(W0.out.alloc _).aside F4 (fun k g=>⟨T9.out.2 k g,T9.out.ngp W0.out (by decide) g,T9.out.ngt W0.out (by decide) g⟩);have Z2:Hid (IS gp S w S1 w3):=(Q2.out.alloc _).aside F4 (fun k g=>(T9.out.1.typed g).1);have Oe:Hid (Fr 121 4 w3 w.heap.size r' (l.length+1) _ S1):=(T9.out.later ((Below.refl _ _).alloc (Nat.le_refl _) _)).grown (W0.out.alloc _) hr U1;clear hr F4 U1 O0 Y0)
    have el:(l++[(⟨0,a.2,a.2,sNone⟩:Ep)]).length=l.length+1:=by simp
    have L8:Hid (Fr 121 4 w3 w.heap.size r' (l++[(⟨0,a.2,a.2,sNone⟩:Ep)]).length ((l++[(⟨0,a.2,a.2,sNone⟩:Ep)]).flatMap (fun e=>epL (zw e))) S1):=by
     show Fr _ _ _ _ _ _ _ _
     rw[el,List.flatMap_append]
     L0 using Oe.out
    have M8:Hid ((l++[(⟨0,a.2,a.2,sNone⟩:Ep)]).length=l.length+1):=el
    clear el Oe
    go_wp2_with f0
    cases hc:isT C a.1.pos 4 zen with
    |true=>
     have F0:=zcl hc (by decide)
     have HC:=hidI (HE.out.trans (if_pos hc))
     refine (zm C gt cap base gp S1 (a.1) 4 zen _ U2.out (by decide)).mono ?_
     rintro e w4 ⟨rfl,m,s⟩
     rw[hc] at m ⊢
     have I3:Hid (IM C gt cap base gp S1 (adv (a.1)) w4):=m
     have V2:Hid (IS gp S w S1 w4):=Z2.out.trans s
     have yb:Hid (Fr 121 4 w4 w.heap.size r' (l++[(⟨0,a.2,a.2,sNone⟩:Ep)]).length ((l++[(⟨0,a.2,a.2,sNone⟩:Ep)]).flatMap (fun e=>epL (zw e))) S1):=L8.out.step U2.out (by decide) s
     clear m s
     go_wp2
     go_roundg (gk-1)
     case rel=>exact⟨S1,adv a.1,r',(l++[(⟨0,a.2,a.2,sNone⟩:Ep)]),by rw[M8.out],HC.out,by rw[zp];omega,by rw[zp,M8.out];omega,I3.out,V2.out,yb.out⟩
     case measure=>omega
    |false=>
     have HC:=hidI (HE.out.trans (if_neg (by rw[hc];decide)))
     refine (zm C gt cap base gp S1 (a.1) 4 zen _ U2.out (by decide)).mono ?_
     rintro e w4 ⟨rfl,m,s⟩
     rw[hc] at m ⊢
     have I3:Hid (IM C gt cap base gp S1 (a.1) w4):=m
     have V2:Hid (IS gp S w S1 w4):=Z2.out.trans s
     have yb:Hid (Fr 121 4 w4 w.heap.size r' (l++[(⟨0,a.2,a.2,sNone⟩:Ep)]).length ((l++[(⟨0,a.2,a.2,sNone⟩:Ep)]).flatMap (fun e=>epL (zw e))) S1):=L8.out.step U2.out (by decide) s
     clear m s
     go_wp2_with f0
     refine (zep C gt cap base gp S1 a.1 125 _ I3.out).mono ?_
     cases Y2:tokP C 4 zef a.1 with
     |error p=>
      rintro e w5 ⟨rfl,hb⟩
      have HB:Hid (Below base w w5):=(HH.out.back V2.out).trans hb
      have HX:Hid (zcx C true q []= .error p):=bdE HC.out Y2
      unfold Pan
      go_wp2
      refine⟨rfl,?_⟩
      rw[HX.out]
      exact⟨rfl,HB.out⟩
     |ok a5=>
      rintro e w5 ⟨rfl,S5,m,s⟩
      have Vc:Hid (Fr 121 4 w5 w.heap.size r' (l++[(⟨0,a.2,a.2,sNone⟩:Ep)]).length ((l++[(⟨0,a.2,a.2,sNone⟩:Ep)]).flatMap (fun e=>epL (zw e))) S5):=yb.out.step I3.out (by decide) s
      have U4:Hid (IM C gt cap base gp S5 a5 w5):=m
      have I4:Hid (IS gp S w S5 w5):=V2.out.trans s
      clear m s
      have U5:=hidI (bdO HC.out Y2)
      go_wp2
      go_ret
      rw[U5.out]
      exact⟨r',S5,by rw[M8.out];rfl,U4.out,I4.out,Vc.out,by show 0<(l++[(⟨0,a.2,a.2,sNone⟩:Ep)]).length;rw[M8.out];omega,by show (l++[(⟨0,a.2,a.2,sNone⟩:Ep)]).length≤4000;rw[M8.out];omega⟩
end Go.Proofs.YtmnemfookpjhiaaGreat