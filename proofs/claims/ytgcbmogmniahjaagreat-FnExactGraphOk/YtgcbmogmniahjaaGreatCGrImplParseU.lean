/-
 What exportList of impl's parser answers: the walk.
-/
import Derived.Test.YtgcbmogmniahjaaGreatCGrImplPrintCToImplParseT
namespace Go.Proofs.YtgcbmogmniahjaaGreat
set_option maxRecDepth 100000
set_option maxHeartbeats 3200000
open Go.RowKit Go.PlainAid Go.Sort
theorem ztj {C:Cx} {q:PS} {a:PS×ByteArray} (w:zm C true q= .ok a) (h:isT C a.1.pos 1 sAs=true):zb8 C true q=bd (zm C true (adv a.1)) fun b=>.ok (b.1,⟨0,b.2,a.2,sNone⟩):=by
 rw[zb8,w,zA,asP,if_pos h]
theorem ztk {C:Cx} {q:PS} {a:PS×ByteArray} (w:zm C true q= .ok a) (h:isT C a.1.pos 1 sAs=false):zb8 C true q= .ok (a.1,⟨0,a.2,a.2,sNone⟩):=by
 rw[zb8,w,zA,asP,if_neg (by rw[h];decide),if_neg (by simp)]
 rfl
theorem ztl (C:Cx) (J z base A:Nat) (S:Sv) (q:PS) (w:World) (h:IM C J z base A S q w):
  Calls Tryz.prog 233 #[.pointer (some ⟨A,0,none⟩)] w (zlD C J z base A 97 4 (fun e=>epL (zD e)) (za2 C true q []) S w):=by
 obtain⟨i0,hi,an,aw,au⟩:=info_parts Tryz.infoExp
 have HH:=h
 clear h
 go_enter Tryz.func233,Tryz.ntmps233
 go_wp2
 go_loopg [3] (C.ts.length+1) (fun k v wr=>∃(S':Sv) (q':PS) (r:Rw) (l:List Ep),v= .slice r.a l.length r.cap∧za2 C true q []=za2 C true q' l∧C.ts.length-q'.pos<k∧l.length+(C.ts.length-q'.pos)≤C.ts.length∧IM C J z base A S' q' wr∧IS A S w S' wr∧Fr 97 4 wr w.heap.size r l.length (l.flatMap (fun e=>epL (zD e))) S')
 case atStart=>exact⟨S,q,⟨some ⟨w.heap.size,0,none⟩,0⟩,[],rfl,rfl,by omega,by simp,HH.alloc _,(IS.refl _ _ _).alloc _,zlE HH _ _⟩
 case round=>
  obtain⟨S',q',r,l,rfl,hy,hk,hl,m',s',f'⟩:=hrel
  have ay:Hid (za2 C true q []=za2 C true q' l):=hy
  have HY:=zc (ay.out.trans (zkq C true q' l))
  have aq:=m'
  have av:=s'
  have aG:Hid (Fr 97 4 wr w.heap.size r l.length (l.flatMap (fun e=>epL (zD e))) S'):=f'
  have aH:=m'.mem.few
  clear hy m' s' f'
  go_wp2_with fail
  refine (zfr C J z base A S' q' _ aq).mono ?_
  cases ak:zm C true q' with
  |error p=>
   rintro e w1 ⟨rfl,hb⟩
   have HB:=(HH.back av).trans hb
   have HX:Hid (za2 C true q []= .error p):=by show _=_;rw[HY.out,zb8,ak];rfl
   unfold Pan
   go_wp2
   refine⟨rfl,?_⟩
   rw[HX.out]
   exact⟨rfl,HB⟩
  |ok a=>
   rintro e w1 ⟨rfl,D,m,s⟩
   have aj:=m
   have al:=av.trans s
   have am:Hid (Fr 97 4 w1 w.heap.size r l.length (l.flatMap (fun e=>epL (zD e))) D):=aG.out.step aq (by decide) s
   clear m s
   cases ai:isT C a.1.pos 1 sAs with
   |true=>
    have HW:=zc (ztj ak ai)
    go_wp2_with fail
    refine (zN C J z base A D a.1 1 sAs _ aj (by decide)).mono ?_
    rintro e w2 ⟨rfl,m,s⟩
    rw[ai] at m ⊢
    have N:Hid (IM C J z base A D (adv a.1) w2):=m
    have ad:Hid (IS A S w D w2):=al.trans s
    have O:Hid (Fr 97 4 w2 w.heap.size r l.length (l.flatMap (fun e=>epL (zD e))) D):=am.out.step aj (by decide) s
    clear m s
    go_wp2_with fail
    refine (zfr C J z base A D (adv a.1) _ N.out).mono ?_
    cases ao:zm C true (adv a.1) with
    |error p=>
     rintro e Z ⟨rfl,hb⟩
     have HB:=(HH.back ad.out).trans hb
     have HX:Hid (za2 C true q []= .error p):=by show _=_;rw[HY.out,HW.out,ao];rfl
     unfold Pan
     go_wp2
     refine⟨rfl,?_⟩
     rw[HX.out]
     exact⟨rfl,HB⟩
    |ok c=>
     rintro e Z ⟨rfl,S3,m,s⟩
     have I:Hid (IM C J z base A S3 c.1 Z):=m
     have ae:Hid (IS A S w S3 Z):=ad.out.trans s
     have L:Hid (Fr 97 4 Z w.heap.size r l.length (l.flatMap (fun e=>epL (zD e))) S3):=O.out.step N.out (by decide) s
     clear m s
     have E:=zc (bdO HW.out ao)
     have HE:=zc (bdO HY.out E.out)
     have aF:=zie E.out
     have ax:=I.out.mem.inv.pos
     have M:=fun o1=>(L.out.later ((Below.refl Z.heap.size Z).alloc (Nat.le_refl _) o1)).1
     have ac:=fun o1=>(ae.out.alloc o1).size
     go_wp2_with (at_builtin;refine zba _ rfl _ _ 50 rfl w.heap.size 97 i0 _ 4 56 Tryz.underlying50 hi an aw au rfl (by decide) (by decide) r l.length _ (by rfl) (M _) Z.heap.size (epL (zD (⟨0,c.2,a.2,sNone⟩:Ep))) (by rfl) (by exact heap_alloc_new Z _) rfl (zgi _) (by omega) (ac _) ?_;intro U w4 hr X ag;have K:Hid (IM C J z base A S3 c.1 w4):=(I.out.alloc _).aside X (fun k g=>⟨L.out.2 k g,L.out.ngp I.out (by decide) g,L.out.ngt I.out (by decide) g⟩);have V:Hid (IS A S w S3 w4):=(ae.out.alloc _).aside X (fun k g=>(L.out.1.typed g).1);have ah:Hid (Fr 97 4 w4 w.heap.size U (l.length+1) _ S3):=(L.out.later ((Below.refl _ _).alloc (Nat.le_refl _) _)).grown (I.out.alloc _) hr ag;clear hr X ag M ac)
     have el:(l++[(⟨0,c.2,a.2,sNone⟩:Ep)]).length=l.length+1:=by simp
     have ab:Hid (Fr 97 4 w4 w.heap.size U (l++[(⟨0,c.2,a.2,sNone⟩:Ep)]).length ((l++[(⟨0,c.2,a.2,sNone⟩:Ep)]).flatMap (fun e=>epL (zD e))) S3):=by
      show Fr ..
      rw[el,List.flatMap_append]
      simpa using ah.out
     have H:Hid ((l++[(⟨0,c.2,a.2,sNone⟩:Ep)]).length=l.length+1):=el
     clear el ah
     go_wp2_with fail
     cases hc:isT C c.1.pos 4 zbD with
     |true=>
      have aA:=za7 hc (by decide)
      have HC:=zc (HE.out.trans (if_pos hc))
      refine (zN C J z base A S3 (c.1) 4 zbD _ K.out (by decide)).mono ?_
      rintro e w5 ⟨rfl,m,s⟩
      rw[hc] at m ⊢
      have Y:=m
      have aa:=V.out.trans s
      have af:Hid (Fr 97 4 w5 w.heap.size U (l++[(⟨0,c.2,a.2,sNone⟩:Ep)]).length ((l++[(⟨0,c.2,a.2,sNone⟩:Ep)]).flatMap (fun e=>epL (zD e))) S3):=ab.out.step K.out (by decide) s
      clear m s
      go_wp2
      go_roundg (gk-1)
      case rel=>exact⟨S3,adv c.1,U,(l++[(⟨0,c.2,a.2,sNone⟩:Ep)]),by rw[H.out],HC.out,by rw[zz];omega,by rw[zz,H.out];omega,Y,aa,af.out⟩
      case measure=>omega
     |false=>
      have HC:=zc (HE.out.trans (if_neg (by rw[hc];decide)))
      refine (zN C J z base A S3 (c.1) 4 zbD _ K.out (by decide)).mono ?_
      rintro e w5 ⟨rfl,m,s⟩
      rw[hc] at m ⊢
      have Y:=m
      have aa:=V.out.trans s
      have af:Hid (Fr 97 4 w5 w.heap.size U (l++[(⟨0,c.2,a.2,sNone⟩:Ep)]).length ((l++[(⟨0,c.2,a.2,sNone⟩:Ep)]).flatMap (fun e=>epL (zD e))) S3):=ab.out.step K.out (by decide) s
      clear m s
      go_wp2_with fail
      refine (zcy C J z base A S3 c.1 125 _ Y).mono ?_
      cases ar:zd C 4 zb0 c.1 with
      |error p=>
       rintro e w6 ⟨rfl,hb⟩
       have HB:=(HH.back aa).trans hb
       have HX:Hid (za2 C true q []= .error p):=bdE HC.out ar
       unfold Pan
       go_wp2
       refine⟨rfl,?_⟩
       rw[HX.out]
       exact⟨rfl,HB⟩
      |ok a6=>
       rintro e w6 ⟨rfl,S6,m,s⟩
       have aE:Hid (Fr 97 4 w6 w.heap.size U (l++[(⟨0,c.2,a.2,sNone⟩:Ep)]).length ((l++[(⟨0,c.2,a.2,sNone⟩:Ep)]).flatMap (fun e=>epL (zD e))) S6):=af.out.step Y (by decide) s
       have aD:=m
       have aC:=aa.trans s
       clear m s
       have az:=zc (bdO HC.out ar)
       go_wp2
       go_ret
       rw[az.out]
       exact⟨U,S6,by rw[H.out];rfl,aD,aC,aE.out,by show 0<(l++[(⟨0,c.2,a.2,sNone⟩:Ep)]).length;rw[H.out];omega,by show (l++[(⟨0,c.2,a.2,sNone⟩:Ep)]).length≤4000;rw[H.out];omega⟩
   |false=>
    have E:=zc (ztk ak ai)
    have HE:=zc (bdO HY.out E.out)
    go_wp2_with fail
    refine (zN C J z base A D a.1 1 sAs _ aj (by decide)).mono ?_
    rintro e w2 ⟨rfl,m,s⟩
    rw[ai] at m ⊢
    have N:Hid (IM C J z base A D a.1 w2):=m
    have ad:Hid (IS A S w D w2):=al.trans s
    have O:Hid (Fr 97 4 w2 w.heap.size r l.length (l.flatMap (fun e=>epL (zD e))) D):=am.out.step aj (by decide) s
    clear m s
    have aF:=zie E.out
    have ax:=N.out.mem.inv.pos
    have M:=fun o1=>(O.out.later ((Below.refl w2.heap.size w2).alloc (Nat.le_refl _) o1)).1
    have ac:=fun o1=>(ad.out.alloc o1).size
    go_wp2_with (at_builtin;refine zba _ rfl _ _ 50 rfl w.heap.size 97 i0 _ 4 56 Tryz.underlying50 hi an aw au rfl (by decide) (by decide) r l.length _ (by rfl) (M _) w2.heap.size (epL (zD (⟨0,a.2,a.2,sNone⟩:Ep))) (by rfl) (by exact heap_alloc_new w2 _) rfl (zgi _) (by omega) (ac _) ?_;intro U Z hr X ag;have I:Hid (IM C J z base A D a.1 Z):=(N.out.alloc _).aside X (fun k g=>⟨O.out.2 k g,O.out.ngp N.out (by decide) g,O.out.ngt N.out (by decide) g⟩);have ae:Hid (IS A S w D Z):=(ad.out.alloc _).aside X (fun k g=>(O.out.1.typed g).1);have ah:Hid (Fr 97 4 Z w.heap.size U (l.length+1) _ D):=(O.out.later ((Below.refl _ _).alloc (Nat.le_refl _) _)).grown (N.out.alloc _) hr ag;clear hr X ag M ac)
    have el:(l++[(⟨0,a.2,a.2,sNone⟩:Ep)]).length=l.length+1:=by simp
    have L:Hid (Fr 97 4 Z w.heap.size U (l++[(⟨0,a.2,a.2,sNone⟩:Ep)]).length ((l++[(⟨0,a.2,a.2,sNone⟩:Ep)]).flatMap (fun e=>epL (zD e))) D):=by
     show Fr ..
     rw[el,List.flatMap_append]
     simpa using ah.out
    have H:Hid ((l++[(⟨0,a.2,a.2,sNone⟩:Ep)]).length=l.length+1):=el
    clear el ah
    go_wp2_with fail
    cases hc:isT C a.1.pos 4 zbD with
    |true=>
     have aA:=za7 hc (by decide)
     have HC:=zc (HE.out.trans (if_pos hc))
     refine (zN C J z base A D (a.1) 4 zbD _ I.out (by decide)).mono ?_
     rintro e w4 ⟨rfl,m,s⟩
     rw[hc] at m ⊢
     have K:Hid (IM C J z base A D (adv (a.1)) w4):=m
     have V:Hid (IS A S w D w4):=ae.out.trans s
     have ab:Hid (Fr 97 4 w4 w.heap.size U (l++[(⟨0,a.2,a.2,sNone⟩:Ep)]).length ((l++[(⟨0,a.2,a.2,sNone⟩:Ep)]).flatMap (fun e=>epL (zD e))) D):=L.out.step I.out (by decide) s
     clear m s
     go_wp2
     go_roundg (gk-1)
     case rel=>exact⟨D,adv a.1,U,(l++[(⟨0,a.2,a.2,sNone⟩:Ep)]),by rw[H.out],HC.out,by rw[zz];omega,by rw[zz,H.out];omega,K.out,V.out,ab.out⟩
     case measure=>omega
    |false=>
     have HC:=zc (HE.out.trans (if_neg (by rw[hc];decide)))
     refine (zN C J z base A D (a.1) 4 zbD _ I.out (by decide)).mono ?_
     rintro e w4 ⟨rfl,m,s⟩
     rw[hc] at m ⊢
     have K:Hid (IM C J z base A D (a.1) w4):=m
     have V:Hid (IS A S w D w4):=ae.out.trans s
     have ab:Hid (Fr 97 4 w4 w.heap.size U (l++[(⟨0,a.2,a.2,sNone⟩:Ep)]).length ((l++[(⟨0,a.2,a.2,sNone⟩:Ep)]).flatMap (fun e=>epL (zD e))) D):=L.out.step I.out (by decide) s
     clear m s
     go_wp2_with fail
     refine (zcy C J z base A D a.1 125 _ K.out).mono ?_
     cases ap:zd C 4 zb0 a.1 with
     |error p=>
      rintro e w5 ⟨rfl,hb⟩
      have HB:=(HH.back V.out).trans hb
      have HX:Hid (za2 C true q []= .error p):=bdE HC.out ap
      unfold Pan
      go_wp2
      refine⟨rfl,?_⟩
      rw[HX.out]
      exact⟨rfl,HB⟩
     |ok a5=>
      rintro e w5 ⟨rfl,S5,m,s⟩
      have af:Hid (Fr 97 4 w5 w.heap.size U (l++[(⟨0,a.2,a.2,sNone⟩:Ep)]).length ((l++[(⟨0,a.2,a.2,sNone⟩:Ep)]).flatMap (fun e=>epL (zD e))) S5):=ab.out.step K.out (by decide) s
      have Y:=m
      have aa:=V.out.trans s
      clear m s
      have aB:=zc (bdO HC.out ap)
      go_wp2
      go_ret
      rw[aB.out]
      exact⟨U,S5,by rw[H.out];rfl,Y,aa,af.out,by show 0<(l++[(⟨0,a.2,a.2,sNone⟩:Ep)]).length;rw[H.out];omega,by show (l++[(⟨0,a.2,a.2,sNone⟩:Ep)]).length≤4000;rw[H.out];omega⟩
end Go.Proofs.YtgcbmogmniahjaaGreat