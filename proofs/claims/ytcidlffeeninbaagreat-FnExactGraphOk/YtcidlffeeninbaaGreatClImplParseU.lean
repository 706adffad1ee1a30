/-
 What exportList of impl's parser answers: the walk.
-/
import Derived.Test.YtcidlffeeninbaaGreatClImplPrintCToImplParseT
namespace Go.Proofs.YtcidlffeeninbaaGreat
set_option maxRecDepth 100000
set_option maxHeartbeats 3200000
open Go.RowKit Go.PlainAid Go.Sort
theorem zsN {C:Cx} {q:PS} {a:PS×ByteArray} (w:zl C true q= .ok a) (h:isT C a.1.pos 1 sAs=true):zb5 C true q=bd (zl C true (adv a.1)) fun b=>.ok (b.1,⟨0,b.2,a.2,sNone⟩):=by
 rw[zb5,w,zA,asP,if_pos h]
theorem zsO {C:Cx} {q:PS} {a:PS×ByteArray} (w:zl C true q= .ok a) (h:isT C a.1.pos 1 sAs=false):zb5 C true q= .ok (a.1,⟨0,a.2,a.2,sNone⟩):=by
 rw[zb5,w,zA,asP,if_neg (by rw[h];decide),if_neg (by simp)]
 rfl
theorem zsP (C:Cx) (E A z D:Nat) (S:Sv) (q:PS) (w:World) (h:IM C E A z D S q w):
  Calls Tryz.prog 200 #[.pointer (some ⟨D,0,none⟩)] w (zlx C E A z D 82 4 (fun e=>epL (zD e)) (za3 C true q []) S w):=by
 obtain⟨i0,hi,ax,aw,av⟩:=info_parts Tryz.infoExp
 have HH:Hid (IM C E A z D S q w):=h
 clear h
 go_enter Tryz.func200,Tryz.ntmps200
 go_wp2
 go_loopg [3] (C.ts.length+1) (fun k v wr=>∃(S':Sv) (q':PS) (r:Rw) (l:List Ep),v= .slice r.a l.length r.cap∧za3 C true q []=za3 C true q' l∧C.ts.length-q'.pos<k∧l.length+(C.ts.length-q'.pos)≤C.ts.length∧IM C E A z D S' q' wr∧IS D S w S' wr∧Fr 82 4 wr w.heap.size r l.length (l.flatMap (fun e=>epL (zD e))) S')
 case atStart=>exact⟨S,q,⟨some ⟨w.heap.size,0,none⟩,0⟩,[],rfl,rfl,by omega,by simp,HH.out.alloc _,(IS.refl _ _ _).alloc _,zly HH.out _ _⟩
 case round=>
  obtain⟨S',q',r,l,rfl,hy,hk,hl,m',s',f'⟩:=hrel
  have aF:Hid (za3 C true q []=za3 C true q' l):=hy
  have HY:=zc (aF.out.trans (zkb C true q' l))
  have au:Hid (IM C E A z D S' q' wr):=m'
  have ap:Hid (IS D S w S' wr):=s'
  have ay:Hid (Fr 82 4 wr w.heap.size r l.length (l.flatMap (fun e=>epL (zD e))) S'):=f'
  have aI:=m'.mem.few
  clear hy m' s' f'
  go_wp2_with fail
  refine (zfo C E A z D S' q' _ au.out).mono ?_
  cases al:zl C true q' with
  |error p=>
   rintro e w1 ⟨rfl,hb⟩
   have HB:Hid (Below z w w1):=(HH.out.back ap.out).trans hb
   have HX:Hid (za3 C true q []= .error p):=by show _=_;rw[HY.out,zb5,al];rfl
   unfold Pan
   go_wp2
   refine⟨rfl,?_⟩
   rw[HX.out]
   exact⟨rfl,HB.out⟩
  |ok a=>
   rintro e w1 ⟨rfl,H,m,s⟩
   have aj:Hid (IM C E A z D H a.1 w1):=m
   have ao:Hid (IS D S w H w1):=ap.out.trans s
   have ar:Hid (Fr 82 4 w1 w.heap.size r l.length (l.flatMap (fun e=>epL (zD e))) H):=ay.out.step au.out (by decide) s
   clear m s
   cases ak:isT C a.1.pos 1 sAs with
   |true=>
    have HW:=zc (zsN al ak)
    go_wp2_with fail
    refine (zN C E A z D H a.1 1 sAs _ aj.out (by decide)).mono ?_
    rintro e w2 ⟨rfl,m,s⟩
    rw[ak] at m ⊢
    have U:Hid (IM C E A z D H (adv a.1) w2):=m
    have ag:Hid (IS D S w H w2):=ao.out.trans s
    have N:Hid (Fr 82 4 w2 w.heap.size r l.length (l.flatMap (fun e=>epL (zD e))) H):=ar.out.step aj.out (by decide) s
    clear m s
    go_wp2_with fail
    refine (zfo C E A z D H (adv a.1) _ U.out).mono ?_
    cases am:zl C true (adv a.1) with
    |error p=>
     rintro e w3 ⟨rfl,hb⟩
     have HB:Hid (Below z w w3):=(HH.out.back ag.out).trans hb
     have HX:Hid (za3 C true q []= .error p):=by show _=_;rw[HY.out,HW.out,am];rfl
     unfold Pan
     go_wp2
     refine⟨rfl,?_⟩
     rw[HX.out]
     exact⟨rfl,HB.out⟩
    |ok c=>
     rintro e w3 ⟨rfl,V,m,s⟩
     have K:Hid (IM C E A z D V c.1 w3):=m
     have ad:Hid (IS D S w V w3):=ag.out.trans s
     have L:Hid (Fr 82 4 w3 w.heap.size r l.length (l.flatMap (fun e=>epL (zD e))) V):=N.out.step U.out (by decide) s
     clear m s
     have J:=zc (bdO HW.out am)
     have HE:=zc (bdO HY.out J.out)
     have aA:=zhX J.out
     have aE:=K.out.mem.inv.pos
     have O:=fun o1=>(L.out.later ((Below.refl w3.heap.size w3).alloc (Nat.le_refl _) o1)).1
     have ae:=fun o1=>(ad.out.alloc o1).size
     go_wp2_with (at_builtin;refine zaZ _ rfl _ _ 44 rfl w.heap.size 82 i0 _ 4 56 Tryz.underlying44 hi ax aw av rfl (by decide) (by decide) r l.length _ (by rfl) (O _) w3.heap.size (epL (zD (⟨0,c.2,a.2,sNone⟩:Ep))) (by rfl) (by exact heap_alloc_new w3 _) rfl (zgf _) (by omega) (ae _) ?_;intro Y w4 hr Z ai;have M:Hid (IM C E A z D V c.1 w4):=(K.out.alloc _).aside Z (fun k g=>⟨L.out.2 k g,L.out.ngp K.out (by decide) g,L.out.ngt K.out (by decide) g⟩);have X:Hid (IS D S w V w4):=(ad.out.alloc _).aside Z (fun k g=>(L.out.1.typed g).1);have ah:Hid (Fr 82 4 w4 w.heap.size Y (l.length+1) _ V):=(L.out.later ((Below.refl _ _).alloc (Nat.le_refl _) _)).grown (K.out.alloc _) hr ai;clear hr Z ai O ae)
     have el:(l++[(⟨0,c.2,a.2,sNone⟩:Ep)]).length=l.length+1:=by simp
     have ac:Hid (Fr 82 4 w4 w.heap.size Y (l++[(⟨0,c.2,a.2,sNone⟩:Ep)]).length ((l++[(⟨0,c.2,a.2,sNone⟩:Ep)]).flatMap (fun e=>epL (zD e))) V):=by
      show Fr ..
      rw[el,List.flatMap_append]
      simpa using ah.out
     have I:Hid ((l++[(⟨0,c.2,a.2,sNone⟩:Ep)]).length=l.length+1):=el
     clear el ah
     go_wp2_with fail
     cases hc:isT C c.1.pos 4 zbA with
     |true=>
      have aH:=za8 hc (by decide)
      have HC:=zc (HE.out.trans (if_pos hc))
      refine (zN C E A z D V (c.1) 4 zbA _ M.out (by decide)).mono ?_
      rintro e w5 ⟨rfl,m,s⟩
      rw[hc] at m ⊢
      have ab:Hid (IM C E A z D V (adv (c.1)) w5):=m
      have aa:Hid (IS D S w V w5):=X.out.trans s
      have af:Hid (Fr 82 4 w5 w.heap.size Y (l++[(⟨0,c.2,a.2,sNone⟩:Ep)]).length ((l++[(⟨0,c.2,a.2,sNone⟩:Ep)]).flatMap (fun e=>epL (zD e))) V):=ac.out.step M.out (by decide) s
      clear m s
      go_wp2
      go_roundg (gk-1)
      case rel=>exact⟨V,adv c.1,Y,(l++[(⟨0,c.2,a.2,sNone⟩:Ep)]),by rw[I.out],HC.out,by rw[zz];omega,by rw[zz,I.out];omega,ab.out,aa.out,af.out⟩
      case measure=>omega
     |false=>
      have HC:=zc (HE.out.trans (if_neg (by rw[hc];decide)))
      refine (zN C E A z D V (c.1) 4 zbA _ M.out (by decide)).mono ?_
      rintro e w5 ⟨rfl,m,s⟩
      rw[hc] at m ⊢
      have ab:Hid (IM C E A z D V (c.1) w5):=m
      have aa:Hid (IS D S w V w5):=X.out.trans s
      have af:Hid (Fr 82 4 w5 w.heap.size Y (l++[(⟨0,c.2,a.2,sNone⟩:Ep)]).length ((l++[(⟨0,c.2,a.2,sNone⟩:Ep)]).flatMap (fun e=>epL (zD e))) V):=ac.out.step M.out (by decide) s
      clear m s
      go_wp2_with fail
      refine (zcz C E A z D V c.1 125 _ ab.out).mono ?_
      cases aq:zd C 4 zbx c.1 with
      |error p=>
       rintro e w6 ⟨rfl,hb⟩
       have HB:Hid (Below z w w6):=(HH.out.back aa.out).trans hb
       have HX:Hid (za3 C true q []= .error p):=bdE HC.out aq
       unfold Pan
       go_wp2
       refine⟨rfl,?_⟩
       rw[HX.out]
       exact⟨rfl,HB.out⟩
      |ok a6=>
       rintro e w6 ⟨rfl,S6,m,s⟩
       have az:Hid (Fr 82 4 w6 w.heap.size Y (l++[(⟨0,c.2,a.2,sNone⟩:Ep)]).length ((l++[(⟨0,c.2,a.2,sNone⟩:Ep)]).flatMap (fun e=>epL (zD e))) S6):=af.out.step ab.out (by decide) s
       have aG:Hid (IM C E A z D S6 a6 w6):=m
       have aD:Hid (IS D S w S6 w6):=aa.out.trans s
       clear m s
       have aC:=zc (bdO HC.out aq)
       go_wp2
       go_ret
       rw[aC.out]
       exact⟨Y,S6,by rw[I.out];rfl,aG.out,aD.out,az.out,by show 0<(l++[(⟨0,c.2,a.2,sNone⟩:Ep)]).length;rw[I.out];omega,by show (l++[(⟨0,c.2,a.2,sNone⟩:Ep)]).length≤4000;rw[I.out];omega⟩
   |false=>
    have J:=zc (zsO al ak)
    have HE:=zc (bdO HY.out J.out)
    go_wp2_with fail
    refine (zN C E A z D H a.1 1 sAs _ aj.out (by decide)).mono ?_
    rintro e w2 ⟨rfl,m,s⟩
    rw[ak] at m ⊢
    have U:Hid (IM C E A z D H a.1 w2):=m
    have ag:Hid (IS D S w H w2):=ao.out.trans s
    have N:Hid (Fr 82 4 w2 w.heap.size r l.length (l.flatMap (fun e=>epL (zD e))) H):=ar.out.step aj.out (by decide) s
    clear m s
    have aA:=zhX J.out
    have aE:=U.out.mem.inv.pos
    have O:=fun o1=>(N.out.later ((Below.refl w2.heap.size w2).alloc (Nat.le_refl _) o1)).1
    have ae:=fun o1=>(ag.out.alloc o1).size
    go_wp2_with (at_builtin;refine zaZ _ rfl _ _ 44 rfl w.heap.size 82 i0 _ 4 56 Tryz.underlying44 hi ax aw av rfl (by decide) (by decide) r l.length _ (by rfl) (O _) w2.heap.size (epL (zD (⟨0,a.2,a.2,sNone⟩:Ep))) (by rfl) (by exact heap_alloc_new w2 _) rfl (zgf _) (by omega) (ae _) ?_;intro Y w3 hr Z ai;have K:Hid (IM C E A z D H a.1 w3):=(U.out.alloc _).aside Z (fun k g=>⟨N.out.2 k g,N.out.ngp U.out (by decide) g,N.out.ngt U.out (by decide) g⟩);have ad:Hid (IS D S w H w3):=(ag.out.alloc _).aside Z (fun k g=>(N.out.1.typed g).1);have ah:Hid (Fr 82 4 w3 w.heap.size Y (l.length+1) _ H):=(N.out.later ((Below.refl _ _).alloc (Nat.le_refl _) _)).grown (U.out.alloc _) hr ai;clear hr Z ai O ae)
    have el:(l++[(⟨0,a.2,a.2,sNone⟩:Ep)]).length=l.length+1:=by simp
    have L:Hid (Fr 82 4 w3 w.heap.size Y (l++[(⟨0,a.2,a.2,sNone⟩:Ep)]).length ((l++[(⟨0,a.2,a.2,sNone⟩:Ep)]).flatMap (fun e=>epL (zD e))) H):=by
     show Fr ..
     rw[el,List.flatMap_append]
     simpa using ah.out
    have I:Hid ((l++[(⟨0,a.2,a.2,sNone⟩:Ep)]).length=l.length+1):=el
    clear el ah
    go_wp2_with fail
    cases hc:isT C a.1.pos 4 zbA with
    |true=>
     have aH:=za8 hc (by decide)
     have HC:=zc (HE.out.trans (if_pos hc))
     refine (zN C E A z D H (a.1) 4 zbA _ K.out (by decide)).mono ?_
     rintro e w4 ⟨rfl,m,s⟩
     rw[hc] at m ⊢
     have M:Hid (IM C E A z D H (adv (a.1)) w4):=m
     have X:Hid (IS D S w H w4):=ad.out.trans s
     have ac:Hid (Fr 82 4 w4 w.heap.size Y (l++[(⟨0,a.2,a.2,sNone⟩:Ep)]).length ((l++[(⟨0,a.2,a.2,sNone⟩:Ep)]).flatMap (fun e=>epL (zD e))) H):=L.out.step K.out (by decide) s
     clear m s
     go_wp2
     go_roundg (gk-1)
     case rel=>exact⟨H,adv a.1,Y,(l++[(⟨0,a.2,a.2,sNone⟩:Ep)]),by rw[I.out],HC.out,by rw[zz];omega,by rw[zz,I.out];omega,M.out,X.out,ac.out⟩
     case measure=>omega
    |false=>
     have HC:=zc (HE.out.trans (if_neg (by rw[hc];decide)))
     refine (zN C E A z D H (a.1) 4 zbA _ K.out (by decide)).mono ?_
     rintro e w4 ⟨rfl,m,s⟩
     rw[hc] at m ⊢
     have M:Hid (IM C E A z D H (a.1) w4):=m
     have X:Hid (IS D S w H w4):=ad.out.trans s
     have ac:Hid (Fr 82 4 w4 w.heap.size Y (l++[(⟨0,a.2,a.2,sNone⟩:Ep)]).length ((l++[(⟨0,a.2,a.2,sNone⟩:Ep)]).flatMap (fun e=>epL (zD e))) H):=L.out.step K.out (by decide) s
     clear m s
     go_wp2_with fail
     refine (zcz C E A z D H a.1 125 _ M.out).mono ?_
     cases an:zd C 4 zbx a.1 with
     |error p=>
      rintro e w5 ⟨rfl,hb⟩
      have HB:Hid (Below z w w5):=(HH.out.back X.out).trans hb
      have HX:Hid (za3 C true q []= .error p):=bdE HC.out an
      unfold Pan
      go_wp2
      refine⟨rfl,?_⟩
      rw[HX.out]
      exact⟨rfl,HB.out⟩
     |ok a5=>
      rintro e w5 ⟨rfl,S5,m,s⟩
      have af:Hid (Fr 82 4 w5 w.heap.size Y (l++[(⟨0,a.2,a.2,sNone⟩:Ep)]).length ((l++[(⟨0,a.2,a.2,sNone⟩:Ep)]).flatMap (fun e=>epL (zD e))) S5):=ac.out.step M.out (by decide) s
      have ab:Hid (IM C E A z D S5 a5 w5):=m
      have aa:Hid (IS D S w S5 w5):=X.out.trans s
      clear m s
      have aB:=zc (bdO HC.out an)
      go_wp2
      go_ret
      rw[aB.out]
      exact⟨Y,S5,by rw[I.out];rfl,ab.out,aa.out,af.out,by show 0<(l++[(⟨0,a.2,a.2,sNone⟩:Ep)]).length;rw[I.out];omega,by show (l++[(⟨0,a.2,a.2,sNone⟩:Ep)]).length≤4000;rw[I.out];omega⟩
end Go.Proofs.YtcidlffeeninbaaGreat