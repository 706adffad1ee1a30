/-
 What exportList of impl's parser answers: the walk.
-/
import Derived.Test.YticdggnnpjachaaGreatCbImplPrintCToImplParseT
namespace Go.Proofs.YticdggnnpjachaaGreat
set_option maxRecDepth 100000
set_option maxHeartbeats 3200000
open Go.RowKit Go.PlainAid Go.Sort
theorem zpO {C:Cx} {q:PS} {a:PS×ByteArray} (j:zj C true q= .ok a) (h:isT C a.1.pos 1 sAs=true):zbs C true q=bd (zj C true (adv a.1)) fun b=>.ok (b.1,⟨0,b.2,a.2,sNone⟩):=by
 rw[zbs,j,zz,asP,if_pos h]
theorem zpP {C:Cx} {q:PS} {a:PS×ByteArray} (j:zj C true q= .ok a) (h:isT C a.1.pos 1 sAs=false):zbs C true q= .ok (a.1,⟨0,a.2,a.2,sNone⟩):=by
 rw[zbs,j,zz,asP,if_neg (by rw[h];decide),if_neg (by simp)]
 rfl
theorem zpQ (C:Cx) (z n j o:Nat) (S:Sv) (q:PS) (w:World) (h:IM C z n j o S q w):
  Calls Tryz.prog 177 #[.pointer (some ⟨o,0,none⟩)] w (zjD C z n j o 102 4 (fun e=>epL (zA e)) (zax C true q []) S w):=by
 obtain⟨i0,hi,al,au,ar⟩:=info_parts Tryz.infoExp
 have HH:Hid (IM C z n j o S q w):=h
 clear h
 go_enter Tryz.func177,Tryz.ntmps177
 go_wp2
 go_loopg [3] (C.ts.length+1) (fun k v wr=>∃(S':Sv) (q':PS) (r:Rw) (l:List Ep),v= .slice r.a l.length r.cap∧zax C true q []=zax C true q' l∧C.ts.length-q'.pos<k∧l.length+(C.ts.length-q'.pos)≤C.ts.length∧IM C z n j o S' q' wr∧IS o S w S' wr∧Fr 102 4 wr w.heap.size r l.length (l.flatMap (fun e=>epL (zA e))) S')
 case atStart=>exact⟨S,q,⟨some ⟨w.heap.size,0,none⟩,0⟩,[],rfl,rfl,by omega,by simp,HH.out.alloc _,(IS.refl _ _ _).alloc _,zjE HH.out _ _⟩
 case round=>
  obtain⟨S',q',r,l,rfl,hy,hk,hl,m',s',f'⟩:=hrel
  have aA:Hid (zax C true q []=zax C true q' l):=hy
  have HY:=zc (aA.out.trans (zjh C true q' l))
  have ak:Hid (IM C z n j o S' q' wr):=m'
  have ap:Hid (IS o S w S' wr):=s'
  have aC:Hid (Fr 102 4 wr w.heap.size r l.length (l.flatMap (fun e=>epL (zA e))) S'):=f'
  have aG:=m'.mem.few
  clear hy m' s' f'
  go_wp2_with fail
  refine (zeF C z n j o S' q' _ ak.out).mono ?_
  cases aj:zj C true q' with
  |error p=>
   rintro e w1 ⟨rfl,hb⟩
   have HB:Hid (Below j w w1):=(HH.out.back ap.out).trans hb
   have HX:Hid (zax C true q []= .error p):=by show _=_;rw[HY.out,zbs,aj];rfl
   unfold Pan
   go_wp2
   refine⟨rfl,?_⟩
   rw[HX.out]
   exact⟨rfl,HB.out⟩
  |ok a=>
   rintro e w1 ⟨rfl,A,m,s⟩
   have ai:Hid (IM C z n j o A a.1 w1):=m
   have an:Hid (IS o S w A w1):=ap.out.trans s
   have av:Hid (Fr 102 4 w1 w.heap.size r l.length (l.flatMap (fun e=>epL (zA e))) A):=aC.out.step ak.out (by decide) s
   clear m s
   cases ah:isT C a.1.pos 1 sAs with
   |true=>
    have HW:=zc (zpO aj ah)
    go_wp2_with fail
    refine (zK C z n j o A a.1 1 sAs _ ai.out (by decide)).mono ?_
    rintro e w2 ⟨rfl,m,s⟩
    rw[ah] at m ⊢
    have L:Hid (IM C z n j o A (adv a.1) w2):=m
    have ag:Hid (IS o S w A w2):=an.out.trans s
    have M:Hid (Fr 102 4 w2 w.heap.size r l.length (l.flatMap (fun e=>epL (zA e))) A):=av.out.step ai.out (by decide) s
    clear m s
    go_wp2_with fail
    refine (zeF C z n j o A (adv a.1) _ L.out).mono ?_
    cases ao:zj C true (adv a.1) with
    |error p=>
     rintro e V ⟨rfl,hb⟩
     have HB:Hid (Below j w V):=(HH.out.back ag.out).trans hb
     have HX:Hid (zax C true q []= .error p):=by show _=_;rw[HY.out,HW.out,ao];rfl
     unfold Pan
     go_wp2
     refine⟨rfl,?_⟩
     rw[HX.out]
     exact⟨rfl,HB.out⟩
    |ok c=>
     rintro e V ⟨rfl,K,m,s⟩
     have H:Hid (IM C z n j o K c.1 V):=m
     have af:Hid (IS o S w K V):=ag.out.trans s
     have J:Hid (Fr 102 4 V w.heap.size r l.length (l.flatMap (fun e=>epL (zA e))) K):=M.out.step L.out (by decide) s
     clear m s
     have D:=zc (bdO HW.out ao)
     have HE:=zc (bdO HY.out D.out)
     have aF:=zhf D.out
     have aD:=H.out.mem.inv.pos
     have N:=fun o1=>(J.out.later ((Below.refl V.heap.size V).alloc (Nat.le_refl _) o1)).1
     have ab:=fun o1=>(af.out.alloc o1).size
     go_wp2_with (at_builtin;refine zcu _ rfl _ _ 24 rfl w.heap.size 102 i0 _ 4 56 Tryz.underlying24 hi al au ar rfl (by decide) (by decide) r l.length _ (by rfl) (N _) V.heap.size (epL (zA (⟨0,c.2,a.2,sNone⟩:Ep))) (by rfl) (by exact heap_alloc_new V _) rfl (zeI _) (by omega) (ab _) ?_;intro Q w4 hr O ad;have I:Hid (IM C z n j o K c.1 w4):=(H.out.alloc _).aside O (fun k g=>⟨J.out.2 k g,J.out.ngp H.out (by decide) g,J.out.ngt H.out (by decide) g⟩);have U:Hid (IS o S w K w4):=(af.out.alloc _).aside O (fun k g=>(J.out.1.typed g).1);have ae:Hid (Fr 102 4 w4 w.heap.size Q (l.length+1) _ K):=(J.out.later ((Below.refl _ _).alloc (Nat.le_refl _) _)).grown (H.out.alloc _) hr ad;clear hr O ad N ab)
     have el:(l++[(⟨0,c.2,a.2,sNone⟩:Ep)]).length=l.length+1:=by simp
     have Y:Hid (Fr 102 4 w4 w.heap.size Q (l++[(⟨0,c.2,a.2,sNone⟩:Ep)]).length ((l++[(⟨0,c.2,a.2,sNone⟩:Ep)]).flatMap (fun e=>epL (zA e))) K):=by
      show Fr ..
      rw[el,List.flatMap_append]
      simpa using ae.out
     have E:Hid ((l++[(⟨0,c.2,a.2,sNone⟩:Ep)]).length=l.length+1):=el
     clear el ae
     go_wp2_with fail
     cases hc:isT C c.1.pos 4 zbw with
     |true=>
      have aE:=za1 hc (by decide)
      have HC:=zc (HE.out.trans (if_pos hc))
      refine (zK C z n j o K (c.1) 4 zbw _ I.out (by decide)).mono ?_
      rintro e Z ⟨rfl,m,s⟩
      rw[hc] at m ⊢
      have X:Hid (IM C z n j o K (adv (c.1)) Z):=m
      have aa:Hid (IS o S w K Z):=U.out.trans s
      have ac:Hid (Fr 102 4 Z w.heap.size Q (l++[(⟨0,c.2,a.2,sNone⟩:Ep)]).length ((l++[(⟨0,c.2,a.2,sNone⟩:Ep)]).flatMap (fun e=>epL (zA e))) K):=Y.out.step I.out (by decide) s
      clear m s
      go_wp2
      go_roundg (gk-1)
      case rel=>exact⟨K,adv c.1,Q,(l++[(⟨0,c.2,a.2,sNone⟩:Ep)]),by rw[E.out],HC.out,by rw[zx];omega,by rw[zx,E.out];omega,X.out,aa.out,ac.out⟩
      case measure=>omega
     |false=>
      have HC:=zc (HE.out.trans (if_neg (by rw[hc];decide)))
      refine (zK C z n j o K (c.1) 4 zbw _ I.out (by decide)).mono ?_
      rintro e Z ⟨rfl,m,s⟩
      rw[hc] at m ⊢
      have X:Hid (IM C z n j o K (c.1) Z):=m
      have aa:Hid (IS o S w K Z):=U.out.trans s
      have ac:Hid (Fr 102 4 Z w.heap.size Q (l++[(⟨0,c.2,a.2,sNone⟩:Ep)]).length ((l++[(⟨0,c.2,a.2,sNone⟩:Ep)]).flatMap (fun e=>epL (zA e))) K):=Y.out.step I.out (by decide) s
      clear m s
      go_wp2_with fail
      refine (zbX C z n j o K c.1 125 _ X.out).mono ?_
      cases aq:zd C 4 zbm c.1 with
      |error p=>
       rintro e w6 ⟨rfl,hb⟩
       have HB:Hid (Below j w w6):=(HH.out.back aa.out).trans hb
       have HX:Hid (zax C true q []= .error p):=bdE HC.out aq
       unfold Pan
       go_wp2
       refine⟨rfl,?_⟩
       rw[HX.out]
       exact⟨rfl,HB.out⟩
      |ok a6=>
       rintro e w6 ⟨rfl,S6,m,s⟩
       have aB:Hid (Fr 102 4 w6 w.heap.size Q (l++[(⟨0,c.2,a.2,sNone⟩:Ep)]).length ((l++[(⟨0,c.2,a.2,sNone⟩:Ep)]).flatMap (fun e=>epL (zA e))) S6):=ac.out.step X.out (by decide) s
       have az:Hid (IM C z n j o S6 a6 w6):=m
       have aw:Hid (IS o S w S6 w6):=aa.out.trans s
       clear m s
       have ax:=zc (bdO HC.out aq)
       go_wp2
       go_ret
       rw[ax.out]
       exact⟨Q,S6,by rw[E.out];rfl,az.out,aw.out,aB.out,by show 0<(l++[(⟨0,c.2,a.2,sNone⟩:Ep)]).length;rw[E.out];omega,by show (l++[(⟨0,c.2,a.2,sNone⟩:Ep)]).length≤4000;rw[E.out];omega⟩
   |false=>
    have D:=zc (zpP aj ah)
    have HE:=zc (bdO HY.out D.out)
    go_wp2_with fail
    refine (zK C z n j o A a.1 1 sAs _ ai.out (by decide)).mono ?_
    rintro e w2 ⟨rfl,m,s⟩
    rw[ah] at m ⊢
    have L:Hid (IM C z n j o A a.1 w2):=m
    have ag:Hid (IS o S w A w2):=an.out.trans s
    have M:Hid (Fr 102 4 w2 w.heap.size r l.length (l.flatMap (fun e=>epL (zA e))) A):=av.out.step ai.out (by decide) s
    clear m s
    have aF:=zhf D.out
    have aD:=L.out.mem.inv.pos
    have N:=fun o1=>(M.out.later ((Below.refl w2.heap.size w2).alloc (Nat.le_refl _) o1)).1
    have ab:=fun o1=>(ag.out.alloc o1).size
    go_wp2_with (at_builtin;refine zcu _ rfl _ _ 24 rfl w.heap.size 102 i0 _ 4 56 Tryz.underlying24 hi al au ar rfl (by decide) (by decide) r l.length _ (by rfl) (N _) w2.heap.size (epL (zA (⟨0,a.2,a.2,sNone⟩:Ep))) (by rfl) (by exact heap_alloc_new w2 _) rfl (zeI _) (by omega) (ab _) ?_;intro Q V hr O ad;have H:Hid (IM C z n j o A a.1 V):=(L.out.alloc _).aside O (fun k g=>⟨M.out.2 k g,M.out.ngp L.out (by decide) g,M.out.ngt L.out (by decide) g⟩);have af:Hid (IS o S w A V):=(ag.out.alloc _).aside O (fun k g=>(M.out.1.typed g).1);have ae:Hid (Fr 102 4 V w.heap.size Q (l.length+1) _ A):=(M.out.later ((Below.refl _ _).alloc (Nat.le_refl _) _)).grown (L.out.alloc _) hr ad;clear hr O ad N ab)
    have el:(l++[(⟨0,a.2,a.2,sNone⟩:Ep)]).length=l.length+1:=by simp
    have J:Hid (Fr 102 4 V w.heap.size Q (l++[(⟨0,a.2,a.2,sNone⟩:Ep)]).length ((l++[(⟨0,a.2,a.2,sNone⟩:Ep)]).flatMap (fun e=>epL (zA e))) A):=by
     show Fr ..
     rw[el,List.flatMap_append]
     simpa using ae.out
    have E:Hid ((l++[(⟨0,a.2,a.2,sNone⟩:Ep)]).length=l.length+1):=el
    clear el ae
    go_wp2_with fail
    cases hc:isT C a.1.pos 4 zbw with
    |true=>
     have aE:=za1 hc (by decide)
     have HC:=zc (HE.out.trans (if_pos hc))
     refine (zK C z n j o A (a.1) 4 zbw _ H.out (by decide)).mono ?_
     rintro e w4 ⟨rfl,m,s⟩
     rw[hc] at m ⊢
     have I:Hid (IM C z n j o A (adv (a.1)) w4):=m
     have U:Hid (IS o S w A w4):=af.out.trans s
     have Y:Hid (Fr 102 4 w4 w.heap.size Q (l++[(⟨0,a.2,a.2,sNone⟩:Ep)]).length ((l++[(⟨0,a.2,a.2,sNone⟩:Ep)]).flatMap (fun e=>epL (zA e))) A):=J.out.step H.out (by decide) s
     clear m s
     go_wp2
     go_roundg (gk-1)
     case rel=>exact⟨A,adv a.1,Q,(l++[(⟨0,a.2,a.2,sNone⟩:Ep)]),by rw[E.out],HC.out,by rw[zx];omega,by rw[zx,E.out];omega,I.out,U.out,Y.out⟩
     case measure=>omega
    |false=>
     have HC:=zc (HE.out.trans (if_neg (by rw[hc];decide)))
     refine (zK C z n j o A (a.1) 4 zbw _ H.out (by decide)).mono ?_
     rintro e w4 ⟨rfl,m,s⟩
     rw[hc] at m ⊢
     have I:Hid (IM C z n j o A (a.1) w4):=m
     have U:Hid (IS o S w A w4):=af.out.trans s
     have Y:Hid (Fr 102 4 w4 w.heap.size Q (l++[(⟨0,a.2,a.2,sNone⟩:Ep)]).length ((l++[(⟨0,a.2,a.2,sNone⟩:Ep)]).flatMap (fun e=>epL (zA e))) A):=J.out.step H.out (by decide) s
     clear m s
     go_wp2_with fail
     refine (zbX C z n j o A a.1 125 _ I.out).mono ?_
     cases am:zd C 4 zbm a.1 with
     |error p=>
      rintro e Z ⟨rfl,hb⟩
      have HB:Hid (Below j w Z):=(HH.out.back U.out).trans hb
      have HX:Hid (zax C true q []= .error p):=bdE HC.out am
      unfold Pan
      go_wp2
      refine⟨rfl,?_⟩
      rw[HX.out]
      exact⟨rfl,HB.out⟩
     |ok a5=>
      rintro e Z ⟨rfl,S5,m,s⟩
      have ac:Hid (Fr 102 4 Z w.heap.size Q (l++[(⟨0,a.2,a.2,sNone⟩:Ep)]).length ((l++[(⟨0,a.2,a.2,sNone⟩:Ep)]).flatMap (fun e=>epL (zA e))) S5):=Y.out.step I.out (by decide) s
      have X:Hid (IM C z n j o S5 a5 Z):=m
      have aa:Hid (IS o S w S5 Z):=U.out.trans s
      clear m s
      have ay:=zc (bdO HC.out am)
      go_wp2
      go_ret
      rw[ay.out]
      exact⟨Q,S5,by rw[E.out];rfl,X.out,aa.out,ac.out,by show 0<(l++[(⟨0,a.2,a.2,sNone⟩:Ep)]).length;rw[E.out];omega,by show (l++[(⟨0,a.2,a.2,sNone⟩:Ep)]).length≤4000;rw[E.out];omega⟩
end Go.Proofs.YticdggnnpjachaaGreat