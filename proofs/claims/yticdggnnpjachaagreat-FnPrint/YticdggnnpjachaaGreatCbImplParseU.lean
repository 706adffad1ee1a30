/-
 What exportList of impl's parser answers: the walk.
-/
import Derived.Test.YticdggnnpjachaaGreatCbImplPrintCToImplParseT
namespace Go.Proofs.YticdggnnpjachaaGreat
set_option maxRecDepth 100000
set_option maxHeartbeats 3200000
open Go.RowKit Go.PlainAid Go.Sort
theorem zpO {C:Cx} {q:PS} {a:PS×ByteArray} (j:zj C true q= .ok a) (h:isT C a.1.pos 1 sAs=true):zbs C true q=bd (zj C true (adv a.1)) fun b=>.ok (b.1,⟨0,b.2,a.2,sNone⟩):=by
 rw[zbs,j,zz,asP,if_pos h]
theorem zpP {C:Cx} {q:PS} {a:PS×ByteArray} (j:zj C true q= .ok a) (h:isT C a.1.pos 1 sAs=false):zbs C true q= .ok (a.1,⟨0,a.2,a.2,sNone⟩):=by
 rw[zbs,j,zz,asP,if_neg (by rw[h];decide),if_neg (by simp)]
 rfl
theorem zpQ (C:Cx) (z n j o:Nat) (S:Sv) (q:PS) (w:World) (h:IM C z n j o S q w):
  Calls Tryz.prog 177 #[.pointer (some ⟨o,0,none⟩)] w (zjD C z n j o 102 4 (fun e=>epL (zA e)) (zax C true q []) S w):=by
 obtain⟨i0,hi,ar,an,au⟩:=info_parts Tryz.infoExp
 have HH:Hid (IM C z n j o S q w):=h
 clear h
 go_enter Tryz.func177,Tryz.ntmps177
 go_wp2
 go_loopg [3] (C.ts.length+1) (fun k v wr=>∃(S':Sv) (q':PS) (r:Rw) (l:List Ep),v= .slice r.a l.length r.cap∧zax C true q []=zax C true q' l∧C.ts.length-q'.pos<k∧l.length+(C.ts.length-q'.pos)≤C.ts.length∧IM C z n j o S' q' wr∧IS o S w S' wr∧Fr 102 4 wr w.heap.size r l.length (l.flatMap (fun e=>epL (zA e))) S')
 case atStart=>exact⟨S,q,⟨some ⟨w.heap.size,0,none⟩,0⟩,[],rfl,rfl,by omega,by simp,HH.out.alloc _,(IS.refl _ _ _).alloc _,zjE HH.out _ _⟩
 case round=>
  obtain⟨S',q',r,l,rfl,hy,hk,hl,m',s',f'⟩:=hrel
  have av:Hid (zax C true q []=zax C true q' l):=hy
  have HY:=zc (av.out.trans (zjh C true q' l))
  have ao:Hid (IM C z n j o S' q' wr):=m'
  have am:Hid (IS o S w S' wr):=s'
  have aB:Hid (Fr 102 4 wr w.heap.size r l.length (l.flatMap (fun e=>epL (zA e))) S'):=f'
  have aF:=m'.mem.few
  clear hy m' s' f'
  go_wp2_with fail
  refine (zeF C z n j o S' q' _ ao.out).mono ?_
  cases ai:zj C true q' with
  |error p=>
   rintro e w1 ⟨rfl,hb⟩
   have HB:Hid (Below j w w1):=(HH.out.back am.out).trans hb
   have HX:Hid (zax C true q []= .error p):=by show _=_;rw[HY.out,zbs,ai];rfl
   unfold Pan
   go_wp2
   refine⟨rfl,?_⟩
   rw[HX.out]
   exact⟨rfl,HB.out⟩
  |ok a=>
   rintro e w1 ⟨rfl,A,m,s⟩
   have ag:Hid (IM C z n j o A a.1 w1):=m
   have aj:Hid (IS o S w A w1):=am.out.trans s
   have aq:Hid (Fr 102 4 w1 w.heap.size r l.length (l.flatMap (fun e=>epL (zA e))) A):=aB.out.step ao.out (by decide) s
   clear m s
   cases ah:isT C a.1.pos 1 sAs with
   |true=>
    have HW:=zc (zpO ai ah)
    go_wp2_with fail
    refine (zK C z n j o A a.1 1 sAs _ ag.out (by decide)).mono ?_
    rintro e w2 ⟨rfl,m,s⟩
    rw[ah] at m ⊢
    have M:Hid (IM C z n j o A (adv a.1) w2):=m
    have ae:Hid (IS o S w A w2):=aj.out.trans s
    have K:Hid (Fr 102 4 w2 w.heap.size r l.length (l.flatMap (fun e=>epL (zA e))) A):=aq.out.step ag.out (by decide) s
    clear m s
    go_wp2_with fail
    refine (zeF C z n j o A (adv a.1) _ M.out).mono ?_
    cases al:zj C true (adv a.1) with
    |error p=>
     rintro e V ⟨rfl,hb⟩
     have HB:Hid (Below j w V):=(HH.out.back ae.out).trans hb
     have HX:Hid (zax C true q []= .error p):=by show _=_;rw[HY.out,HW.out,al];rfl
     unfold Pan
     go_wp2
     refine⟨rfl,?_⟩
     rw[HX.out]
     exact⟨rfl,HB.out⟩
    |ok c=>
     rintro e V ⟨rfl,N,m,s⟩
     have H:Hid (IM C z n j o N c.1 V):=m
     have af:Hid (IS o S w N V):=ae.out.trans s
     have J:Hid (Fr 102 4 V w.heap.size r l.length (l.flatMap (fun e=>epL (zA e))) N):=K.out.step M.out (by decide) s
     clear m s
     have E:=zc (bdO HW.out al)
     have HE:=zc (bdO HY.out E.out)
     have aw:=zhf E.out
     have aD:=H.out.mem.inv.pos
     have L:=fun o1=>(J.out.later ((Below.refl V.heap.size V).alloc (Nat.le_refl _) o1)).1
     have ab:=fun o1=>(af.out.alloc o1).size
     go_wp2_with (at_builtin;refine zcu _ rfl _ _ 24 rfl w.heap.size 102 i0 _ 4 56 Tryz.underlying24 hi ar an au rfl (by decide) (by decide) r l.length _ (by rfl) (L _) V.heap.size (epL (zA (⟨0,c.2,a.2,sNone⟩:Ep))) (by rfl) (by exact heap_alloc_new V _) rfl (zeI _) (by omega) (ab _) ?_;intro Q w4 hr U ad;have I:Hid (IM C z n j o N c.1 w4):=(H.out.alloc _).aside U (fun k g=>⟨J.out.2 k g,J.out.ngp H.out (by decide) g,J.out.ngt H.out (by decide) g⟩);have O:Hid (IS o S w N w4):=(af.out.alloc _).aside U (fun k g=>(J.out.1.typed g).1);have ac:Hid (Fr 102 4 w4 w.heap.size Q (l.length+1) _ N):=(J.out.later ((Below.refl _ _).alloc (Nat.le_refl _) _)).grown (H.out.alloc _) hr ad;clear hr U ad L ab)
     have el:(l++[(⟨0,c.2,a.2,sNone⟩:Ep)]).length=l.length+1:=by simp
     have Y:Hid (Fr 102 4 w4 w.heap.size Q (l++[(⟨0,c.2,a.2,sNone⟩:Ep)]).length ((l++[(⟨0,c.2,a.2,sNone⟩:Ep)]).flatMap (fun e=>epL (zA e))) N):=by
      show Fr ..
      rw[el,List.flatMap_append]
      simpa using ac.out
     have D:Hid ((l++[(⟨0,c.2,a.2,sNone⟩:Ep)]).length=l.length+1):=el
     clear el ac
     go_wp2_with fail
     cases hc:isT C c.1.pos 4 zbw with
     |true=>
      have aC:=za1 hc (by decide)
      have HC:=zc (HE.out.trans (if_pos hc))
      refine (zK C z n j o N (c.1) 4 zbw _ I.out (by decide)).mono ?_
      rintro e w5 ⟨rfl,m,s⟩
      rw[hc] at m ⊢
      have Z:Hid (IM C z n j o N (adv (c.1)) w5):=m
      have X:Hid (IS o S w N w5):=O.out.trans s
      have aa:Hid (Fr 102 4 w5 w.heap.size Q (l++[(⟨0,c.2,a.2,sNone⟩:Ep)]).length ((l++[(⟨0,c.2,a.2,sNone⟩:Ep)]).flatMap (fun e=>epL (zA e))) N):=Y.out.step I.out (by decide) s
      clear m s
      go_wp2
      go_roundg (gk-1)
      case rel=>exact⟨N,adv c.1,Q,(l++[(⟨0,c.2,a.2,sNone⟩:Ep)]),by rw[D.out],HC.out,by rw[zx];omega,by rw[zx,D.out];omega,Z.out,X.out,aa.out⟩
      case measure=>omega
     |false=>
      have HC:=zc (HE.out.trans (if_neg (by rw[hc];decide)))
      refine (zK C z n j o N (c.1) 4 zbw _ I.out (by decide)).mono ?_
      rintro e w5 ⟨rfl,m,s⟩
      rw[hc] at m ⊢
      have Z:Hid (IM C z n j o N (c.1) w5):=m
      have X:Hid (IS o S w N w5):=O.out.trans s
      have aa:Hid (Fr 102 4 w5 w.heap.size Q (l++[(⟨0,c.2,a.2,sNone⟩:Ep)]).length ((l++[(⟨0,c.2,a.2,sNone⟩:Ep)]).flatMap (fun e=>epL (zA e))) N):=Y.out.step I.out (by decide) s
      clear m s
      go_wp2_with fail
      refine (zbX C z n j o N c.1 125 _ Z.out).mono ?_
      cases ak:zd C 4 zbm c.1 with
      |error p=>
       rintro e w6 ⟨rfl,hb⟩
       have HB:Hid (Below j w w6):=(HH.out.back X.out).trans hb
       have HX:Hid (zax C true q []= .error p):=bdE HC.out ak
       unfold Pan
       go_wp2
       refine⟨rfl,?_⟩
       rw[HX.out]
       exact⟨rfl,HB.out⟩
      |ok a6=>
       rintro e w6 ⟨rfl,S6,m,s⟩
       have ax:Hid (Fr 102 4 w6 w.heap.size Q (l++[(⟨0,c.2,a.2,sNone⟩:Ep)]).length ((l++[(⟨0,c.2,a.2,sNone⟩:Ep)]).flatMap (fun e=>epL (zA e))) S6):=aa.out.step Z.out (by decide) s
       have aE:Hid (IM C z n j o S6 a6 w6):=m
       have ay:Hid (IS o S w S6 w6):=X.out.trans s
       clear m s
       have aA:=zc (bdO HC.out ak)
       go_wp2
       go_ret
       rw[aA.out]
       exact⟨Q,S6,by rw[D.out];rfl,aE.out,ay.out,ax.out,by show 0<(l++[(⟨0,c.2,a.2,sNone⟩:Ep)]).length;rw[D.out];omega,by show (l++[(⟨0,c.2,a.2,sNone⟩:Ep)]).length≤4000;rw[D.out];omega⟩
   |false=>
    have E:=zc (zpP ai ah)
    have HE:=zc (bdO HY.out E.out)
    go_wp2_with fail
    refine (zK C z n j o A a.1 1 sAs _ ag.out (by decide)).mono ?_
    rintro e w2 ⟨rfl,m,s⟩
    rw[ah] at m ⊢
    have M:Hid (IM C z n j o A a.1 w2):=m
    have ae:Hid (IS o S w A w2):=aj.out.trans s
    have K:Hid (Fr 102 4 w2 w.heap.size r l.length (l.flatMap (fun e=>epL (zA e))) A):=aq.out.step ag.out (by decide) s
    clear m s
    have aw:=zhf E.out
    have aD:=M.out.mem.inv.pos
    have L:=fun o1=>(K.out.later ((Below.refl w2.heap.size w2).alloc (Nat.le_refl _) o1)).1
    have ab:=fun o1=>(ae.out.alloc o1).size
    go_wp2_with (at_builtin;refine zcu _ rfl _ _ 24 rfl w.heap.size 102 i0 _ 4 56 Tryz.underlying24 hi ar an au rfl (by decide) (by decide) r l.length _ (by rfl) (L _) w2.heap.size (epL (zA (⟨0,a.2,a.2,sNone⟩:Ep))) (by rfl) (by exact heap_alloc_new w2 _) rfl (zeI _) (by omega) (ab _) ?_;intro Q V hr U ad;have H:Hid (IM C z n j o A a.1 V):=(M.out.alloc _).aside U (fun k g=>⟨K.out.2 k g,K.out.ngp M.out (by decide) g,K.out.ngt M.out (by decide) g⟩);have af:Hid (IS o S w A V):=(ae.out.alloc _).aside U (fun k g=>(K.out.1.typed g).1);have ac:Hid (Fr 102 4 V w.heap.size Q (l.length+1) _ A):=(K.out.later ((Below.refl _ _).alloc (Nat.le_refl _) _)).grown (M.out.alloc _) hr ad;clear hr U ad L ab)
    have el:(l++[(⟨0,a.2,a.2,sNone⟩:Ep)]).length=l.length+1:=by simp
    have J:Hid (Fr 102 4 V w.heap.size Q (l++[(⟨0,a.2,a.2,sNone⟩:Ep)]).length ((l++[(⟨0,a.2,a.2,sNone⟩:Ep)]).flatMap (fun e=>epL (zA e))) A):=by
     show Fr ..
     rw[el,List.flatMap_append]
     simpa using ac.out
    have D:Hid ((l++[(⟨0,a.2,a.2,sNone⟩:Ep)]).length=l.length+1):=el
    clear el ac
    go_wp2_with fail
    cases hc:isT C a.1.pos 4 zbw with
    |true=>
     have aC:=za1 hc (by decide)
     have HC:=zc (HE.out.trans (if_pos hc))
     refine (zK C z n j o A (a.1) 4 zbw _ H.out (by decide)).mono ?_
     rintro e w4 ⟨rfl,m,s⟩
     rw[hc] at m ⊢
     have I:Hid (IM C z n j o A (adv (a.1)) w4):=m
     have O:Hid (IS o S w A w4):=af.out.trans s
     have Y:Hid (Fr 102 4 w4 w.heap.size Q (l++[(⟨0,a.2,a.2,sNone⟩:Ep)]).length ((l++[(⟨0,a.2,a.2,sNone⟩:Ep)]).flatMap (fun e=>epL (zA e))) A):=J.out.step H.out (by decide) s
     clear m s
     go_wp2
     go_roundg (gk-1)
     case rel=>exact⟨A,adv a.1,Q,(l++[(⟨0,a.2,a.2,sNone⟩:Ep)]),by rw[D.out],HC.out,by rw[zx];omega,by rw[zx,D.out];omega,I.out,O.out,Y.out⟩
     case measure=>omega
    |false=>
     have HC:=zc (HE.out.trans (if_neg (by rw[hc];decide)))
     refine (zK C z n j o A (a.1) 4 zbw _ H.out (by decide)).mono ?_
     rintro e w4 ⟨rfl,m,s⟩
     rw[hc] at m ⊢
     have I:Hid (IM C z n j o A (a.1) w4):=m
     have O:Hid (IS o S w A w4):=af.out.trans s
     have Y:Hid (Fr 102 4 w4 w.heap.size Q (l++[(⟨0,a.2,a.2,sNone⟩:Ep)]).length ((l++[(⟨0,a.2,a.2,sNone⟩:Ep)]).flatMap (fun e=>epL (zA e))) A):=J.out.step H.out (by decide) s
     clear m s
     go_wp2_with fail
     refine (zbX C z n j o A a.1 125 _ I.out).mono ?_
     cases ap:zd C 4 zbm a.1 with
     |error p=>
      rintro e w5 ⟨rfl,hb⟩
      have HB:Hid (Below j w w5):=(HH.out.back O.out).trans hb
      have HX:Hid (zax C true q []= .error p):=bdE HC.out ap
      unfold Pan
      go_wp2
      refine⟨rfl,?_⟩
      rw[HX.out]
      exact⟨rfl,HB.out⟩
     |ok a5=>
      rintro e w5 ⟨rfl,S5,m,s⟩
      have aa:Hid (Fr 102 4 w5 w.heap.size Q (l++[(⟨0,a.2,a.2,sNone⟩:Ep)]).length ((l++[(⟨0,a.2,a.2,sNone⟩:Ep)]).flatMap (fun e=>epL (zA e))) S5):=Y.out.step I.out (by decide) s
      have Z:Hid (IM C z n j o S5 a5 w5):=m
      have X:Hid (IS o S w S5 w5):=O.out.trans s
      clear m s
      have az:=zc (bdO HC.out ap)
      go_wp2
      go_ret
      rw[az.out]
      exact⟨Q,S5,by rw[D.out];rfl,Z.out,X.out,aa.out,by show 0<(l++[(⟨0,a.2,a.2,sNone⟩:Ep)]).length;rw[D.out];omega,by show (l++[(⟨0,a.2,a.2,sNone⟩:Ep)]).length≤4000;rw[D.out];omega⟩
end Go.Proofs.YticdggnnpjachaaGreat