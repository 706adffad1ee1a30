/-
 What exportList of impl's parser answers: the walk.
-/
import Derived.Test.YticdggnnpjachaaGreatCbImplPrintCToImplParseT
namespace Go.Proofs.YticdggnnpjachaaGreat
set_option maxRecDepth 100000
set_option maxHeartbeats 3200000
open Go.RowKit Go.PlainAid Go.Sort
theorem zpO {C:Cx} {q:PS} {a:PS×ByteArray} (j:zj C true q= .ok a) (h:isT C a.1.pos 1 sAs=true):zbs C true q=bd (zj C true (adv a.1)) fun b=>.ok (b.1,⟨0,b.2,a.2,sNone⟩):=by
 rw[zbs,j,zz,asP,if_pos h]
theorem zpP {C:Cx} {q:PS} {a:PS×ByteArray} (j:zj C true q= .ok a) (h:isT C a.1.pos 1 sAs=false):zbs C true q= .ok (a.1,⟨0,a.2,a.2,sNone⟩):=by
 rw[zbs,j,zz,asP,if_neg (by rw[h];decide),if_neg (by simp)]
 rfl
theorem zpQ (C:Cx) (z n j o:Nat) (S:Sv) (q:PS) (w:World) (h:IM C z n j o S q w):
  Calls Tryz.prog 177 #[.pointer (some ⟨o,0,none⟩)] w (zjD C z n j o 102 4 (fun e=>epL (zA e)) (zax C true q []) S w):=by
 obtain⟨i0,hi,au,aq,av⟩:=info_parts Tryz.infoExp
 have HH:Hid (IM C z n j o S q w):=h
 clear h
 go_enter Tryz.func177,Tryz.ntmps177
 go_wp2
 go_loopg [3] (C.ts.length+1) (fun k v wr=>∃(S':Sv) (q':PS) (r:Rw) (l:List Ep),v= .slice r.a l.length r.cap∧zax C true q []=zax C true q' l∧C.ts.length-q'.pos<k∧l.length+(C.ts.length-q'.pos)≤C.ts.length∧IM C z n j o S' q' wr∧IS o S w S' wr∧Fr 102 4 wr w.heap.size r l.length (l.flatMap (fun e=>epL (zA e))) S')
 case atStart=>exact⟨S,q,⟨some ⟨w.heap.size,0,none⟩,0⟩,[],rfl,rfl,by omega,by simp,HH.out.alloc _,(IS.refl _ _ _).alloc _,zjE HH.out _ _⟩
 case round=>
  obtain⟨S',q',r,l,rfl,hy,hk,hl,m',s',f'⟩:=hrel
  have aB:Hid (zax C true q []=zax C true q' l):=hy
  have HY:=zc (aB.out.trans (zjh C true q' l))
  have ar:Hid (IM C z n j o S' q' wr):=m'
  have ap:Hid (IS o S w S' wr):=s'
  have aA:Hid (Fr 102 4 wr w.heap.size r l.length (l.flatMap (fun e=>epL (zA e))) S'):=f'
  have aG:=m'.mem.few
  clear hy m' s' f'
  go_wp2_with fail
  refine (zeD C z n j o S' q' _ ar.out).mono ?_
  cases aj:zj C true q' with
  |error p=>
   rintro e w1 ⟨rfl,hb⟩
   have HB:Hid (Below j w w1):=(HH.out.back ap.out).trans hb
   have HX:Hid (zax C true q []= .error p):=by show _=_;rw[HY.out,zbs,aj];rfl
   unfold Pan
   go_wp2
   refine⟨rfl,?_⟩
   rw[HX.out]
   exact⟨rfl,HB.out⟩
  |ok a=>
   rintro e w1 ⟨rfl,A,m,s⟩
   have ai:Hid (IM C z n j o A a.1 w1):=m
   have ak:Hid (IS o S w A w1):=ap.out.trans s
   have ao:Hid (Fr 102 4 w1 w.heap.size r l.length (l.flatMap (fun e=>epL (zA e))) A):=aA.out.step ar.out (by decide) s
   clear m s
   cases ah:isT C a.1.pos 1 sAs with
   |true=>
    have HW:=zc (zpO aj ah)
    go_wp2_with fail
    refine (zK C z n j o A a.1 1 sAs _ ai.out (by decide)).mono ?_
    rintro e w2 ⟨rfl,m,s⟩
    rw[ah] at m ⊢
    have K:Hid (IM C z n j o A (adv a.1) w2):=m
    have ag:Hid (IS o S w A w2):=ak.out.trans s
    have L:Hid (Fr 102 4 w2 w.heap.size r l.length (l.flatMap (fun e=>epL (zA e))) A):=ao.out.step ai.out (by decide) s
    clear m s
    go_wp2_with fail
    refine (zeD C z n j o A (adv a.1) _ K.out).mono ?_
    cases al:zj C true (adv a.1) with
    |error p=>
     rintro e V ⟨rfl,hb⟩
     have HB:Hid (Below j w V):=(HH.out.back ag.out).trans hb
     have HX:Hid (zax C true q []= .error p):=by show _=_;rw[HY.out,HW.out,al];rfl
     unfold Pan
     go_wp2
     refine⟨rfl,?_⟩
     rw[HX.out]
     exact⟨rfl,HB.out⟩
    |ok c=>
     rintro e V ⟨rfl,M,m,s⟩
     have H:Hid (IM C z n j o M c.1 V):=m
     have af:Hid (IS o S w M V):=ag.out.trans s
     have I:Hid (Fr 102 4 V w.heap.size r l.length (l.flatMap (fun e=>epL (zA e))) M):=L.out.step K.out (by decide) s
     clear m s
     have D:=zc (bdO HW.out al)
     have HE:=zc (bdO HY.out D.out)
     have az:=zhf D.out
     have aD:=H.out.mem.inv.pos
     have N:=fun o1=>(I.out.later ((Below.refl V.heap.size V).alloc (Nat.le_refl _) o1)).1
     have ae:=fun o1=>(af.out.alloc o1).size
     go_wp2_with (at_builtin;refine zcu _ rfl _ _ 24 rfl w.heap.size 102 i0 _ 4 56 Tryz.underlying24 hi au aq av rfl (by decide) (by decide) r l.length _ (by rfl) (N _) V.heap.size (epL (zA (⟨0,c.2,a.2,sNone⟩:Ep))) (by rfl) (by exact heap_alloc_new V _) rfl (zeG _) (by omega) (ae _) ?_;intro Q w4 hr U ab;have J:Hid (IM C z n j o M c.1 w4):=(H.out.alloc _).aside U (fun k g=>⟨I.out.2 k g,I.out.ngp H.out (by decide) g,I.out.ngt H.out (by decide) g⟩);have O:Hid (IS o S w M w4):=(af.out.alloc _).aside U (fun k g=>(I.out.1.typed g).1);have ad:Hid (Fr 102 4 w4 w.heap.size Q (l.length+1) _ M):=(I.out.later ((Below.refl _ _).alloc (Nat.le_refl _) _)).grown (H.out.alloc _) hr ab;clear hr U ab N ae)
     have el:(l++[(⟨0,c.2,a.2,sNone⟩:Ep)]).length=l.length+1:=by simp
     have Y:Hid (Fr 102 4 w4 w.heap.size Q (l++[(⟨0,c.2,a.2,sNone⟩:Ep)]).length ((l++[(⟨0,c.2,a.2,sNone⟩:Ep)]).flatMap (fun e=>epL (zA e))) M):=by
      show Fr ..
      rw[el,List.flatMap_append]
      simpa using ad.out
     have E:Hid ((l++[(⟨0,c.2,a.2,sNone⟩:Ep)]).length=l.length+1):=el
     clear el ad
     go_wp2_with fail
     cases hc:isT C c.1.pos 4 zbw with
     |true=>
      have aC:=za1 hc (by decide)
      have HC:=zc (HE.out.trans (if_pos hc))
      refine (zK C z n j o M (c.1) 4 zbw _ J.out (by decide)).mono ?_
      rintro e X ⟨rfl,m,s⟩
      rw[hc] at m ⊢
      have Z:Hid (IM C z n j o M (adv (c.1)) X):=m
      have aa:Hid (IS o S w M X):=O.out.trans s
      have ac:Hid (Fr 102 4 X w.heap.size Q (l++[(⟨0,c.2,a.2,sNone⟩:Ep)]).length ((l++[(⟨0,c.2,a.2,sNone⟩:Ep)]).flatMap (fun e=>epL (zA e))) M):=Y.out.step J.out (by decide) s
      clear m s
      go_wp2
      go_roundg (gk-1)
      case rel=>exact⟨M,adv c.1,Q,(l++[(⟨0,c.2,a.2,sNone⟩:Ep)]),by rw[E.out],HC.out,by rw[zx];omega,by rw[zx,E.out];omega,Z.out,aa.out,ac.out⟩
      case measure=>omega
     |false=>
      have HC:=zc (HE.out.trans (if_neg (by rw[hc];decide)))
      refine (zK C z n j o M (c.1) 4 zbw _ J.out (by decide)).mono ?_
      rintro e X ⟨rfl,m,s⟩
      rw[hc] at m ⊢
      have Z:Hid (IM C z n j o M (c.1) X):=m
      have aa:Hid (IS o S w M X):=O.out.trans s
      have ac:Hid (Fr 102 4 X w.heap.size Q (l++[(⟨0,c.2,a.2,sNone⟩:Ep)]).length ((l++[(⟨0,c.2,a.2,sNone⟩:Ep)]).flatMap (fun e=>epL (zA e))) M):=Y.out.step J.out (by decide) s
      clear m s
      go_wp2_with fail
      refine (zbX C z n j o M c.1 125 _ Z.out).mono ?_
      cases an:zd C 4 zbm c.1 with
      |error p=>
       rintro e w6 ⟨rfl,hb⟩
       have HB:Hid (Below j w w6):=(HH.out.back aa.out).trans hb
       have HX:Hid (zax C true q []= .error p):=bdE HC.out an
       unfold Pan
       go_wp2
       refine⟨rfl,?_⟩
       rw[HX.out]
       exact⟨rfl,HB.out⟩
      |ok a6=>
       rintro e w6 ⟨rfl,S6,m,s⟩
       have ay:Hid (Fr 102 4 w6 w.heap.size Q (l++[(⟨0,c.2,a.2,sNone⟩:Ep)]).length ((l++[(⟨0,c.2,a.2,sNone⟩:Ep)]).flatMap (fun e=>epL (zA e))) S6):=ac.out.step Z.out (by decide) s
       have aE:Hid (IM C z n j o S6 a6 w6):=m
       have ax:Hid (IS o S w S6 w6):=aa.out.trans s
       clear m s
       have aw:=zc (bdO HC.out an)
       go_wp2
       go_ret
       rw[aw.out]
       exact⟨Q,S6,by rw[E.out];rfl,aE.out,ax.out,ay.out,by show 0<(l++[(⟨0,c.2,a.2,sNone⟩:Ep)]).length;rw[E.out];omega,by show (l++[(⟨0,c.2,a.2,sNone⟩:Ep)]).length≤4000;rw[E.out];omega⟩
   |false=>
    have D:=zc (zpP aj ah)
    have HE:=zc (bdO HY.out D.out)
    go_wp2_with fail
    refine (zK C z n j o A a.1 1 sAs _ ai.out (by decide)).mono ?_
    rintro e w2 ⟨rfl,m,s⟩
    rw[ah] at m ⊢
    have K:Hid (IM C z n j o A a.1 w2):=m
    have ag:Hid (IS o S w A w2):=ak.out.trans s
    have L:Hid (Fr 102 4 w2 w.heap.size r l.length (l.flatMap (fun e=>epL (zA e))) A):=ao.out.step ai.out (by decide) s
    clear m s
    have az:=zhf D.out
    have aD:=K.out.mem.inv.pos
    have N:=fun o1=>(L.out.later ((Below.refl w2.heap.size w2).alloc (Nat.le_refl _) o1)).1
    have ae:=fun o1=>(ag.out.alloc o1).size
    go_wp2_with (at_builtin;refine zcu _ rfl _ _ 24 rfl w.heap.size 102 i0 _ 4 56 Tryz.underlying24 hi au aq av rfl (by decide) (by decide) r l.length _ (by rfl) (N _) w2.heap.size (epL (zA (⟨0,a.2,a.2,sNone⟩:Ep))) (by rfl) (by exact heap_alloc_new w2 _) rfl (zeG _) (by omega) (ae _) ?_;intro Q V hr U ab;have H:Hid (IM C z n j o A a.1 V):=(K.out.alloc _).aside U (fun k g=>⟨L.out.2 k g,L.out.ngp K.out (by decide) g,L.out.ngt K.out (by decide) g⟩);have af:Hid (IS o S w A V):=(ag.out.alloc _).aside U (fun k g=>(L.out.1.typed g).1);have ad:Hid (Fr 102 4 V w.heap.size Q (l.length+1) _ A):=(L.out.later ((Below.refl _ _).alloc (Nat.le_refl _) _)).grown (K.out.alloc _) hr ab;clear hr U ab N ae)
    have el:(l++[(⟨0,a.2,a.2,sNone⟩:Ep)]).length=l.length+1:=by simp
    have I:Hid (Fr 102 4 V w.heap.size Q (l++[(⟨0,a.2,a.2,sNone⟩:Ep)]).length ((l++[(⟨0,a.2,a.2,sNone⟩:Ep)]).flatMap (fun e=>epL (zA e))) A):=by
     show Fr ..
     rw[el,List.flatMap_append]
     simpa using ad.out
    have E:Hid ((l++[(⟨0,a.2,a.2,sNone⟩:Ep)]).length=l.length+1):=el
    clear el ad
    go_wp2_with fail
    cases hc:isT C a.1.pos 4 zbw with
    |true=>
     have aC:=za1 hc (by decide)
     have HC:=zc (HE.out.trans (if_pos hc))
     refine (zK C z n j o A (a.1) 4 zbw _ H.out (by decide)).mono ?_
     rintro e w4 ⟨rfl,m,s⟩
     rw[hc] at m ⊢
     have J:Hid (IM C z n j o A (adv (a.1)) w4):=m
     have O:Hid (IS o S w A w4):=af.out.trans s
     have Y:Hid (Fr 102 4 w4 w.heap.size Q (l++[(⟨0,a.2,a.2,sNone⟩:Ep)]).length ((l++[(⟨0,a.2,a.2,sNone⟩:Ep)]).flatMap (fun e=>epL (zA e))) A):=I.out.step H.out (by decide) s
     clear m s
     go_wp2
     go_roundg (gk-1)
     case rel=>exact⟨A,adv a.1,Q,(l++[(⟨0,a.2,a.2,sNone⟩:Ep)]),by rw[E.out],HC.out,by rw[zx];omega,by rw[zx,E.out];omega,J.out,O.out,Y.out⟩
     case measure=>omega
    |false=>
     have HC:=zc (HE.out.trans (if_neg (by rw[hc];decide)))
     refine (zK C z n j o A (a.1) 4 zbw _ H.out (by decide)).mono ?_
     rintro e w4 ⟨rfl,m,s⟩
     rw[hc] at m ⊢
     have J:Hid (IM C z n j o A (a.1) w4):=m
     have O:Hid (IS o S w A w4):=af.out.trans s
     have Y:Hid (Fr 102 4 w4 w.heap.size Q (l++[(⟨0,a.2,a.2,sNone⟩:Ep)]).length ((l++[(⟨0,a.2,a.2,sNone⟩:Ep)]).flatMap (fun e=>epL (zA e))) A):=I.out.step H.out (by decide) s
     clear m s
     go_wp2_with fail
     refine (zbX C z n j o A a.1 125 _ J.out).mono ?_
     cases am:zd C 4 zbm a.1 with
     |error p=>
      rintro e X ⟨rfl,hb⟩
      have HB:Hid (Below j w X):=(HH.out.back O.out).trans hb
      have HX:Hid (zax C true q []= .error p):=bdE HC.out am
      unfold Pan
      go_wp2
      refine⟨rfl,?_⟩
      rw[HX.out]
      exact⟨rfl,HB.out⟩
     |ok a5=>
      rintro e X ⟨rfl,S5,m,s⟩
      have ac:Hid (Fr 102 4 X w.heap.size Q (l++[(⟨0,a.2,a.2,sNone⟩:Ep)]).length ((l++[(⟨0,a.2,a.2,sNone⟩:Ep)]).flatMap (fun e=>epL (zA e))) S5):=Y.out.step J.out (by decide) s
      have Z:Hid (IM C z n j o S5 a5 X):=m
      have aa:Hid (IS o S w S5 X):=O.out.trans s
      clear m s
      have aF:=zc (bdO HC.out am)
      go_wp2
      go_ret
      rw[aF.out]
      exact⟨Q,S5,by rw[E.out];rfl,Z.out,aa.out,ac.out,by show 0<(l++[(⟨0,a.2,a.2,sNone⟩:Ep)]).length;rw[E.out];omega,by show (l++[(⟨0,a.2,a.2,sNone⟩:Ep)]).length≤4000;rw[E.out];omega⟩
end Go.Proofs.YticdggnnpjachaaGreat