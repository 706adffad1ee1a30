/-
 What exportList of impl's parser answers: the walk.
-/
import Derived.Test.YticdggnnpjachaaGreatCcImplPrintCToImplParseT
namespace Go.Proofs.YticdggnnpjachaaGreat
set_option maxRecDepth 100000
set_option maxHeartbeats 3200000
open Go.RowKit Go.PlainAid Go.Sort
theorem zmV {C:Cx} {q:PS} {a:PS×ByteArray} (j:zh C true q= .ok a) (h:isT C a.1.pos 1 sAs=true):zbl C true q=bd (zh C true (adv a.1)) fun b=>.ok (b.1,⟨0,b.2,a.2,sNone⟩):=by
 rw[zbl,j,zx,asP,if_pos h]
theorem zmW {C:Cx} {q:PS} {a:PS×ByteArray} (j:zh C true q= .ok a) (h:isT C a.1.pos 1 sAs=false):zbl C true q= .ok (a.1,⟨0,a.2,a.2,sNone⟩):=by
 rw[zbl,j,zx,asP,if_neg (by rw[h];decide),if_neg (by simp)]
 rfl
theorem zmX (C:Cx) (z n j o:Nat) (S:Sv) (q:PS) (w:World) (h:IM C z n j o S q w):
  Calls Tryz.prog 177 #[.pointer (some ⟨o,0,none⟩)] w (ziw C z n j o 102 4 (fun e=>epL (zz e)) (zav C true q []) S w):=by
 obtain⟨i0,hi,ao,ap,al⟩:=info_parts Tryz.infoExp
 have HH:Hid (IM C z n j o S q w):=h
 clear h
 go_enter Tryz.func177,Tryz.ntmps177
 go_wp2
 go_loopg [3] (C.ts.length+1) (fun k v wr=>∃(S':Sv) (q':PS) (r:Rw) (l:List Ep),v= .slice r.a l.length r.cap∧zav C true q []=zav C true q' l∧C.ts.length-q'.pos<k∧l.length+(C.ts.length-q'.pos)≤C.ts.length∧IM C z n j o S' q' wr∧IS o S w S' wr∧Fr 102 4 wr w.heap.size r l.length (l.flatMap (fun e=>epL (zz e))) S')
 case atStart=>exact⟨S,q,⟨some ⟨w.heap.size,0,none⟩,0⟩,[],rfl,rfl,by omega,by simp,HH.out.alloc _,(IS.refl _ _ _).alloc _,zix HH.out _ _⟩
 case round=>
  obtain⟨S',q',r,l,rfl,hy,hk,hl,m',s',f'⟩:=hrel
  have aF:Hid (zav C true q []=zav C true q' l):=hy
  have HY:=zc (aF.out.trans (zhQ C true q' l))
  have am:Hid (IM C z n j o S' q' wr):=m'
  have aw:Hid (IS o S w S' wr):=s'
  have ax:Hid (Fr 102 4 wr w.heap.size r l.length (l.flatMap (fun e=>epL (zz e))) S'):=f'
  have aH:=m'.mem.few
  clear hy m' s' f'
  go_wp2_with fail
  refine (zep C z n j o S' q' _ am.out).mono ?_
  cases ak:zh C true q' with
  |error p=>
   rintro e w1 ⟨rfl,hb⟩
   have HB:Hid (Below j w w1):=(HH.out.back aw.out).trans hb
   have HX:Hid (zav C true q []= .error p):=by show _=_;rw[HY.out,zbl,ak];rfl
   unfold Pan
   go_wp2
   refine⟨rfl,?_⟩
   rw[HX.out]
   exact⟨rfl,HB.out⟩
  |ok a=>
   rintro e w1 ⟨rfl,A,m,s⟩
   have ai:Hid (IM C z n j o A a.1 w1):=m
   have aq:Hid (IS o S w A w1):=aw.out.trans s
   have ar:Hid (Fr 102 4 w1 w.heap.size r l.length (l.flatMap (fun e=>epL (zz e))) A):=ax.out.step am.out (by decide) s
   clear m s
   cases aj:isT C a.1.pos 1 sAs with
   |true=>
    have HW:=zc (zmV ak aj)
    go_wp2_with fail
    refine (zH C z n j o A a.1 1 sAs _ ai.out (by decide)).mono ?_
    rintro e w2 ⟨rfl,m,s⟩
    rw[aj] at m ⊢
    have M:Hid (IM C z n j o A (adv a.1) w2):=m
    have ah:Hid (IS o S w A w2):=aq.out.trans s
    have K:Hid (Fr 102 4 w2 w.heap.size r l.length (l.flatMap (fun e=>epL (zz e))) A):=ar.out.step ai.out (by decide) s
    clear m s
    go_wp2_with fail
    refine (zep C z n j o A (adv a.1) _ M.out).mono ?_
    cases an:zh C true (adv a.1) with
    |error p=>
     rintro e X ⟨rfl,hb⟩
     have HB:Hid (Below j w X):=(HH.out.back ah.out).trans hb
     have HX:Hid (zav C true q []= .error p):=by show _=_;rw[HY.out,HW.out,an];rfl
     unfold Pan
     go_wp2
     refine⟨rfl,?_⟩
     rw[HX.out]
     exact⟨rfl,HB.out⟩
    |ok c=>
     rintro e X ⟨rfl,L,m,s⟩
     have H:Hid (IM C z n j o L c.1 X):=m
     have ae:Hid (IS o S w L X):=ah.out.trans s
     have I:Hid (Fr 102 4 X w.heap.size r l.length (l.flatMap (fun e=>epL (zz e))) L):=K.out.step M.out (by decide) s
     clear m s
     have E:=zc (bdO HW.out an)
     have HE:=zc (bdO HY.out E.out)
     have aA:=zgh E.out
     have aB:=H.out.mem.inv.pos
     have N:=fun o1=>(I.out.later ((Below.refl X.heap.size X).alloc (Nat.le_refl _) o1)).1
     have af:=fun o1=>(ae.out.alloc o1).size
     go_wp2_with (at_builtin;refine zcl _ rfl _ _ 24 rfl w.heap.size 102 i0 _ 4 56 Tryz.underlying24 hi ao ap al rfl (by decide) (by decide) r l.length _ (by rfl) (N _) X.heap.size (epL (zz (⟨0,c.2,a.2,sNone⟩:Ep))) (by rfl) (by exact heap_alloc_new X _) rfl (zeZ _) (by omega) (af _) ?_;intro U w4 hr O ag;have J:Hid (IM C z n j o L c.1 w4):=(H.out.alloc _).aside O (fun k g=>⟨I.out.2 k g,I.out.ngp H.out (by decide) g,I.out.ngt H.out (by decide) g⟩);have V:Hid (IS o S w L w4):=(ae.out.alloc _).aside O (fun k g=>(I.out.1.typed g).1);have ad:Hid (Fr 102 4 w4 w.heap.size U (l.length+1) _ L):=(I.out.later ((Below.refl _ _).alloc (Nat.le_refl _) _)).grown (H.out.alloc _) hr ag;clear hr O ag N af)
     have el:(l++[(⟨0,c.2,a.2,sNone⟩:Ep)]).length=l.length+1:=by simp
     have ab:Hid (Fr 102 4 w4 w.heap.size U (l++[(⟨0,c.2,a.2,sNone⟩:Ep)]).length ((l++[(⟨0,c.2,a.2,sNone⟩:Ep)]).flatMap (fun e=>epL (zz e))) L):=by
      show Fr ..
      rw[el,List.flatMap_append]
      simpa using ad.out
     have D:Hid ((l++[(⟨0,c.2,a.2,sNone⟩:Ep)]).length=l.length+1):=el
     clear el ad
     go_wp2_with fail
     cases hc:isT C c.1.pos 4 zbp with
     |true=>
      have aD:=zaz hc (by decide)
      have HC:=zc (HE.out.trans (if_pos hc))
      refine (zH C z n j o L (c.1) 4 zbp _ J.out (by decide)).mono ?_
      rintro e Z ⟨rfl,m,s⟩
      rw[hc] at m ⊢
      have aa:Hid (IM C z n j o L (adv (c.1)) Z):=m
      have Y:Hid (IS o S w L Z):=V.out.trans s
      have ac:Hid (Fr 102 4 Z w.heap.size U (l++[(⟨0,c.2,a.2,sNone⟩:Ep)]).length ((l++[(⟨0,c.2,a.2,sNone⟩:Ep)]).flatMap (fun e=>epL (zz e))) L):=ab.out.step J.out (by decide) s
      clear m s
      go_wp2
      go_roundg (gk-1)
      case rel=>exact⟨L,adv c.1,U,(l++[(⟨0,c.2,a.2,sNone⟩:Ep)]),by rw[D.out],HC.out,by rw[zw];omega,by rw[zw,D.out];omega,aa.out,Y.out,ac.out⟩
      case measure=>omega
     |false=>
      have HC:=zc (HE.out.trans (if_neg (by rw[hc];decide)))
      refine (zH C z n j o L (c.1) 4 zbp _ J.out (by decide)).mono ?_
      rintro e Z ⟨rfl,m,s⟩
      rw[hc] at m ⊢
      have aa:Hid (IM C z n j o L (c.1) Z):=m
      have Y:Hid (IS o S w L Z):=V.out.trans s
      have ac:Hid (Fr 102 4 Z w.heap.size U (l++[(⟨0,c.2,a.2,sNone⟩:Ep)]).length ((l++[(⟨0,c.2,a.2,sNone⟩:Ep)]).flatMap (fun e=>epL (zz e))) L):=ab.out.step J.out (by decide) s
      clear m s
      go_wp2_with fail
      refine (zbQ C z n j o L c.1 125 _ aa.out).mono ?_
      cases av:zd C 4 zbd c.1 with
      |error p=>
       rintro e w6 ⟨rfl,hb⟩
       have HB:Hid (Below j w w6):=(HH.out.back Y.out).trans hb
       have HX:Hid (zav C true q []= .error p):=bdE HC.out av
       unfold Pan
       go_wp2
       refine⟨rfl,?_⟩
       rw[HX.out]
       exact⟨rfl,HB.out⟩
      |ok a6=>
       rintro e w6 ⟨rfl,S6,m,s⟩
       have aG:Hid (Fr 102 4 w6 w.heap.size U (l++[(⟨0,c.2,a.2,sNone⟩:Ep)]).length ((l++[(⟨0,c.2,a.2,sNone⟩:Ep)]).flatMap (fun e=>epL (zz e))) S6):=ac.out.step aa.out (by decide) s
       have ay:Hid (IM C z n j o S6 a6 w6):=m
       have az:Hid (IS o S w S6 w6):=Y.out.trans s
       clear m s
       have aE:=zc (bdO HC.out av)
       go_wp2
       go_ret
       rw[aE.out]
       exact⟨U,S6,by rw[D.out];rfl,ay.out,az.out,aG.out,by show 0<(l++[(⟨0,c.2,a.2,sNone⟩:Ep)]).length;rw[D.out];omega,by show (l++[(⟨0,c.2,a.2,sNone⟩:Ep)]).length≤4000;rw[D.out];omega⟩
   |false=>
    have E:=zc (zmW ak aj)
    have HE:=zc (bdO HY.out E.out)
    go_wp2_with fail
    refine (zH C z n j o A a.1 1 sAs _ ai.out (by decide)).mono ?_
    rintro e w2 ⟨rfl,m,s⟩
    rw[aj] at m ⊢
    have M:Hid (IM C z n j o A a.1 w2):=m
    have ah:Hid (IS o S w A w2):=aq.out.trans s
    have K:Hid (Fr 102 4 w2 w.heap.size r l.length (l.flatMap (fun e=>epL (zz e))) A):=ar.out.step ai.out (by decide) s
    clear m s
    have aA:=zgh E.out
    have aB:=M.out.mem.inv.pos
    have N:=fun o1=>(K.out.later ((Below.refl w2.heap.size w2).alloc (Nat.le_refl _) o1)).1
    have af:=fun o1=>(ah.out.alloc o1).size
    go_wp2_with (at_builtin;refine zcl _ rfl _ _ 24 rfl w.heap.size 102 i0 _ 4 56 Tryz.underlying24 hi ao ap al rfl (by decide) (by decide) r l.length _ (by rfl) (N _) w2.heap.size (epL (zz (⟨0,a.2,a.2,sNone⟩:Ep))) (by rfl) (by exact heap_alloc_new w2 _) rfl (zeZ _) (by omega) (af _) ?_;intro U X hr O ag;have H:Hid (IM C z n j o A a.1 X):=(M.out.alloc _).aside O (fun k g=>⟨K.out.2 k g,K.out.ngp M.out (by decide) g,K.out.ngt M.out (by decide) g⟩);have ae:Hid (IS o S w A X):=(ah.out.alloc _).aside O (fun k g=>(K.out.1.typed g).1);have ad:Hid (Fr 102 4 X w.heap.size U (l.length+1) _ A):=(K.out.later ((Below.refl _ _).alloc (Nat.le_refl _) _)).grown (M.out.alloc _) hr ag;clear hr O ag N af)
    have el:(l++[(⟨0,a.2,a.2,sNone⟩:Ep)]).length=l.length+1:=by simp
    have I:Hid (Fr 102 4 X w.heap.size U (l++[(⟨0,a.2,a.2,sNone⟩:Ep)]).length ((l++[(⟨0,a.2,a.2,sNone⟩:Ep)]).flatMap (fun e=>epL (zz e))) A):=by
     show Fr ..
     rw[el,List.flatMap_append]
     simpa using ad.out
    have D:Hid ((l++[(⟨0,a.2,a.2,sNone⟩:Ep)]).length=l.length+1):=el
    clear el ad
    go_wp2_with fail
    cases hc:isT C a.1.pos 4 zbp with
    |true=>
     have aD:=zaz hc (by decide)
     have HC:=zc (HE.out.trans (if_pos hc))
     refine (zH C z n j o A (a.1) 4 zbp _ H.out (by decide)).mono ?_
     rintro e w4 ⟨rfl,m,s⟩
     rw[hc] at m ⊢
     have J:Hid (IM C z n j o A (adv (a.1)) w4):=m
     have V:Hid (IS o S w A w4):=ae.out.trans s
     have ab:Hid (Fr 102 4 w4 w.heap.size U (l++[(⟨0,a.2,a.2,sNone⟩:Ep)]).length ((l++[(⟨0,a.2,a.2,sNone⟩:Ep)]).flatMap (fun e=>epL (zz e))) A):=I.out.step H.out (by decide) s
     clear m s
     go_wp2
     go_roundg (gk-1)
     case rel=>exact⟨A,adv a.1,U,(l++[(⟨0,a.2,a.2,sNone⟩:Ep)]),by rw[D.out],HC.out,by rw[zw];omega,by rw[zw,D.out];omega,J.out,V.out,ab.out⟩
     case measure=>omega
    |false=>
     have HC:=zc (HE.out.trans (if_neg (by rw[hc];decide)))
     refine (zH C z n j o A (a.1) 4 zbp _ H.out (by decide)).mono ?_
     rintro e w4 ⟨rfl,m,s⟩
     rw[hc] at m ⊢
     have J:Hid (IM C z n j o A (a.1) w4):=m
     have V:Hid (IS o S w A w4):=ae.out.trans s
     have ab:Hid (Fr 102 4 w4 w.heap.size U (l++[(⟨0,a.2,a.2,sNone⟩:Ep)]).length ((l++[(⟨0,a.2,a.2,sNone⟩:Ep)]).flatMap (fun e=>epL (zz e))) A):=I.out.step H.out (by decide) s
     clear m s
     go_wp2_with fail
     refine (zbQ C z n j o A a.1 125 _ J.out).mono ?_
     cases au:zd C 4 zbd a.1 with
     |error p=>
      rintro e Z ⟨rfl,hb⟩
      have HB:Hid (Below j w Z):=(HH.out.back V.out).trans hb
      have HX:Hid (zav C true q []= .error p):=bdE HC.out au
      unfold Pan
      go_wp2
      refine⟨rfl,?_⟩
      rw[HX.out]
      exact⟨rfl,HB.out⟩
     |ok a5=>
      rintro e Z ⟨rfl,S5,m,s⟩
      have ac:Hid (Fr 102 4 Z w.heap.size U (l++[(⟨0,a.2,a.2,sNone⟩:Ep)]).length ((l++[(⟨0,a.2,a.2,sNone⟩:Ep)]).flatMap (fun e=>epL (zz e))) S5):=ab.out.step J.out (by decide) s
      have aa:Hid (IM C z n j o S5 a5 Z):=m
      have Y:Hid (IS o S w S5 Z):=V.out.trans s
      clear m s
      have aC:=zc (bdO HC.out au)
      go_wp2
      go_ret
      rw[aC.out]
      exact⟨U,S5,by rw[D.out];rfl,aa.out,Y.out,ac.out,by show 0<(l++[(⟨0,a.2,a.2,sNone⟩:Ep)]).length;rw[D.out];omega,by show (l++[(⟨0,a.2,a.2,sNone⟩:Ep)]).length≤4000;rw[D.out];omega⟩
end Go.Proofs.YticdggnnpjachaaGreat