/-
 What exportList of impl's parser answers: the walk.
-/
import Derived.Test.YticdggnnpjachaaGreatCcImplPrintCToImplParseT
namespace Go.Proofs.YticdggnnpjachaaGreat
set_option maxRecDepth 100000
set_option maxHeartbeats 3200000
open Go.RowKit Go.PlainAid Go.Sort
theorem zmV {C:Cx} {q:PS} {a:PS×ByteArray} (j:zh C true q= .ok a) (h:isT C a.1.pos 1 sAs=true):zbl C true q=bd (zh C true (adv a.1)) fun b=>.ok (b.1,⟨0,b.2,a.2,sNone⟩):=by
 rw[zbl,j,zx,asP,if_pos h]
theorem zmW {C:Cx} {q:PS} {a:PS×ByteArray} (j:zh C true q= .ok a) (h:isT C a.1.pos 1 sAs=false):zbl C true q= .ok (a.1,⟨0,a.2,a.2,sNone⟩):=by
 rw[zbl,j,zx,asP,if_neg (by rw[h];decide),if_neg (by simp)]
 rfl
theorem zmX (C:Cx) (z n j o:Nat) (S:Sv) (q:PS) (w:World) (h:IM C z n j o S q w):
  Calls Tryz.prog 177 #[.pointer (some ⟨o,0,none⟩)] w (ziw C z n j o 102 4 (fun e=>epL (zz e)) (zav C true q []) S w):=by
 obtain⟨i0,hi,aq,ar,aw⟩:=info_parts Tryz.infoExp
 have HH:Hid (IM C z n j o S q w):=h
 clear h
 go_enter Tryz.func177,Tryz.ntmps177
 go_wp2
 go_loopg [3] (C.ts.length+1) (fun k v wr=>∃(S':Sv) (q':PS) (r:Rw) (l:List Ep),v= .slice r.a l.length r.cap∧zav C true q []=zav C true q' l∧C.ts.length-q'.pos<k∧l.length+(C.ts.length-q'.pos)≤C.ts.length∧IM C z n j o S' q' wr∧IS o S w S' wr∧Fr 102 4 wr w.heap.size r l.length (l.flatMap (fun e=>epL (zz e))) S')
 case atStart=>exact⟨S,q,⟨some ⟨w.heap.size,0,none⟩,0⟩,[],rfl,rfl,by omega,by simp,HH.out.alloc _,(IS.refl _ _ _).alloc _,zix HH.out _ _⟩
 case round=>
  obtain⟨S',q',r,l,rfl,hy,hk,hl,m',s',f'⟩:=hrel
  have aE:Hid (zav C true q []=zav C true q' l):=hy
  have HY:=zc (aE.out.trans (zhQ C true q' l))
  have ao:Hid (IM C z n j o S' q' wr):=m'
  have al:Hid (IS o S w S' wr):=s'
  have aA:Hid (Fr 102 4 wr w.heap.size r l.length (l.flatMap (fun e=>epL (zz e))) S'):=f'
  have aH:=m'.mem.few
  clear hy m' s' f'
  go_wp2_with fail
  refine (zep C z n j o S' q' _ ao.out).mono ?_
  cases ak:zh C true q' with
  |error p=>
   rintro e w1 ⟨rfl,hb⟩
   have HB:Hid (Below j w w1):=(HH.out.back al.out).trans hb
   have HX:Hid (zav C true q []= .error p):=by show _=_;rw[HY.out,zbl,ak];rfl
   unfold Pan
   go_wp2
   refine⟨rfl,?_⟩
   rw[HX.out]
   exact⟨rfl,HB.out⟩
  |ok a=>
   rintro e w1 ⟨rfl,A,m,s⟩
   have aj:Hid (IM C z n j o A a.1 w1):=m
   have au:Hid (IS o S w A w1):=al.out.trans s
   have ap:Hid (Fr 102 4 w1 w.heap.size r l.length (l.flatMap (fun e=>epL (zz e))) A):=aA.out.step ao.out (by decide) s
   clear m s
   cases ai:isT C a.1.pos 1 sAs with
   |true=>
    have HW:=zc (zmV ak ai)
    go_wp2_with fail
    refine (zH C z n j o A a.1 1 sAs _ aj.out (by decide)).mono ?_
    rintro e w2 ⟨rfl,m,s⟩
    rw[ai] at m ⊢
    have K:Hid (IM C z n j o A (adv a.1) w2):=m
    have ad:Hid (IS o S w A w2):=au.out.trans s
    have M:Hid (Fr 102 4 w2 w.heap.size r l.length (l.flatMap (fun e=>epL (zz e))) A):=ap.out.step aj.out (by decide) s
    clear m s
    go_wp2_with fail
    refine (zep C z n j o A (adv a.1) _ K.out).mono ?_
    cases an:zh C true (adv a.1) with
    |error p=>
     rintro e X ⟨rfl,hb⟩
     have HB:Hid (Below j w X):=(HH.out.back ad.out).trans hb
     have HX:Hid (zav C true q []= .error p):=by show _=_;rw[HY.out,HW.out,an];rfl
     unfold Pan
     go_wp2
     refine⟨rfl,?_⟩
     rw[HX.out]
     exact⟨rfl,HB.out⟩
    |ok c=>
     rintro e X ⟨rfl,L,m,s⟩
     have H:Hid (IM C z n j o L c.1 X):=m
     have ag:Hid (IS o S w L X):=ad.out.trans s
     have I:Hid (Fr 102 4 X w.heap.size r l.length (l.flatMap (fun e=>epL (zz e))) L):=M.out.step K.out (by decide) s
     clear m s
     have E:=zc (bdO HW.out an)
     have HE:=zc (bdO HY.out E.out)
     have aC:=zgh E.out
     have ax:=H.out.mem.inv.pos
     have N:=fun o1=>(I.out.later ((Below.refl X.heap.size X).alloc (Nat.le_refl _) o1)).1
     have ac:=fun o1=>(ag.out.alloc o1).size
     go_wp2_with (at_builtin;refine zcl _ rfl _ _ 24 rfl w.heap.size 102 i0 _ 4 56 Tryz.underlying24 hi aq ar aw rfl (by decide) (by decide) r l.length _ (by rfl) (N _) X.heap.size (epL (zz (⟨0,c.2,a.2,sNone⟩:Ep))) (by rfl) (by exact heap_alloc_new X _) rfl (zeZ _) (by omega) (ac _) ?_;intro U w4 hr O ae;have J:Hid (IM C z n j o L c.1 w4):=(H.out.alloc _).aside O (fun k g=>⟨I.out.2 k g,I.out.ngp H.out (by decide) g,I.out.ngt H.out (by decide) g⟩);have V:Hid (IS o S w L w4):=(ag.out.alloc _).aside O (fun k g=>(I.out.1.typed g).1);have ah:Hid (Fr 102 4 w4 w.heap.size U (l.length+1) _ L):=(I.out.later ((Below.refl _ _).alloc (Nat.le_refl _) _)).grown (H.out.alloc _) hr ae;clear hr O ae N ac)
     have el:(l++[(⟨0,c.2,a.2,sNone⟩:Ep)]).length=l.length+1:=by simp
     have aa:Hid (Fr 102 4 w4 w.heap.size U (l++[(⟨0,c.2,a.2,sNone⟩:Ep)]).length ((l++[(⟨0,c.2,a.2,sNone⟩:Ep)]).flatMap (fun e=>epL (zz e))) L):=by
      show Fr ..
      rw[el,List.flatMap_append]
      simpa using ah.out
     have D:Hid ((l++[(⟨0,c.2,a.2,sNone⟩:Ep)]).length=l.length+1):=el
     clear el ah
     go_wp2_with fail
     cases hc:isT C c.1.pos 4 zbp with
     |true=>
      have ay:=zaz hc (by decide)
      have HC:=zc (HE.out.trans (if_pos hc))
      refine (zH C z n j o L (c.1) 4 zbp _ J.out (by decide)).mono ?_
      rintro e Y ⟨rfl,m,s⟩
      rw[hc] at m ⊢
      have Z:Hid (IM C z n j o L (adv (c.1)) Y):=m
      have ab:Hid (IS o S w L Y):=V.out.trans s
      have af:Hid (Fr 102 4 Y w.heap.size U (l++[(⟨0,c.2,a.2,sNone⟩:Ep)]).length ((l++[(⟨0,c.2,a.2,sNone⟩:Ep)]).flatMap (fun e=>epL (zz e))) L):=aa.out.step J.out (by decide) s
      clear m s
      go_wp2
      go_roundg (gk-1)
      case rel=>exact⟨L,adv c.1,U,(l++[(⟨0,c.2,a.2,sNone⟩:Ep)]),by rw[D.out],HC.out,by rw[zw];omega,by rw[zw,D.out];omega,Z.out,ab.out,af.out⟩
      case measure=>omega
     |false=>
      have HC:=zc (HE.out.trans (if_neg (by rw[hc];decide)))
      refine (zH C z n j o L (c.1) 4 zbp _ J.out (by decide)).mono ?_
      rintro e Y ⟨rfl,m,s⟩
      rw[hc] at m ⊢
      have Z:Hid (IM C z n j o L (c.1) Y):=m
      have ab:Hid (IS o S w L Y):=V.out.trans s
      have af:Hid (Fr 102 4 Y w.heap.size U (l++[(⟨0,c.2,a.2,sNone⟩:Ep)]).length ((l++[(⟨0,c.2,a.2,sNone⟩:Ep)]).flatMap (fun e=>epL (zz e))) L):=aa.out.step J.out (by decide) s
      clear m s
      go_wp2_with fail
      refine (zbQ C z n j o L c.1 125 _ Z.out).mono ?_
      cases av:zd C 4 zbd c.1 with
      |error p=>
       rintro e w6 ⟨rfl,hb⟩
       have HB:Hid (Below j w w6):=(HH.out.back ab.out).trans hb
       have HX:Hid (zav C true q []= .error p):=bdE HC.out av
       unfold Pan
       go_wp2
       refine⟨rfl,?_⟩
       rw[HX.out]
       exact⟨rfl,HB.out⟩
      |ok a6=>
       rintro e w6 ⟨rfl,S6,m,s⟩
       have az:Hid (Fr 102 4 w6 w.heap.size U (l++[(⟨0,c.2,a.2,sNone⟩:Ep)]).length ((l++[(⟨0,c.2,a.2,sNone⟩:Ep)]).flatMap (fun e=>epL (zz e))) S6):=af.out.step Z.out (by decide) s
       have aF:Hid (IM C z n j o S6 a6 w6):=m
       have aB:Hid (IS o S w S6 w6):=ab.out.trans s
       clear m s
       have aD:=zc (bdO HC.out av)
       go_wp2
       go_ret
       rw[aD.out]
       exact⟨U,S6,by rw[D.out];rfl,aF.out,aB.out,az.out,by show 0<(l++[(⟨0,c.2,a.2,sNone⟩:Ep)]).length;rw[D.out];omega,by show (l++[(⟨0,c.2,a.2,sNone⟩:Ep)]).length≤4000;rw[D.out];omega⟩
   |false=>
    have E:=zc (zmW ak ai)
    have HE:=zc (bdO HY.out E.out)
    go_wp2_with fail
    refine (zH C z n j o A a.1 1 sAs _ aj.out (by decide)).mono ?_
    rintro e w2 ⟨rfl,m,s⟩
    rw[ai] at m ⊢
    have K:Hid (IM C z n j o A a.1 w2):=m
    have ad:Hid (IS o S w A w2):=au.out.trans s
    have M:Hid (Fr 102 4 w2 w.heap.size r l.length (l.flatMap (fun e=>epL (zz e))) A):=ap.out.step aj.out (by decide) s
    clear m s
    have aC:=zgh E.out
    have ax:=K.out.mem.inv.pos
    have N:=fun o1=>(M.out.later ((Below.refl w2.heap.size w2).alloc (Nat.le_refl _) o1)).1
    have ac:=fun o1=>(ad.out.alloc o1).size
    go_wp2_with (at_builtin;refine zcl _ rfl _ _ 24 rfl w.heap.size 102 i0 _ 4 56 Tryz.underlying24 hi aq ar aw rfl (by decide) (by decide) r l.length _ (by rfl) (N _) w2.heap.size (epL (zz (⟨0,a.2,a.2,sNone⟩:Ep))) (by rfl) (by exact heap_alloc_new w2 _) rfl (zeZ _) (by omega) (ac _) ?_;intro U X hr O ae;have H:Hid (IM C z n j o A a.1 X):=(K.out.alloc _).aside O (fun k g=>⟨M.out.2 k g,M.out.ngp K.out (by decide) g,M.out.ngt K.out (by decide) g⟩);have ag:Hid (IS o S w A X):=(ad.out.alloc _).aside O (fun k g=>(M.out.1.typed g).1);have ah:Hid (Fr 102 4 X w.heap.size U (l.length+1) _ A):=(M.out.later ((Below.refl _ _).alloc (Nat.le_refl _) _)).grown (K.out.alloc _) hr ae;clear hr O ae N ac)
    have el:(l++[(⟨0,a.2,a.2,sNone⟩:Ep)]).length=l.length+1:=by simp
    have I:Hid (Fr 102 4 X w.heap.size U (l++[(⟨0,a.2,a.2,sNone⟩:Ep)]).length ((l++[(⟨0,a.2,a.2,sNone⟩:Ep)]).flatMap (fun e=>epL (zz e))) A):=by
     show Fr ..
     rw[el,List.flatMap_append]
     simpa using ah.out
    have D:Hid ((l++[(⟨0,a.2,a.2,sNone⟩:Ep)]).length=l.length+1):=el
    clear el ah
    go_wp2_with fail
    cases hc:isT C a.1.pos 4 zbp with
    |true=>
     have ay:=zaz hc (by decide)
     have HC:=zc (HE.out.trans (if_pos hc))
     refine (zH C z n j o A (a.1) 4 zbp _ H.out (by decide)).mono ?_
     rintro e w4 ⟨rfl,m,s⟩
     rw[hc] at m ⊢
     have J:Hid (IM C z n j o A (adv (a.1)) w4):=m
     have V:Hid (IS o S w A w4):=ag.out.trans s
     have aa:Hid (Fr 102 4 w4 w.heap.size U (l++[(⟨0,a.2,a.2,sNone⟩:Ep)]).length ((l++[(⟨0,a.2,a.2,sNone⟩:Ep)]).flatMap (fun e=>epL (zz e))) A):=I.out.step H.out (by decide) s
     clear m s
     go_wp2
     go_roundg (gk-1)
     case rel=>exact⟨A,adv a.1,U,(l++[(⟨0,a.2,a.2,sNone⟩:Ep)]),by rw[D.out],HC.out,by rw[zw];omega,by rw[zw,D.out];omega,J.out,V.out,aa.out⟩
     case measure=>omega
    |false=>
     have HC:=zc (HE.out.trans (if_neg (by rw[hc];decide)))
     refine (zH C z n j o A (a.1) 4 zbp _ H.out (by decide)).mono ?_
     rintro e w4 ⟨rfl,m,s⟩
     rw[hc] at m ⊢
     have J:Hid (IM C z n j o A (a.1) w4):=m
     have V:Hid (IS o S w A w4):=ag.out.trans s
     have aa:Hid (Fr 102 4 w4 w.heap.size U (l++[(⟨0,a.2,a.2,sNone⟩:Ep)]).length ((l++[(⟨0,a.2,a.2,sNone⟩:Ep)]).flatMap (fun e=>epL (zz e))) A):=I.out.step H.out (by decide) s
     clear m s
     go_wp2_with fail
     refine (zbQ C z n j o A a.1 125 _ J.out).mono ?_
     cases am:zd C 4 zbd a.1 with
     |error p=>
      rintro e Y ⟨rfl,hb⟩
      have HB:Hid (Below j w Y):=(HH.out.back V.out).trans hb
      have HX:Hid (zav C true q []= .error p):=bdE HC.out am
      unfold Pan
      go_wp2
      refine⟨rfl,?_⟩
      rw[HX.out]
      exact⟨rfl,HB.out⟩
     |ok a5=>
      rintro e Y ⟨rfl,S5,m,s⟩
      have af:Hid (Fr 102 4 Y w.heap.size U (l++[(⟨0,a.2,a.2,sNone⟩:Ep)]).length ((l++[(⟨0,a.2,a.2,sNone⟩:Ep)]).flatMap (fun e=>epL (zz e))) S5):=aa.out.step J.out (by decide) s
      have Z:Hid (IM C z n j o S5 a5 Y):=m
      have ab:Hid (IS o S w S5 Y):=V.out.trans s
      clear m s
      have aG:=zc (bdO HC.out am)
      go_wp2
      go_ret
      rw[aG.out]
      exact⟨U,S5,by rw[D.out];rfl,Z.out,ab.out,af.out,by show 0<(l++[(⟨0,a.2,a.2,sNone⟩:Ep)]).length;rw[D.out];omega,by show (l++[(⟨0,a.2,a.2,sNone⟩:Ep)]).length≤4000;rw[D.out];omega⟩
end Go.Proofs.YticdggnnpjachaaGreat