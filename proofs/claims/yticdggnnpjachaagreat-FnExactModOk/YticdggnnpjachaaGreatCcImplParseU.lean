/-
 What exportList of impl's parser answers: the walk.
-/
import Derived.Test.YticdggnnpjachaaGreatCcImplPrintCToImplParseT
namespace Go.Proofs.YticdggnnpjachaaGreat
set_option maxRecDepth 100000
set_option maxHeartbeats 3200000
open Go.RowKit Go.PlainAid Go.Sort
theorem zmV {C:Cx} {q:PS} {a:PS×ByteArray} (j:zh C true q= .ok a) (h:isT C a.1.pos 1 sAs=true):zbl C true q=bd (zh C true (adv a.1)) fun b=>.ok (b.1,⟨0,b.2,a.2,sNone⟩):=by
 rw[zbl,j,zx,asP,if_pos h]
theorem zmW {C:Cx} {q:PS} {a:PS×ByteArray} (j:zh C true q= .ok a) (h:isT C a.1.pos 1 sAs=false):zbl C true q= .ok (a.1,⟨0,a.2,a.2,sNone⟩):=by
 rw[zbl,j,zx,asP,if_neg (by rw[h];decide),if_neg (by simp)]
 rfl
theorem zmX (C:Cx) (z n j o:Nat) (S:Sv) (q:PS) (w:World) (h:IM C z n j o S q w):
  Calls Tryz.prog 177 #[.pointer (some ⟨o,0,none⟩)] w (ziw C z n j o 102 4 (fun e=>epL (zz e)) (zav C true q []) S w):=by
 obtain⟨i0,hi,ak,ar,ao⟩:=info_parts Tryz.infoExp
 have HH:Hid (IM C z n j o S q w):=h
 clear h
 go_enter Tryz.func177,Tryz.ntmps177
 go_wp2
 go_loopg [3] (C.ts.length+1) (fun k v wr=>∃(S':Sv) (q':PS) (r:Rw) (l:List Ep),v= .slice r.a l.length r.cap∧zav C true q []=zav C true q' l∧C.ts.length-q'.pos<k∧l.length+(C.ts.length-q'.pos)≤C.ts.length∧IM C z n j o S' q' wr∧IS o S w S' wr∧Fr 102 4 wr w.heap.size r l.length (l.flatMap (fun e=>epL (zz e))) S')
 case atStart=>exact⟨S,q,⟨some ⟨w.heap.size,0,none⟩,0⟩,[],rfl,rfl,by omega,by simp,HH.out.alloc _,(IS.refl _ _ _).alloc _,zix HH.out _ _⟩
 case round=>
  obtain⟨S',q',r,l,rfl,hy,hk,hl,m',s',f'⟩:=hrel
  have aB:Hid (zav C true q []=zav C true q' l):=hy
  have HY:=zc (aB.out.trans (zhQ C true q' l))
  have av:Hid (IM C z n j o S' q' wr):=m'
  have au:Hid (IS o S w S' wr):=s'
  have aE:Hid (Fr 102 4 wr w.heap.size r l.length (l.flatMap (fun e=>epL (zz e))) S'):=f'
  have aG:=m'.mem.few
  clear hy m' s' f'
  go_wp2_with fail
  refine (zep C z n j o S' q' _ av.out).mono ?_
  cases aj:zh C true q' with
  |error p=>
   rintro e w1 ⟨rfl,hb⟩
   have HB:Hid (Below j w w1):=(HH.out.back au.out).trans hb
   have HX:Hid (zav C true q []= .error p):=by show _=_;rw[HY.out,zbl,aj];rfl
   unfold Pan
   go_wp2
   refine⟨rfl,?_⟩
   rw[HX.out]
   exact⟨rfl,HB.out⟩
  |ok a=>
   rintro e w1 ⟨rfl,A,m,s⟩
   have ai:Hid (IM C z n j o A a.1 w1):=m
   have aq:Hid (IS o S w A w1):=au.out.trans s
   have an:Hid (Fr 102 4 w1 w.heap.size r l.length (l.flatMap (fun e=>epL (zz e))) A):=aE.out.step av.out (by decide) s
   clear m s
   cases ah:isT C a.1.pos 1 sAs with
   |true=>
    have HW:=zc (zmV aj ah)
    go_wp2_with fail
    refine (zH C z n j o A a.1 1 sAs _ ai.out (by decide)).mono ?_
    rintro e w2 ⟨rfl,m,s⟩
    rw[ah] at m ⊢
    have N:Hid (IM C z n j o A (adv a.1) w2):=m
    have ag:Hid (IS o S w A w2):=aq.out.trans s
    have M:Hid (Fr 102 4 w2 w.heap.size r l.length (l.flatMap (fun e=>epL (zz e))) A):=an.out.step ai.out (by decide) s
    clear m s
    go_wp2_with fail
    refine (zep C z n j o A (adv a.1) _ N.out).mono ?_
    cases am:zh C true (adv a.1) with
    |error p=>
     rintro e X ⟨rfl,hb⟩
     have HB:Hid (Below j w X):=(HH.out.back ag.out).trans hb
     have HX:Hid (zav C true q []= .error p):=by show _=_;rw[HY.out,HW.out,am];rfl
     unfold Pan
     go_wp2
     refine⟨rfl,?_⟩
     rw[HX.out]
     exact⟨rfl,HB.out⟩
    |ok c=>
     rintro e X ⟨rfl,L,m,s⟩
     have H:Hid (IM C z n j o L c.1 X):=m
     have ac:Hid (IS o S w L X):=ag.out.trans s
     have I:Hid (Fr 102 4 X w.heap.size r l.length (l.flatMap (fun e=>epL (zz e))) L):=M.out.step N.out (by decide) s
     clear m s
     have E:=zc (bdO HW.out am)
     have HE:=zc (bdO HY.out E.out)
     have aw:=zgh E.out
     have aF:=H.out.mem.inv.pos
     have K:=fun o1=>(I.out.later ((Below.refl X.heap.size X).alloc (Nat.le_refl _) o1)).1
     have ae:=fun o1=>(ac.out.alloc o1).size
     go_wp2_with (at_builtin;refine zcl _ rfl _ _ 24 rfl w.heap.size 102 i0 _ 4 56 Tryz.underlying24 hi ak ar ao rfl (by decide) (by decide) r l.length _ (by rfl) (K _) X.heap.size (epL (zz (⟨0,c.2,a.2,sNone⟩:Ep))) (by rfl) (by exact heap_alloc_new X _) rfl (zeZ _) (by omega) (ae _) ?_;intro U w4 hr V ad;have J:Hid (IM C z n j o L c.1 w4):=(H.out.alloc _).aside V (fun k g=>⟨I.out.2 k g,I.out.ngp H.out (by decide) g,I.out.ngt H.out (by decide) g⟩);have O:Hid (IS o S w L w4):=(ac.out.alloc _).aside V (fun k g=>(I.out.1.typed g).1);have ab:Hid (Fr 102 4 w4 w.heap.size U (l.length+1) _ L):=(I.out.later ((Below.refl _ _).alloc (Nat.le_refl _) _)).grown (H.out.alloc _) hr ad;clear hr V ad K ae)
     have el:(l++[(⟨0,c.2,a.2,sNone⟩:Ep)]).length=l.length+1:=by simp
     have Y:Hid (Fr 102 4 w4 w.heap.size U (l++[(⟨0,c.2,a.2,sNone⟩:Ep)]).length ((l++[(⟨0,c.2,a.2,sNone⟩:Ep)]).flatMap (fun e=>epL (zz e))) L):=by
      show Fr ..
      rw[el,List.flatMap_append]
      simpa using ab.out
     have D:Hid ((l++[(⟨0,c.2,a.2,sNone⟩:Ep)]).length=l.length+1):=el
     clear el ab
     go_wp2_with fail
     cases hc:isT C c.1.pos 4 zbp with
     |true=>
      have aC:=zaz hc (by decide)
      have HC:=zc (HE.out.trans (if_pos hc))
      refine (zH C z n j o L (c.1) 4 zbp _ J.out (by decide)).mono ?_
      rintro e w5 ⟨rfl,m,s⟩
      rw[hc] at m ⊢
      have aa:Hid (IM C z n j o L (adv (c.1)) w5):=m
      have Z:Hid (IS o S w L w5):=O.out.trans s
      have af:Hid (Fr 102 4 w5 w.heap.size U (l++[(⟨0,c.2,a.2,sNone⟩:Ep)]).length ((l++[(⟨0,c.2,a.2,sNone⟩:Ep)]).flatMap (fun e=>epL (zz e))) L):=Y.out.step J.out (by decide) s
      clear m s
      go_wp2
      go_roundg (gk-1)
      case rel=>exact⟨L,adv c.1,U,(l++[(⟨0,c.2,a.2,sNone⟩:Ep)]),by rw[D.out],HC.out,by rw[zw];omega,by rw[zw,D.out];omega,aa.out,Z.out,af.out⟩
      case measure=>omega
     |false=>
      have HC:=zc (HE.out.trans (if_neg (by rw[hc];decide)))
      refine (zH C z n j o L (c.1) 4 zbp _ J.out (by decide)).mono ?_
      rintro e w5 ⟨rfl,m,s⟩
      rw[hc] at m ⊢
      have aa:Hid (IM C z n j o L (c.1) w5):=m
      have Z:Hid (IS o S w L w5):=O.out.trans s
      have af:Hid (Fr 102 4 w5 w.heap.size U (l++[(⟨0,c.2,a.2,sNone⟩:Ep)]).length ((l++[(⟨0,c.2,a.2,sNone⟩:Ep)]).flatMap (fun e=>epL (zz e))) L):=Y.out.step J.out (by decide) s
      clear m s
      go_wp2_with fail
      refine (zbQ C z n j o L c.1 125 _ aa.out).mono ?_
      cases ap:zd C 4 zbd c.1 with
      |error p=>
       rintro e w6 ⟨rfl,hb⟩
       have HB:Hid (Below j w w6):=(HH.out.back Z.out).trans hb
       have HX:Hid (zav C true q []= .error p):=bdE HC.out ap
       unfold Pan
       go_wp2
       refine⟨rfl,?_⟩
       rw[HX.out]
       exact⟨rfl,HB.out⟩
      |ok a6=>
       rintro e w6 ⟨rfl,S6,m,s⟩
       have aA:Hid (Fr 102 4 w6 w.heap.size U (l++[(⟨0,c.2,a.2,sNone⟩:Ep)]).length ((l++[(⟨0,c.2,a.2,sNone⟩:Ep)]).flatMap (fun e=>epL (zz e))) S6):=af.out.step aa.out (by decide) s
       have aD:Hid (IM C z n j o S6 a6 w6):=m
       have ay:Hid (IS o S w S6 w6):=Z.out.trans s
       clear m s
       have ax:=zc (bdO HC.out ap)
       go_wp2
       go_ret
       rw[ax.out]
       exact⟨U,S6,by rw[D.out];rfl,aD.out,ay.out,aA.out,by show 0<(l++[(⟨0,c.2,a.2,sNone⟩:Ep)]).length;rw[D.out];omega,by show (l++[(⟨0,c.2,a.2,sNone⟩:Ep)]).length≤4000;rw[D.out];omega⟩
   |false=>
    have E:=zc (zmW aj ah)
    have HE:=zc (bdO HY.out E.out)
    go_wp2_with fail
    refine (zH C z n j o A a.1 1 sAs _ ai.out (by decide)).mono ?_
    rintro e w2 ⟨rfl,m,s⟩
    rw[ah] at m ⊢
    have N:Hid (IM C z n j o A a.1 w2):=m
    have ag:Hid (IS o S w A w2):=aq.out.trans s
    have M:Hid (Fr 102 4 w2 w.heap.size r l.length (l.flatMap (fun e=>epL (zz e))) A):=an.out.step ai.out (by decide) s
    clear m s
    have aw:=zgh E.out
    have aF:=N.out.mem.inv.pos
    have K:=fun o1=>(M.out.later ((Below.refl w2.heap.size w2).alloc (Nat.le_refl _) o1)).1
    have ae:=fun o1=>(ag.out.alloc o1).size
    go_wp2_with (at_builtin;refine zcl _ rfl _ _ 24 rfl w.heap.size 102 i0 _ 4 56 Tryz.underlying24 hi ak ar ao rfl (by decide) (by decide) r l.length _ (by rfl) (K _) w2.heap.size (epL (zz (⟨0,a.2,a.2,sNone⟩:Ep))) (by rfl) (by exact heap_alloc_new w2 _) rfl (zeZ _) (by omega) (ae _) ?_;intro U X hr V ad;have H:Hid (IM C z n j o A a.1 X):=(N.out.alloc _).aside V (fun k g=>⟨M.out.2 k g,M.out.ngp N.out (by decide) g,M.out.ngt N.out (by decide) g⟩);have ac:Hid (IS o S w A X):=(ag.out.alloc _).aside V (fun k g=>(M.out.1.typed g).1);have ab:Hid (Fr 102 4 X w.heap.size U (l.length+1) _ A):=(M.out.later ((Below.refl _ _).alloc (Nat.le_refl _) _)).grown (N.out.alloc _) hr ad;clear hr V ad K ae)
    have el:(l++[(⟨0,a.2,a.2,sNone⟩:Ep)]).length=l.length+1:=by simp
    have I:Hid (Fr 102 4 X w.heap.size U (l++[(⟨0,a.2,a.2,sNone⟩:Ep)]).length ((l++[(⟨0,a.2,a.2,sNone⟩:Ep)]).flatMap (fun e=>epL (zz e))) A):=by
     show Fr ..
     rw[el,List.flatMap_append]
     simpa using ab.out
    have D:Hid ((l++[(⟨0,a.2,a.2,sNone⟩:Ep)]).length=l.length+1):=el
    clear el ab
    go_wp2_with fail
    cases hc:isT C a.1.pos 4 zbp with
    |true=>
     have aC:=zaz hc (by decide)
     have HC:=zc (HE.out.trans (if_pos hc))
     refine (zH C z n j o A (a.1) 4 zbp _ H.out (by decide)).mono ?_
     rintro e w4 ⟨rfl,m,s⟩
     rw[hc] at m ⊢
     have J:Hid (IM C z n j o A (adv (a.1)) w4):=m
     have O:Hid (IS o S w A w4):=ac.out.trans s
     have Y:Hid (Fr 102 4 w4 w.heap.size U (l++[(⟨0,a.2,a.2,sNone⟩:Ep)]).length ((l++[(⟨0,a.2,a.2,sNone⟩:Ep)]).flatMap (fun e=>epL (zz e))) A):=I.out.step H.out (by decide) s
     clear m s
     go_wp2
     go_roundg (gk-1)
     case rel=>exact⟨A,adv a.1,U,(l++[(⟨0,a.2,a.2,sNone⟩:Ep)]),by rw[D.out],HC.out,by rw[zw];omega,by rw[zw,D.out];omega,J.out,O.out,Y.out⟩
     case measure=>omega
    |false=>
     have HC:=zc (HE.out.trans (if_neg (by rw[hc];decide)))
     refine (zH C z n j o A (a.1) 4 zbp _ H.out (by decide)).mono ?_
     rintro e w4 ⟨rfl,m,s⟩
     rw[hc] at m ⊢
     have J:Hid (IM C z n j o A (a.1) w4):=m
     have O:Hid (IS o S w A w4):=ac.out.trans s
     have Y:Hid (Fr 102 4 w4 w.heap.size U (l++[(⟨0,a.2,a.2,sNone⟩:Ep)]).length ((l++[(⟨0,a.2,a.2,sNone⟩:Ep)]).flatMap (fun e=>epL (zz e))) A):=I.out.step H.out (by decide) s
     clear m s
     go_wp2_with fail
     refine (zbQ C z n j o A a.1 125 _ J.out).mono ?_
     cases al:zd C 4 zbd a.1 with
     |error p=>
      rintro e w5 ⟨rfl,hb⟩
      have HB:Hid (Below j w w5):=(HH.out.back O.out).trans hb
      have HX:Hid (zav C true q []= .error p):=bdE HC.out al
      unfold Pan
      go_wp2
      refine⟨rfl,?_⟩
      rw[HX.out]
      exact⟨rfl,HB.out⟩
     |ok a5=>
      rintro e w5 ⟨rfl,S5,m,s⟩
      have af:Hid (Fr 102 4 w5 w.heap.size U (l++[(⟨0,a.2,a.2,sNone⟩:Ep)]).length ((l++[(⟨0,a.2,a.2,sNone⟩:Ep)]).flatMap (fun e=>epL (zz e))) S5):=Y.out.step J.out (by decide) s
      have aa:Hid (IM C z n j o S5 a5 w5):=m
      have Z:Hid (IS o S w S5 w5):=O.out.trans s
      clear m s
      have az:=zc (bdO HC.out al)
      go_wp2
      go_ret
      rw[az.out]
      exact⟨U,S5,by rw[D.out];rfl,aa.out,Z.out,af.out,by show 0<(l++[(⟨0,a.2,a.2,sNone⟩:Ep)]).length;rw[D.out];omega,by show (l++[(⟨0,a.2,a.2,sNone⟩:Ep)]).length≤4000;rw[D.out];omega⟩
end Go.Proofs.YticdggnnpjachaaGreat