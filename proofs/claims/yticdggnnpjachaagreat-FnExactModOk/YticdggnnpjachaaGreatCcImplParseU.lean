/-
 What exportList of impl's parser answers: the walk.
-/
import Derived.Test.YticdggnnpjachaaGreatCcImplPrintCToImplParseT
namespace Go.Proofs.YticdggnnpjachaaGreat
set_option maxRecDepth 100000
set_option maxHeartbeats 3200000
open Go.RowKit Go.PlainAid Go.Sort
theorem zmV {C:Cx} {q:PS} {a:PS×ByteArray} (j:zh C true q= .ok a) (h:isT C a.1.pos 1 sAs=true):zbl C true q=bd (zh C true (adv a.1)) fun b=>.ok (b.1,⟨0,b.2,a.2,sNone⟩):=by
 rw[zbl,j,zx,asP,if_pos h]
theorem zmW {C:Cx} {q:PS} {a:PS×ByteArray} (j:zh C true q= .ok a) (h:isT C a.1.pos 1 sAs=false):zbl C true q= .ok (a.1,⟨0,a.2,a.2,sNone⟩):=by
 rw[zbl,j,zx,asP,if_neg (by rw[h];decide),if_neg (by simp)]
 rfl
theorem zmX (C:Cx) (z n j o:Nat) (S:Sv) (q:PS) (w:World) (h:IM C z n j o S q w):
  Calls Tryz.prog 177 #[.pointer (some ⟨o,0,none⟩)] w (ziw C z n j o 102 4 (fun e=>epL (zz e)) (zav C true q []) S w):=by
 obtain⟨i0,hi,an,ak,ap⟩:=info_parts Tryz.infoExp
 have HH:Hid (IM C z n j o S q w):=h
 clear h
 go_enter Tryz.func177,Tryz.ntmps177
 go_wp2
 go_loopg [3] (C.ts.length+1) (fun k v wr=>∃(S':Sv) (q':PS) (r:Rw) (l:List Ep),v= .slice r.a l.length r.cap∧zav C true q []=zav C true q' l∧C.ts.length-q'.pos<k∧l.length+(C.ts.length-q'.pos)≤C.ts.length∧IM C z n j o S' q' wr∧IS o S w S' wr∧Fr 102 4 wr w.heap.size r l.length (l.flatMap (fun e=>epL (zz e))) S')
 case atStart=>exact⟨S,q,⟨some ⟨w.heap.size,0,none⟩,0⟩,[],rfl,rfl,by omega,by simp,HH.out.alloc _,(IS.refl _ _ _).alloc _,zix HH.out _ _⟩
 case round=>
  obtain⟨S',q',r,l,rfl,hy,hk,hl,m',s',f'⟩:=hrel
  have aD:Hid (zav C true q []=zav C true q' l):=hy
  have HY:=zc (aD.out.trans (zhQ C true q' l))
  have al:Hid (IM C z n j o S' q' wr):=m'
  have as:Hid (IS o S w S' wr):=s'
  have aw:Hid (Fr 102 4 wr w.heap.size r l.length (l.flatMap (fun e=>epL (zz e))) S'):=f'
  have aF:=m'.mem.few
  clear hy m' s' f'
  go_wp2_with fail
  refine (zep C z n j o S' q' _ al.out).mono ?_
  cases aj:zh C true q' with
  |error p=>
   rintro e w1 ⟨rfl,hb⟩
   have HB:Hid (Below j w w1):=(HH.out.back as.out).trans hb
   have HX:Hid (zav C true q []= .error p):=by show _=_;rw[HY.out,zbl,aj];rfl
   unfold Pan
   go_wp2
   refine⟨rfl,?_⟩
   rw[HX.out]
   exact⟨rfl,HB.out⟩
  |ok a=>
   rintro e w1 ⟨rfl,A,m,s⟩
   have ah:Hid (IM C z n j o A a.1 w1):=m
   have ar:Hid (IS o S w A w1):=as.out.trans s
   have aq:Hid (Fr 102 4 w1 w.heap.size r l.length (l.flatMap (fun e=>epL (zz e))) A):=aw.out.step al.out (by decide) s
   clear m s
   cases ai:isT C a.1.pos 1 sAs with
   |true=>
    have HW:=zc (zmV aj ai)
    go_wp2_with fail
    refine (zH C z n j o A a.1 1 sAs _ ah.out (by decide)).mono ?_
    rintro e w2 ⟨rfl,m,s⟩
    rw[ai] at m ⊢
    have N:Hid (IM C z n j o A (adv a.1) w2):=m
    have af:Hid (IS o S w A w2):=ar.out.trans s
    have M:Hid (Fr 102 4 w2 w.heap.size r l.length (l.flatMap (fun e=>epL (zz e))) A):=aq.out.step ah.out (by decide) s
    clear m s
    go_wp2_with fail
    refine (zep C z n j o A (adv a.1) _ N.out).mono ?_
    cases am:zh C true (adv a.1) with
    |error p=>
     rintro e X ⟨rfl,hb⟩
     have HB:Hid (Below j w X):=(HH.out.back af.out).trans hb
     have HX:Hid (zav C true q []= .error p):=by show _=_;rw[HY.out,HW.out,am];rfl
     unfold Pan
     go_wp2
     refine⟨rfl,?_⟩
     rw[HX.out]
     exact⟨rfl,HB.out⟩
    |ok c=>
     rintro e X ⟨rfl,K,m,s⟩
     have H:Hid (IM C z n j o K c.1 X):=m
     have ab:Hid (IS o S w K X):=af.out.trans s
     have I:Hid (Fr 102 4 X w.heap.size r l.length (l.flatMap (fun e=>epL (zz e))) K):=M.out.step N.out (by decide) s
     clear m s
     have E:=zc (bdO HW.out am)
     have HE:=zc (bdO HY.out E.out)
     have aE:=zgh E.out
     have aB:=H.out.mem.inv.pos
     have L:=fun o1=>(I.out.later ((Below.refl X.heap.size X).alloc (Nat.le_refl _) o1)).1
     have ad:=fun o1=>(ab.out.alloc o1).size
     go_wp2_with (at_builtin;refine zcl _ rfl _ _ 24 rfl w.heap.size 102 i0 _ 4 56 Tryz.underlying24 hi an ak ap rfl (by decide) (by decide) r l.length _ (by rfl) (L _) X.heap.size (epL (zz (⟨0,c.2,a.2,sNone⟩:Ep))) (by rfl) (by exact heap_alloc_new X _) rfl (zeZ _) (by omega) (ad _) ?_;intro U w4 hr V ae;have J:Hid (IM C z n j o K c.1 w4):=(H.out.alloc _).aside V (fun k g=>⟨I.out.2 k g,I.out.ngp H.out (by decide) g,I.out.ngt H.out (by decide) g⟩);have O:Hid (IS o S w K w4):=(ab.out.alloc _).aside V (fun k g=>(I.out.1.typed g).1);have ag:Hid (Fr 102 4 w4 w.heap.size U (l.length+1) _ K):=(I.out.later ((Below.refl _ _).alloc (Nat.le_refl _) _)).grown (H.out.alloc _) hr ae;clear hr V ae L ad)
     have el:(l++[(⟨0,c.2,a.2,sNone⟩:Ep)]).length=l.length+1:=by simp
     have Z:Hid (Fr 102 4 w4 w.heap.size U (l++[(⟨0,c.2,a.2,sNone⟩:Ep)]).length ((l++[(⟨0,c.2,a.2,sNone⟩:Ep)]).flatMap (fun e=>epL (zz e))) K):=by
      show Fr ..
      rw[el,List.flatMap_append]
      simpa using ag.out
     have D:Hid ((l++[(⟨0,c.2,a.2,sNone⟩:Ep)]).length=l.length+1):=el
     clear el ag
     go_wp2_with fail
     cases hc:isT C c.1.pos 4 zbp with
     |true=>
      have ax:=zaz hc (by decide)
      have HC:=zc (HE.out.trans (if_pos hc))
      refine (zH C z n j o K (c.1) 4 zbp _ J.out (by decide)).mono ?_
      rintro e w5 ⟨rfl,m,s⟩
      rw[hc] at m ⊢
      have Y:Hid (IM C z n j o K (adv (c.1)) w5):=m
      have aa:Hid (IS o S w K w5):=O.out.trans s
      have ac:Hid (Fr 102 4 w5 w.heap.size U (l++[(⟨0,c.2,a.2,sNone⟩:Ep)]).length ((l++[(⟨0,c.2,a.2,sNone⟩:Ep)]).flatMap (fun e=>epL (zz e))) K):=Z.out.step J.out (by decide) s
      clear m s
      go_wp2
      go_roundg (gk-1)
      case rel=>exact⟨K,adv c.1,U,(l++[(⟨0,c.2,a.2,sNone⟩:Ep)]),by rw[D.out],HC.out,by rw[zw];omega,by rw[zw,D.out];omega,Y.out,aa.out,ac.out⟩
      case measure=>omega
     |false=>
      have HC:=zc (HE.out.trans (if_neg (by rw[hc];decide)))
      refine (zH C z n j o K (c.1) 4 zbp _ J.out (by decide)).mono ?_
      rintro e w5 ⟨rfl,m,s⟩
      rw[hc] at m ⊢
      have Y:Hid (IM C z n j o K (c.1) w5):=m
      have aa:Hid (IS o S w K w5):=O.out.trans s
      have ac:Hid (Fr 102 4 w5 w.heap.size U (l++[(⟨0,c.2,a.2,sNone⟩:Ep)]).length ((l++[(⟨0,c.2,a.2,sNone⟩:Ep)]).flatMap (fun e=>epL (zz e))) K):=Z.out.step J.out (by decide) s
      clear m s
      go_wp2_with fail
      refine (zbQ C z n j o K c.1 125 _ Y.out).mono ?_
      cases au:zd C 4 zbd c.1 with
      |error p=>
       rintro e w6 ⟨rfl,hb⟩
       have HB:Hid (Below j w w6):=(HH.out.back aa.out).trans hb
       have HX:Hid (zav C true q []= .error p):=bdE HC.out au
       unfold Pan
       go_wp2
       refine⟨rfl,?_⟩
       rw[HX.out]
       exact⟨rfl,HB.out⟩
      |ok a6=>
       rintro e w6 ⟨rfl,S6,m,s⟩
       have aA:Hid (Fr 102 4 w6 w.heap.size U (l++[(⟨0,c.2,a.2,sNone⟩:Ep)]).length ((l++[(⟨0,c.2,a.2,sNone⟩:Ep)]).flatMap (fun e=>epL (zz e))) S6):=ac.out.step Y.out (by decide) s
       have az:Hid (IM C z n j o S6 a6 w6):=m
       have aC:Hid (IS o S w S6 w6):=aa.out.trans s
       clear m s
       have av:=zc (bdO HC.out au)
       go_wp2
       go_ret
       rw[av.out]
       exact⟨U,S6,by rw[D.out];rfl,az.out,aC.out,aA.out,by show 0<(l++[(⟨0,c.2,a.2,sNone⟩:Ep)]).length;rw[D.out];omega,by show (l++[(⟨0,c.2,a.2,sNone⟩:Ep)]).length≤4000;rw[D.out];omega⟩
   |false=>
    have E:=zc (zmW aj ai)
    have HE:=zc (bdO HY.out E.out)
    go_wp2_with fail
    refine (zH C z n j o A a.1 1 sAs _ ah.out (by decide)).mono ?_
    rintro e w2 ⟨rfl,m,s⟩
    rw[ai] at m ⊢
    have N:Hid (IM C z n j o A a.1 w2):=m
    have af:Hid (IS o S w A w2):=ar.out.trans s
    have M:Hid (Fr 102 4 w2 w.heap.size r l.length (l.flatMap (fun e=>epL (zz e))) A):=aq.out.step ah.out (by decide) s
    clear m s
    have aE:=zgh E.out
    have aB:=N.out.mem.inv.pos
    have L:=fun o1=>(M.out.later ((Below.refl w2.heap.size w2).alloc (Nat.le_refl _) o1)).1
    have ad:=fun o1=>(af.out.alloc o1).size
    go_wp2_with (at_builtin;refine zcl _ rfl _ _ 24 rfl w.heap.size 102 i0 _ 4 56 Tryz.underlying24 hi an ak ap rfl (by decide) (by decide) r l.length _ (by rfl) (L _) w2.heap.size (epL (zz (⟨0,a.2,a.2,sNone⟩:Ep))) (by rfl) (by exact heap_alloc_new w2 _) rfl (zeZ _) (by omega) (ad _) ?_;intro U X hr V ae;have H:Hid (IM C z n j o A a.1 X):=(N.out.alloc _).aside V (fun k g=>⟨M.out.2 k g,M.out.ngp N.out (by decide) g,M.out.ngt N.out (by decide) g⟩);have ab:Hid (IS o S w A X):=(af.out.alloc _).aside V (fun k g=>(M.out.1.typed g).1);have ag:Hid (Fr 102 4 X w.heap.size U (l.length+1) _ A):=(M.out.later ((Below.refl _ _).alloc (Nat.le_refl _) _)).grown (N.out.alloc _) hr ae;clear hr V ae L ad)
    have el:(l++[(⟨0,a.2,a.2,sNone⟩:Ep)]).length=l.length+1:=by simp
    have I:Hid (Fr 102 4 X w.heap.size U (l++[(⟨0,a.2,a.2,sNone⟩:Ep)]).length ((l++[(⟨0,a.2,a.2,sNone⟩:Ep)]).flatMap (fun e=>epL (zz e))) A):=by
     show Fr ..
     rw[el,List.flatMap_append]
     simpa using ag.out
    have D:Hid ((l++[(⟨0,a.2,a.2,sNone⟩:Ep)]).length=l.length+1):=el
    clear el ag
    go_wp2_with fail
    cases hc:isT C a.1.pos 4 zbp with
    |true=>
     have ax:=zaz hc (by decide)
     have HC:=zc (HE.out.trans (if_pos hc))
     refine (zH C z n j o A (a.1) 4 zbp _ H.out (by decide)).mono ?_
     rintro e w4 ⟨rfl,m,s⟩
     rw[hc] at m ⊢
     have J:Hid (IM C z n j o A (adv (a.1)) w4):=m
     have O:Hid (IS o S w A w4):=ab.out.trans s
     have Z:Hid (Fr 102 4 w4 w.heap.size U (l++[(⟨0,a.2,a.2,sNone⟩:Ep)]).length ((l++[(⟨0,a.2,a.2,sNone⟩:Ep)]).flatMap (fun e=>epL (zz e))) A):=I.out.step H.out (by decide) s
     clear m s
     go_wp2
     go_roundg (gk-1)
     case rel=>exact⟨A,adv a.1,U,(l++[(⟨0,a.2,a.2,sNone⟩:Ep)]),by rw[D.out],HC.out,by rw[zw];omega,by rw[zw,D.out];omega,J.out,O.out,Z.out⟩
     case measure=>omega
    |false=>
     have HC:=zc (HE.out.trans (if_neg (by rw[hc];decide)))
     refine (zH C z n j o A (a.1) 4 zbp _ H.out (by decide)).mono ?_
     rintro e w4 ⟨rfl,m,s⟩
     rw[hc] at m ⊢
     have J:Hid (IM C z n j o A (a.1) w4):=m
     have O:Hid (IS o S w A w4):=ab.out.trans s
     have Z:Hid (Fr 102 4 w4 w.heap.size U (l++[(⟨0,a.2,a.2,sNone⟩:Ep)]).length ((l++[(⟨0,a.2,a.2,sNone⟩:Ep)]).flatMap (fun e=>epL (zz e))) A):=I.out.step H.out (by decide) s
     clear m s
     go_wp2_with fail
     refine (zbQ C z n j o A a.1 125 _ J.out).mono ?_
     cases ao:zd C 4 zbd a.1 with
     |error p=>
      rintro e w5 ⟨rfl,hb⟩
      have HB:Hid (Below j w w5):=(HH.out.back O.out).trans hb
      have HX:Hid (zav C true q []= .error p):=bdE HC.out ao
      unfold Pan
      go_wp2
      refine⟨rfl,?_⟩
      rw[HX.out]
      exact⟨rfl,HB.out⟩
     |ok a5=>
      rintro e w5 ⟨rfl,S5,m,s⟩
      have ac:Hid (Fr 102 4 w5 w.heap.size U (l++[(⟨0,a.2,a.2,sNone⟩:Ep)]).length ((l++[(⟨0,a.2,a.2,sNone⟩:Ep)]).flatMap (fun e=>epL (zz e))) S5):=Z.out.step J.out (by decide) s
      have Y:Hid (IM C z n j o S5 a5 w5):=m
      have aa:Hid (IS o S w S5 w5):=O.out.trans s
      clear m s
      have ay:=zc (bdO HC.out ao)
      go_wp2
      go_ret
      rw[ay.out]
      exact⟨U,S5,by rw[D.out];rfl,Y.out,aa.out,ac.out,by show 0<(l++[(⟨0,a.2,a.2,sNone⟩:Ep)]).length;rw[D.out];omega,by show (l++[(⟨0,a.2,a.2,sNone⟩:Ep)]).length≤4000;rw[D.out];omega⟩
end Go.Proofs.YticdggnnpjachaaGreat