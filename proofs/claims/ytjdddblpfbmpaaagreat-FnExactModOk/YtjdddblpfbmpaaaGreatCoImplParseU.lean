/-
 What exportList of impl's parser answers: the walk.
-/
import Derived.Test.YtjdddblpfbmpaaaGreatCoImplPrintCToImplParseT
namespace Go.Proofs.YtjdddblpfbmpaaaGreat
set_option maxRecDepth 100000
set_option maxHeartbeats 3200000
open Go.RowKit Go.PlainAid Go.Sort
theorem znf {C:Cx} {q:PS} {a:PS×ByteArray} (j:zh C true q= .ok a) (h:isT C a.1.pos 1 sAs=true):zbh C true q=bd (zh C true (adv a.1)) fun b=>.ok (b.1,⟨0,b.2,a.2,sNone⟩):=by
 rw[zbh,j,zx,asP,if_pos h]
theorem zng {C:Cx} {q:PS} {a:PS×ByteArray} (j:zh C true q= .ok a) (h:isT C a.1.pos 1 sAs=false):zbh C true q= .ok (a.1,⟨0,a.2,a.2,sNone⟩):=by
 rw[zbh,j,zx,asP,if_neg (by rw[h];decide),if_neg (by simp)]
 rfl
theorem znh (C:Cx) (I n j z:Nat) (S:Sv) (q:PS) (w:World) (h:IM C I n j z S q w):
  Calls Tryz.prog 211 #[.pointer (some ⟨z,0,none⟩)] w (ziz C I n j z 86 4 (fun e=>epL (zz e)) (zat C true q []) S w):=by
 obtain⟨i0,hi,am,av,ar⟩:=info_parts Tryz.infoExp
 have HH:=h
 clear h
 go_enter Tryz.func211,Tryz.ntmps211
 go_wp2
 go_loopg [3] (C.ts.length+1) (fun k v wr=>∃(S':Sv) (q':PS) (r:Rw) (l:List Ep),v= .slice r.a l.length r.cap∧zat C true q []=zat C true q' l∧C.ts.length-q'.pos<k∧l.length+(C.ts.length-q'.pos)≤C.ts.length∧IM C I n j z S' q' wr∧IS z S w S' wr∧Fr 86 4 wr w.heap.size r l.length (l.flatMap (fun e=>epL (zz e))) S')
 case atStart=>exact⟨S,q,⟨some ⟨w.heap.size,0,none⟩,0⟩,[],rfl,rfl,by omega,by simp,HH.alloc _,(IS.refl _ _ _).alloc _,zi0 HH _ _⟩
 case round=>
  obtain⟨S',q',r,l,rfl,hy,hk,hl,m',s',f'⟩:=hrel
  have ax:Hid (zat C true q []=zat C true q' l):=hy
  have HY:=zc (ax.out.trans (zhQ C true q' l))
  have ap:=m'
  have au:=s'
  have aF:Hid (Fr 86 4 wr w.heap.size r l.length (l.flatMap (fun e=>epL (zz e))) S'):=f'
  have aG:=m'.mem.few
  clear hy m' s' f'
  go_wp2_with fail
  refine (zem C I n j z S' q' _ ap).mono ?_
  cases aj:zh C true q' with
  |error p=>
   rintro e w1 ⟨rfl,hb⟩
   have HB:=(HH.back au).trans hb
   have HX:Hid (zat C true q []= .error p):=by show _=_;rw[HY.out,zbh,aj];rfl
   unfold Pan
   go_wp2
   refine⟨rfl,?_⟩
   rw[HX.out]
   exact⟨rfl,HB⟩
  |ok a=>
   rintro e w1 ⟨rfl,A,m,s⟩
   have ai:=m
   have ak:=au.trans s
   have al:Hid (Fr 86 4 w1 w.heap.size r l.length (l.flatMap (fun e=>epL (zz e))) A):=aF.out.step ap (by decide) s
   clear m s
   cases ah:isT C a.1.pos 1 sAs with
   |true=>
    have HW:=zc (znf aj ah)
    go_wp2_with fail
    refine (zH C I n j z A a.1 1 sAs _ ai (by decide)).mono ?_
    rintro e w2 ⟨rfl,m,s⟩
    rw[ah] at m ⊢
    have M:Hid (IM C I n j z A (adv a.1) w2):=m
    have ac:Hid (IS z S w A w2):=ak.trans s
    have N:Hid (Fr 86 4 w2 w.heap.size r l.length (l.flatMap (fun e=>epL (zz e))) A):=al.out.step ai (by decide) s
    clear m s
    go_wp2_with fail
    refine (zem C I n j z A (adv a.1) _ M.out).mono ?_
    cases an:zh C true (adv a.1) with
    |error p=>
     rintro e Y ⟨rfl,hb⟩
     have HB:=(HH.back ac.out).trans hb
     have HX:Hid (zat C true q []= .error p):=by show _=_;rw[HY.out,HW.out,an];rfl
     unfold Pan
     go_wp2
     refine⟨rfl,?_⟩
     rw[HX.out]
     exact⟨rfl,HB⟩
    |ok c=>
     rintro e Y ⟨rfl,S3,m,s⟩
     have H:Hid (IM C I n j z S3 c.1 Y):=m
     have ad:Hid (IS z S w S3 Y):=ac.out.trans s
     have K:Hid (Fr 86 4 Y w.heap.size r l.length (l.flatMap (fun e=>epL (zz e))) S3):=N.out.step M.out (by decide) s
     clear m s
     have D:=zc (bdO HW.out an)
     have HE:=zc (bdO HY.out D.out)
     have aE:=zge D.out
     have aw:=H.out.mem.inv.pos
     have L:=fun o1=>(K.out.later ((Below.refl Y.heap.size Y).alloc (Nat.le_refl _) o1)).1
     have ab:=fun o1=>(ad.out.alloc o1).size
     go_wp2_with (at_builtin;refine zch _ rfl _ _ 32 rfl w.heap.size 86 i0 _ 4 56 Tryz.underlying32 hi am av ar rfl (by decide) (by decide) r l.length _ (by rfl) (L _) Y.heap.size (epL (zz (⟨0,c.2,a.2,sNone⟩:Ep))) (by rfl) (by exact heap_alloc_new Y _) rfl (zeW _) (by omega) (ab _) ?_;intro O w4 hr V af;have J:Hid (IM C I n j z S3 c.1 w4):=(H.out.alloc _).aside V (fun k g=>⟨K.out.2 k g,K.out.ngp H.out (by decide) g,K.out.ngt H.out (by decide) g⟩);have U:Hid (IS z S w S3 w4):=(ad.out.alloc _).aside V (fun k g=>(K.out.1.typed g).1);have ag:Hid (Fr 86 4 w4 w.heap.size O (l.length+1) _ S3):=(K.out.later ((Below.refl _ _).alloc (Nat.le_refl _) _)).grown (H.out.alloc _) hr af;clear hr V af L ab)
     have el:(l++[(⟨0,c.2,a.2,sNone⟩:Ep)]).length=l.length+1:=by simp
     have aa:Hid (Fr 86 4 w4 w.heap.size O (l++[(⟨0,c.2,a.2,sNone⟩:Ep)]).length ((l++[(⟨0,c.2,a.2,sNone⟩:Ep)]).flatMap (fun e=>epL (zz e))) S3):=by
      show Fr ..
      rw[el,List.flatMap_append]
      simpa using ag.out
     have E:Hid ((l++[(⟨0,c.2,a.2,sNone⟩:Ep)]).length=l.length+1):=el
     clear el ag
     go_wp2_with fail
     cases hc:isT C c.1.pos 4 zbl with
     |true=>
      have az:=zax hc (by decide)
      have HC:=zc (HE.out.trans (if_pos hc))
      refine (zH C I n j z S3 (c.1) 4 zbl _ J.out (by decide)).mono ?_
      rintro e w5 ⟨rfl,m,s⟩
      rw[hc] at m ⊢
      have X:=m
      have Z:=U.out.trans s
      have ae:Hid (Fr 86 4 w5 w.heap.size O (l++[(⟨0,c.2,a.2,sNone⟩:Ep)]).length ((l++[(⟨0,c.2,a.2,sNone⟩:Ep)]).flatMap (fun e=>epL (zz e))) S3):=aa.out.step J.out (by decide) s
      clear m s
      go_wp2
      go_roundg (gk-1)
      case rel=>exact⟨S3,adv c.1,O,(l++[(⟨0,c.2,a.2,sNone⟩:Ep)]),by rw[E.out],HC.out,by rw[zw];omega,by rw[zw,E.out];omega,X,Z,ae.out⟩
      case measure=>omega
     |false=>
      have HC:=zc (HE.out.trans (if_neg (by rw[hc];decide)))
      refine (zH C I n j z S3 (c.1) 4 zbl _ J.out (by decide)).mono ?_
      rintro e w5 ⟨rfl,m,s⟩
      rw[hc] at m ⊢
      have X:=m
      have Z:=U.out.trans s
      have ae:Hid (Fr 86 4 w5 w.heap.size O (l++[(⟨0,c.2,a.2,sNone⟩:Ep)]).length ((l++[(⟨0,c.2,a.2,sNone⟩:Ep)]).flatMap (fun e=>epL (zz e))) S3):=aa.out.step J.out (by decide) s
      clear m s
      go_wp2_with fail
      refine (zbM C I n j z S3 c.1 125 _ X).mono ?_
      cases aq:zd C 4 zbb c.1 with
      |error p=>
       rintro e w6 ⟨rfl,hb⟩
       have HB:=(HH.back Z).trans hb
       have HX:Hid (zat C true q []= .error p):=bdE HC.out aq
       unfold Pan
       go_wp2
       refine⟨rfl,?_⟩
       rw[HX.out]
       exact⟨rfl,HB⟩
      |ok a6=>
       rintro e w6 ⟨rfl,S6,m,s⟩
       have aD:Hid (Fr 86 4 w6 w.heap.size O (l++[(⟨0,c.2,a.2,sNone⟩:Ep)]).length ((l++[(⟨0,c.2,a.2,sNone⟩:Ep)]).flatMap (fun e=>epL (zz e))) S6):=ae.out.step X (by decide) s
       have aC:=m
       have aB:=Z.trans s
       clear m s
       have ay:=zc (bdO HC.out aq)
       go_wp2
       go_ret
       rw[ay.out]
       exact⟨O,S6,by rw[E.out];rfl,aC,aB,aD.out,by show 0<(l++[(⟨0,c.2,a.2,sNone⟩:Ep)]).length;rw[E.out];omega,by show (l++[(⟨0,c.2,a.2,sNone⟩:Ep)]).length≤4000;rw[E.out];omega⟩
   |false=>
    have D:=zc (zng aj ah)
    have HE:=zc (bdO HY.out D.out)
    go_wp2_with fail
    refine (zH C I n j z A a.1 1 sAs _ ai (by decide)).mono ?_
    rintro e w2 ⟨rfl,m,s⟩
    rw[ah] at m ⊢
    have M:Hid (IM C I n j z A a.1 w2):=m
    have ac:Hid (IS z S w A w2):=ak.trans s
    have N:Hid (Fr 86 4 w2 w.heap.size r l.length (l.flatMap (fun e=>epL (zz e))) A):=al.out.step ai (by decide) s
    clear m s
    have aE:=zge D.out
    have aw:=M.out.mem.inv.pos
    have L:=fun o1=>(N.out.later ((Below.refl w2.heap.size w2).alloc (Nat.le_refl _) o1)).1
    have ab:=fun o1=>(ac.out.alloc o1).size
    go_wp2_with (at_builtin;refine zch _ rfl _ _ 32 rfl w.heap.size 86 i0 _ 4 56 Tryz.underlying32 hi am av ar rfl (by decide) (by decide) r l.length _ (by rfl) (L _) w2.heap.size (epL (zz (⟨0,a.2,a.2,sNone⟩:Ep))) (by rfl) (by exact heap_alloc_new w2 _) rfl (zeW _) (by omega) (ab _) ?_;intro O Y hr V af;have H:Hid (IM C I n j z A a.1 Y):=(M.out.alloc _).aside V (fun k g=>⟨N.out.2 k g,N.out.ngp M.out (by decide) g,N.out.ngt M.out (by decide) g⟩);have ad:Hid (IS z S w A Y):=(ac.out.alloc _).aside V (fun k g=>(N.out.1.typed g).1);have ag:Hid (Fr 86 4 Y w.heap.size O (l.length+1) _ A):=(N.out.later ((Below.refl _ _).alloc (Nat.le_refl _) _)).grown (M.out.alloc _) hr af;clear hr V af L ab)
    have el:(l++[(⟨0,a.2,a.2,sNone⟩:Ep)]).length=l.length+1:=by simp
    have K:Hid (Fr 86 4 Y w.heap.size O (l++[(⟨0,a.2,a.2,sNone⟩:Ep)]).length ((l++[(⟨0,a.2,a.2,sNone⟩:Ep)]).flatMap (fun e=>epL (zz e))) A):=by
     show Fr ..
     rw[el,List.flatMap_append]
     simpa using ag.out
    have E:Hid ((l++[(⟨0,a.2,a.2,sNone⟩:Ep)]).length=l.length+1):=el
    clear el ag
    go_wp2_with fail
    cases hc:isT C a.1.pos 4 zbl with
    |true=>
     have az:=zax hc (by decide)
     have HC:=zc (HE.out.trans (if_pos hc))
     refine (zH C I n j z A (a.1) 4 zbl _ H.out (by decide)).mono ?_
     rintro e w4 ⟨rfl,m,s⟩
     rw[hc] at m ⊢
     have J:Hid (IM C I n j z A (adv (a.1)) w4):=m
     have U:Hid (IS z S w A w4):=ad.out.trans s
     have aa:Hid (Fr 86 4 w4 w.heap.size O (l++[(⟨0,a.2,a.2,sNone⟩:Ep)]).length ((l++[(⟨0,a.2,a.2,sNone⟩:Ep)]).flatMap (fun e=>epL (zz e))) A):=K.out.step H.out (by decide) s
     clear m s
     go_wp2
     go_roundg (gk-1)
     case rel=>exact⟨A,adv a.1,O,(l++[(⟨0,a.2,a.2,sNone⟩:Ep)]),by rw[E.out],HC.out,by rw[zw];omega,by rw[zw,E.out];omega,J.out,U.out,aa.out⟩
     case measure=>omega
    |false=>
     have HC:=zc (HE.out.trans (if_neg (by rw[hc];decide)))
     refine (zH C I n j z A (a.1) 4 zbl _ H.out (by decide)).mono ?_
     rintro e w4 ⟨rfl,m,s⟩
     rw[hc] at m ⊢
     have J:Hid (IM C I n j z A (a.1) w4):=m
     have U:Hid (IS z S w A w4):=ad.out.trans s
     have aa:Hid (Fr 86 4 w4 w.heap.size O (l++[(⟨0,a.2,a.2,sNone⟩:Ep)]).length ((l++[(⟨0,a.2,a.2,sNone⟩:Ep)]).flatMap (fun e=>epL (zz e))) A):=K.out.step H.out (by decide) s
     clear m s
     go_wp2_with fail
     refine (zbM C I n j z A a.1 125 _ J.out).mono ?_
     cases ao:zd C 4 zbb a.1 with
     |error p=>
      rintro e w5 ⟨rfl,hb⟩
      have HB:=(HH.back U.out).trans hb
      have HX:Hid (zat C true q []= .error p):=bdE HC.out ao
      unfold Pan
      go_wp2
      refine⟨rfl,?_⟩
      rw[HX.out]
      exact⟨rfl,HB⟩
     |ok a5=>
      rintro e w5 ⟨rfl,S5,m,s⟩
      have ae:Hid (Fr 86 4 w5 w.heap.size O (l++[(⟨0,a.2,a.2,sNone⟩:Ep)]).length ((l++[(⟨0,a.2,a.2,sNone⟩:Ep)]).flatMap (fun e=>epL (zz e))) S5):=aa.out.step J.out (by decide) s
      have X:=m
      have Z:=U.out.trans s
      clear m s
      have aA:=zc (bdO HC.out ao)
      go_wp2
      go_ret
      rw[aA.out]
      exact⟨O,S5,by rw[E.out];rfl,X,Z,ae.out,by show 0<(l++[(⟨0,a.2,a.2,sNone⟩:Ep)]).length;rw[E.out];omega,by show (l++[(⟨0,a.2,a.2,sNone⟩:Ep)]).length≤4000;rw[E.out];omega⟩
end Go.Proofs.YtjdddblpfbmpaaaGreat