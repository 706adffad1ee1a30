/-
 What exportList of impl's parser answers: the walk.
-/
import Derived.Test.YtgcbmogmniahjaaGreatCAcImplPrintCToImplParseT
namespace Go.Proofs.YtgcbmogmniahjaaGreat
set_option maxRecDepth 100000
set_option maxHeartbeats 3200000
open Go.RowKit Go.PlainAid Go.Sort
theorem zt8 {C:Cx} {q:PS} {a:PS×ByteArray} (w:zm C true q= .ok a) (h:isT C a.1.pos 1 sAs=true):zb9 C true q=bd (zm C true (adv a.1)) fun b=>.ok (b.1,⟨0,b.2,a.2,sNone⟩):=by
 rw[zb9,w,zA,asP,if_pos h]
theorem zt9 {C:Cx} {q:PS} {a:PS×ByteArray} (w:zm C true q= .ok a) (h:isT C a.1.pos 1 sAs=false):zb9 C true q= .ok (a.1,⟨0,a.2,a.2,sNone⟩):=by
 rw[zb9,w,zA,asP,if_neg (by rw[h];decide),if_neg (by simp)]
 rfl
theorem ztA (C:Cx) (L z base A:Nat) (S:Sv) (q:PS) (w:World) (h:IM C L z base A S q w):
  Calls Tryz.prog 233 #[.pointer (some ⟨A,0,none⟩)] w (zlT C L z base A 97 4 (fun e=>epL (zD e)) (za4 C true q []) S w):=by
 obtain⟨i0,hi,ao,ax,av⟩:=info_parts Tryz.infoExp
 have HH:=h
 clear h
 go_enter Tryz.func233,Tryz.ntmps233
 go_wp2
 go_loopg [3] (C.ts.length+1) (fun k v wr=>∃(S':Sv) (q':PS) (r:Rw) (l:List Ep),v= .slice r.a l.length r.cap∧za4 C true q []=za4 C true q' l∧C.ts.length-q'.pos<k∧l.length+(C.ts.length-q'.pos)≤C.ts.length∧IM C L z base A S' q' wr∧IS A S w S' wr∧Fr 97 4 wr w.heap.size r l.length (l.flatMap (fun e=>epL (zD e))) S')
 case atStart=>exact⟨S,q,⟨some ⟨w.heap.size,0,none⟩,0⟩,[],rfl,rfl,by omega,by simp,HH.alloc _,(IS.refl _ _ _).alloc _,zlU HH _ _⟩
 case round=>
  obtain⟨S',q',r,l,rfl,hy,hk,hl,m',s',f'⟩:=hrel
  have az:Hid (za4 C true q []=za4 C true q' l):=hy
  have HY:=zc (az.out.trans (zk6 C true q' l))
  have ar:=m'
  have aw:=s'
  have aH:Hid (Fr 97 4 wr w.heap.size r l.length (l.flatMap (fun e=>epL (zD e))) S'):=f'
  have aI:=m'.mem.few
  clear hy m' s' f'
  go_wp2_with fail
  refine (zfz C L z base A S' q' _ ar).mono ?_
  cases al:zm C true q' with
  |error p=>
   rintro e w1 ⟨rfl,hb⟩
   have HB:=(HH.back aw).trans hb
   have HX:Hid (za4 C true q []= .error p):=by show _=_;rw[HY.out,zb9,al];rfl
   unfold Pan
   go_wp2
   refine⟨rfl,?_⟩
   rw[HX.out]
   exact⟨rfl,HB⟩
  |ok a=>
   rintro e w1 ⟨rfl,H,m,s⟩
   have ak:=m
   have am:=aw.trans s
   have an:Hid (Fr 97 4 w1 w.heap.size r l.length (l.flatMap (fun e=>epL (zD e))) H):=aH.out.step ar (by decide) s
   clear m s
   cases aj:isT C a.1.pos 1 sAs with
   |true=>
    have HW:=zc (zt8 al aj)
    go_wp2_with fail
    refine (zO C L z base A H a.1 1 sAs _ ak (by decide)).mono ?_
    rintro e w2 ⟨rfl,m,s⟩
    rw[aj] at m ⊢
    have U:Hid (IM C L z base A H (adv a.1) w2):=m
    have ae:Hid (IS A S w H w2):=am.trans s
    have V:Hid (Fr 97 4 w2 w.heap.size r l.length (l.flatMap (fun e=>epL (zD e))) H):=an.out.step ak (by decide) s
    clear m s
    go_wp2_with fail
    refine (zfz C L z base A H (adv a.1) _ U.out).mono ?_
    cases ap:zm C true (adv a.1) with
    |error p=>
     rintro e w3 ⟨rfl,hb⟩
     have HB:=(HH.back ae.out).trans hb
     have HX:Hid (za4 C true q []= .error p):=by show _=_;rw[HY.out,HW.out,ap];rfl
     unfold Pan
     go_wp2
     refine⟨rfl,?_⟩
     rw[HX.out]
     exact⟨rfl,HB⟩
    |ok c=>
     rintro e w3 ⟨rfl,S3,m,s⟩
     have K:Hid (IM C L z base A S3 c.1 w3):=m
     have af:Hid (IS A S w S3 w3):=ae.out.trans s
     have N:Hid (Fr 97 4 w3 w.heap.size r l.length (l.flatMap (fun e=>epL (zD e))) S3):=V.out.step U.out (by decide) s
     clear m s
     have I:=zc (bdO HW.out ap)
     have HE:=zc (bdO HY.out I.out)
     have aG:=ziv I.out
     have ay:=K.out.mem.inv.pos
     have O:=fun o1=>(N.out.later ((Below.refl w3.heap.size w3).alloc (Nat.le_refl _) o1)).1
     have ad:=fun o1=>(af.out.alloc o1).size
     go_wp2_with (at_builtin;refine zbb _ rfl _ _ 50 rfl w.heap.size 97 i0 _ 4 56 Tryz.underlying50 hi ao ax av rfl (by decide) (by decide) r l.length _ (by rfl) (O _) w3.heap.size (epL (zD (⟨0,c.2,a.2,sNone⟩:Ep))) (by rfl) (by exact heap_alloc_new w3 _) rfl (zgr _) (by omega) (ad _) ?_;intro X w4 hr Z ah;have M:Hid (IM C L z base A S3 c.1 w4):=(K.out.alloc _).aside Z (fun k g=>⟨N.out.2 k g,N.out.ngp K.out (by decide) g,N.out.ngt K.out (by decide) g⟩);have Y:Hid (IS A S w S3 w4):=(af.out.alloc _).aside Z (fun k g=>(N.out.1.typed g).1);have ai:Hid (Fr 97 4 w4 w.heap.size X (l.length+1) _ S3):=(N.out.later ((Below.refl _ _).alloc (Nat.le_refl _) _)).grown (K.out.alloc _) hr ah;clear hr Z ah O ad)
     have el:(l++[(⟨0,c.2,a.2,sNone⟩:Ep)]).length=l.length+1:=by simp
     have ac:Hid (Fr 97 4 w4 w.heap.size X (l++[(⟨0,c.2,a.2,sNone⟩:Ep)]).length ((l++[(⟨0,c.2,a.2,sNone⟩:Ep)]).flatMap (fun e=>epL (zD e))) S3):=by
      show Fr ..
      rw[el,List.flatMap_append]
      simpa using ai.out
     have J:Hid ((l++[(⟨0,c.2,a.2,sNone⟩:Ep)]).length=l.length+1):=el
     clear el ai
     go_wp2_with fail
     cases hc:isT C c.1.pos 4 zbF with
     |true=>
      have aB:=za9 hc (by decide)
      have HC:=zc (HE.out.trans (if_pos hc))
      refine (zO C L z base A S3 (c.1) 4 zbF _ M.out (by decide)).mono ?_
      rintro e w5 ⟨rfl,m,s⟩
      rw[hc] at m ⊢
      have aa:=m
      have ab:=Y.out.trans s
      have ag:Hid (Fr 97 4 w5 w.heap.size X (l++[(⟨0,c.2,a.2,sNone⟩:Ep)]).length ((l++[(⟨0,c.2,a.2,sNone⟩:Ep)]).flatMap (fun e=>epL (zD e))) S3):=ac.out.step M.out (by decide) s
      clear m s
      go_wp2
      go_roundg (gk-1)
      case rel=>exact⟨S3,adv c.1,X,(l++[(⟨0,c.2,a.2,sNone⟩:Ep)]),by rw[J.out],HC.out,by rw[zz];omega,by rw[zz,J.out];omega,aa,ab,ag.out⟩
      case measure=>omega
     |false=>
      have HC:=zc (HE.out.trans (if_neg (by rw[hc];decide)))
      refine (zO C L z base A S3 (c.1) 4 zbF _ M.out (by decide)).mono ?_
      rintro e w5 ⟨rfl,m,s⟩
      rw[hc] at m ⊢
      have aa:=m
      have ab:=Y.out.trans s
      have ag:Hid (Fr 97 4 w5 w.heap.size X (l++[(⟨0,c.2,a.2,sNone⟩:Ep)]).length ((l++[(⟨0,c.2,a.2,sNone⟩:Ep)]).flatMap (fun e=>epL (zD e))) S3):=ac.out.step M.out (by decide) s
      clear m s
      go_wp2_with fail
      refine (zc3 C L z base A S3 c.1 125 _ aa).mono ?_
      cases au:zd C 4 zb1 c.1 with
      |error p=>
       rintro e w6 ⟨rfl,hb⟩
       have HB:=(HH.back ab).trans hb
       have HX:Hid (za4 C true q []= .error p):=bdE HC.out au
       unfold Pan
       go_wp2
       refine⟨rfl,?_⟩
       rw[HX.out]
       exact⟨rfl,HB⟩
      |ok a6=>
       rintro e w6 ⟨rfl,S6,m,s⟩
       have aF:Hid (Fr 97 4 w6 w.heap.size X (l++[(⟨0,c.2,a.2,sNone⟩:Ep)]).length ((l++[(⟨0,c.2,a.2,sNone⟩:Ep)]).flatMap (fun e=>epL (zD e))) S6):=ag.out.step aa (by decide) s
       have aE:=m
       have aD:=ab.trans s
       clear m s
       have aA:=zc (bdO HC.out au)
       go_wp2
       go_ret
       rw[aA.out]
       exact⟨X,S6,by rw[J.out];rfl,aE,aD,aF.out,by show 0<(l++[(⟨0,c.2,a.2,sNone⟩:Ep)]).length;rw[J.out];omega,by show (l++[(⟨0,c.2,a.2,sNone⟩:Ep)]).length≤4000;rw[J.out];omega⟩
   |false=>
    have I:=zc (zt9 al aj)
    have HE:=zc (bdO HY.out I.out)
    go_wp2_with fail
    refine (zO C L z base A H a.1 1 sAs _ ak (by decide)).mono ?_
    rintro e w2 ⟨rfl,m,s⟩
    rw[aj] at m ⊢
    have U:Hid (IM C L z base A H a.1 w2):=m
    have ae:Hid (IS A S w H w2):=am.trans s
    have V:Hid (Fr 97 4 w2 w.heap.size r l.length (l.flatMap (fun e=>epL (zD e))) H):=an.out.step ak (by decide) s
    clear m s
    have aG:=ziv I.out
    have ay:=U.out.mem.inv.pos
    have O:=fun o1=>(V.out.later ((Below.refl w2.heap.size w2).alloc (Nat.le_refl _) o1)).1
    have ad:=fun o1=>(ae.out.alloc o1).size
    go_wp2_with (at_builtin;refine zbb _ rfl _ _ 50 rfl w.heap.size 97 i0 _ 4 56 Tryz.underlying50 hi ao ax av rfl (by decide) (by decide) r l.length _ (by rfl) (O _) w2.heap.size (epL (zD (⟨0,a.2,a.2,sNone⟩:Ep))) (by rfl) (by exact heap_alloc_new w2 _) rfl (zgr _) (by omega) (ad _) ?_;intro X w3 hr Z ah;have K:Hid (IM C L z base A H a.1 w3):=(U.out.alloc _).aside Z (fun k g=>⟨V.out.2 k g,V.out.ngp U.out (by decide) g,V.out.ngt U.out (by decide) g⟩);have af:Hid (IS A S w H w3):=(ae.out.alloc _).aside Z (fun k g=>(V.out.1.typed g).1);have ai:Hid (Fr 97 4 w3 w.heap.size X (l.length+1) _ H):=(V.out.later ((Below.refl _ _).alloc (Nat.le_refl _) _)).grown (U.out.alloc _) hr ah;clear hr Z ah O ad)
    have el:(l++[(⟨0,a.2,a.2,sNone⟩:Ep)]).length=l.length+1:=by simp
    have N:Hid (Fr 97 4 w3 w.heap.size X (l++[(⟨0,a.2,a.2,sNone⟩:Ep)]).length ((l++[(⟨0,a.2,a.2,sNone⟩:Ep)]).flatMap (fun e=>epL (zD e))) H):=by
     show Fr ..
     rw[el,List.flatMap_append]
     simpa using ai.out
    have J:Hid ((l++[(⟨0,a.2,a.2,sNone⟩:Ep)]).length=l.length+1):=el
    clear el ai
    go_wp2_with fail
    cases hc:isT C a.1.pos 4 zbF with
    |true=>
     have aB:=za9 hc (by decide)
     have HC:=zc (HE.out.trans (if_pos hc))
     refine (zO C L z base A H (a.1) 4 zbF _ K.out (by decide)).mono ?_
     rintro e w4 ⟨rfl,m,s⟩
     rw[hc] at m ⊢
     have M:Hid (IM C L z base A H (adv (a.1)) w4):=m
     have Y:Hid (IS A S w H w4):=af.out.trans s
     have ac:Hid (Fr 97 4 w4 w.heap.size X (l++[(⟨0,a.2,a.2,sNone⟩:Ep)]).length ((l++[(⟨0,a.2,a.2,sNone⟩:Ep)]).flatMap (fun e=>epL (zD e))) H):=N.out.step K.out (by decide) s
     clear m s
     go_wp2
     go_roundg (gk-1)
     case rel=>exact⟨H,adv a.1,X,(l++[(⟨0,a.2,a.2,sNone⟩:Ep)]),by rw[J.out],HC.out,by rw[zz];omega,by rw[zz,J.out];omega,M.out,Y.out,ac.out⟩
     case measure=>omega
    |false=>
     have HC:=zc (HE.out.trans (if_neg (by rw[hc];decide)))
     refine (zO C L z base A H (a.1) 4 zbF _ K.out (by decide)).mono ?_
     rintro e w4 ⟨rfl,m,s⟩
     rw[hc] at m ⊢
     have M:Hid (IM C L z base A H (a.1) w4):=m
     have Y:Hid (IS A S w H w4):=af.out.trans s
     have ac:Hid (Fr 97 4 w4 w.heap.size X (l++[(⟨0,a.2,a.2,sNone⟩:Ep)]).length ((l++[(⟨0,a.2,a.2,sNone⟩:Ep)]).flatMap (fun e=>epL (zD e))) H):=N.out.step K.out (by decide) s
     clear m s
     go_wp2_with fail
     refine (zc3 C L z base A H a.1 125 _ M.out).mono ?_
     cases aq:zd C 4 zb1 a.1 with
     |error p=>
      rintro e w5 ⟨rfl,hb⟩
      have HB:=(HH.back Y.out).trans hb
      have HX:Hid (za4 C true q []= .error p):=bdE HC.out aq
      unfold Pan
      go_wp2
      refine⟨rfl,?_⟩
      rw[HX.out]
      exact⟨rfl,HB⟩
     |ok a5=>
      rintro e w5 ⟨rfl,S5,m,s⟩
      have ag:Hid (Fr 97 4 w5 w.heap.size X (l++[(⟨0,a.2,a.2,sNone⟩:Ep)]).length ((l++[(⟨0,a.2,a.2,sNone⟩:Ep)]).flatMap (fun e=>epL (zD e))) S5):=ac.out.step M.out (by decide) s
      have aa:=m
      have ab:=Y.out.trans s
      clear m s
      have aC:=zc (bdO HC.out aq)
      go_wp2
      go_ret
      rw[aC.out]
      exact⟨X,S5,by rw[J.out];rfl,aa,ab,ag.out,by show 0<(l++[(⟨0,a.2,a.2,sNone⟩:Ep)]).length;rw[J.out];omega,by show (l++[(⟨0,a.2,a.2,sNone⟩:Ep)]).length≤4000;rw[J.out];omega⟩
end Go.Proofs.YtgcbmogmniahjaaGreat