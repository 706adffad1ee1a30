/-
 What exportList of impl's parser answers: the walk.
-/
import Derived.Test.YtjdddblpfbmpaaaGreatCmImplPrintCToImplParseT
namespace Go.Proofs.YtjdddblpfbmpaaaGreat
set_option maxRecDepth 100000
set_option maxHeartbeats 3200000
open Go.RowKit Go.PlainAid Go.Sort
theorem zsW {C:Cx} {q:PS} {a:PS×ByteArray} (j:zo C true q= .ok a) (h:isT C a.1.pos 1 sAs=true):zbB C true q=bd (zo C true (adv a.1)) fun b=>.ok (b.1,⟨0,b.2,a.2,sNone⟩):=by
 rw[zbB,j,zC,asP,if_pos h]
theorem zsX {C:Cx} {q:PS} {a:PS×ByteArray} (j:zo C true q= .ok a) (h:isT C a.1.pos 1 sAs=false):zbB C true q= .ok (a.1,⟨0,a.2,a.2,sNone⟩):=by
 rw[zbB,j,zC,asP,if_neg (by rw[h];decide),if_neg (by simp)]
 rfl
theorem zsY (C:Cx) (M z j A:Nat) (S:Sv) (q:PS) (w:World) (h:IM C M z j A S q w):
  Calls Tryz.prog 211 #[.pointer (some ⟨A,0,none⟩)] w (zlA C M z j A 86 4 (fun e=>epL (zD e)) (za5 C true q []) S w):=by
 obtain⟨i0,hi,ap,ay,aw⟩:=info_parts Tryz.infoExp
 have HH:=h
 clear h
 go_enter Tryz.func211,Tryz.ntmps211
 go_wp2
 go_loopg [3] (C.ts.length+1) (fun k v wr=>∃(S':Sv) (q':PS) (r:Rw) (l:List Ep),v= .slice r.a l.length r.cap∧za5 C true q []=za5 C true q' l∧C.ts.length-q'.pos<k∧l.length+(C.ts.length-q'.pos)≤C.ts.length∧IM C M z j A S' q' wr∧IS A S w S' wr∧Fr 86 4 wr w.heap.size r l.length (l.flatMap (fun e=>epL (zD e))) S')
 case atStart=>exact⟨S,q,⟨some ⟨w.heap.size,0,none⟩,0⟩,[],rfl,rfl,by omega,by simp,HH.alloc _,(IS.refl _ _ _).alloc _,zlB HH _ _⟩
 case round=>
  obtain⟨S',q',r,l,rfl,hy,hk,hl,m',s',f'⟩:=hrel
  have aA:Hid (za5 C true q []=za5 C true q' l):=hy
  have HY:=zc (aA.out.trans (zkU C true q' l))
  have au:=m'
  have ax:=s'
  have aI:Hid (Fr 86 4 wr w.heap.size r l.length (l.flatMap (fun e=>epL (zD e))) S'):=f'
  have aJ:=m'.mem.few
  clear hy m' s' f'
  go_wp2_with fail
  refine (zfm C M z j A S' q' _ au).mono ?_
  cases am:zo C true q' with
  |error p=>
   rintro e w1 ⟨rfl,hb⟩
   have HB:=(HH.back ax).trans hb
   have HX:Hid (za5 C true q []= .error p):=by show _=_;rw[HY.out,zbB,am];rfl
   unfold Pan
   go_wp2
   refine⟨rfl,?_⟩
   rw[HX.out]
   exact⟨rfl,HB⟩
  |ok a=>
   rintro e w1 ⟨rfl,H,m,s⟩
   have al:=m
   have an:=ax.trans s
   have ao:Hid (Fr 86 4 w1 w.heap.size r l.length (l.flatMap (fun e=>epL (zD e))) H):=aI.out.step au (by decide) s
   clear m s
   cases ak:isT C a.1.pos 1 sAs with
   |true=>
    have HW:=zc (zsW am ak)
    go_wp2_with fail
    refine (zO C M z j A H a.1 1 sAs _ al (by decide)).mono ?_
    rintro e w2 ⟨rfl,m,s⟩
    rw[ak] at m ⊢
    have V:Hid (IM C M z j A H (adv a.1) w2):=m
    have af:Hid (IS A S w H w2):=an.trans s
    have X:Hid (Fr 86 4 w2 w.heap.size r l.length (l.flatMap (fun e=>epL (zD e))) H):=ao.out.step al (by decide) s
    clear m s
    go_wp2_with fail
    refine (zfm C M z j A H (adv a.1) _ V.out).mono ?_
    cases aq:zo C true (adv a.1) with
    |error p=>
     rintro e w3 ⟨rfl,hb⟩
     have HB:=(HH.back af.out).trans hb
     have HX:Hid (za5 C true q []= .error p):=by show _=_;rw[HY.out,HW.out,aq];rfl
     unfold Pan
     go_wp2
     refine⟨rfl,?_⟩
     rw[HX.out]
     exact⟨rfl,HB⟩
    |ok c=>
     rintro e w3 ⟨rfl,S3,m,s⟩
     have L:Hid (IM C M z j A S3 c.1 w3):=m
     have ag:Hid (IS A S w S3 w3):=af.out.trans s
     have O:Hid (Fr 86 4 w3 w.heap.size r l.length (l.flatMap (fun e=>epL (zD e))) S3):=X.out.step V.out (by decide) s
     clear m s
     have I:=zc (bdO HW.out aq)
     have HE:=zc (bdO HY.out I.out)
     have aH:=ziv I.out
     have az:=L.out.mem.inv.pos
     have U:=fun o1=>(O.out.later ((Below.refl w3.heap.size w3).alloc (Nat.le_refl _) o1)).1
     have ae:=fun o1=>(ag.out.alloc o1).size
     go_wp2_with (at_builtin;refine zcw _ rfl _ _ 32 rfl w.heap.size 86 i0 _ 4 56 Tryz.underlying32 hi ap ay aw rfl (by decide) (by decide) r l.length _ (by rfl) (U _) w3.heap.size (epL (zD (⟨0,c.2,a.2,sNone⟩:Ep))) (by rfl) (by exact heap_alloc_new w3 _) rfl (zfp _) (by omega) (ae _) ?_;intro Y w4 hr aa ai;have N:Hid (IM C M z j A S3 c.1 w4):=(L.out.alloc _).aside aa (fun k g=>⟨O.out.2 k g,O.out.ngp L.out (by decide) g,O.out.ngt L.out (by decide) g⟩);have Z:Hid (IS A S w S3 w4):=(ag.out.alloc _).aside aa (fun k g=>(O.out.1.typed g).1);have aj:Hid (Fr 86 4 w4 w.heap.size Y (l.length+1) _ S3):=(O.out.later ((Below.refl _ _).alloc (Nat.le_refl _) _)).grown (L.out.alloc _) hr ai;clear hr aa ai U ae)
     have el:(l++[(⟨0,c.2,a.2,sNone⟩:Ep)]).length=l.length+1:=by simp
     have ad:Hid (Fr 86 4 w4 w.heap.size Y (l++[(⟨0,c.2,a.2,sNone⟩:Ep)]).length ((l++[(⟨0,c.2,a.2,sNone⟩:Ep)]).flatMap (fun e=>epL (zD e))) S3):=by
      show Fr ..
      rw[el,List.flatMap_append]
      simpa using aj.out
     have J:Hid ((l++[(⟨0,c.2,a.2,sNone⟩:Ep)]).length=l.length+1):=el
     clear el aj
     go_wp2_with fail
     cases hc:isT C c.1.pos 4 zbF with
     |true=>
      have aC:=za9 hc (by decide)
      have HC:=zc (HE.out.trans (if_pos hc))
      refine (zO C M z j A S3 (c.1) 4 zbF _ N.out (by decide)).mono ?_
      rintro e w5 ⟨rfl,m,s⟩
      rw[hc] at m ⊢
      have ab:=m
      have ac:=Z.out.trans s
      have ah:Hid (Fr 86 4 w5 w.heap.size Y (l++[(⟨0,c.2,a.2,sNone⟩:Ep)]).length ((l++[(⟨0,c.2,a.2,sNone⟩:Ep)]).flatMap (fun e=>epL (zD e))) S3):=ad.out.step N.out (by decide) s
      clear m s
      go_wp2
      go_roundg (gk-1)
      case rel=>exact⟨S3,adv c.1,Y,(l++[(⟨0,c.2,a.2,sNone⟩:Ep)]),by rw[J.out],HC.out,by rw[zz];omega,by rw[zz,J.out];omega,ab,ac,ah.out⟩
      case measure=>omega
     |false=>
      have HC:=zc (HE.out.trans (if_neg (by rw[hc];decide)))
      refine (zO C M z j A S3 (c.1) 4 zbF _ N.out (by decide)).mono ?_
      rintro e w5 ⟨rfl,m,s⟩
      rw[hc] at m ⊢
      have ab:=m
      have ac:=Z.out.trans s
      have ah:Hid (Fr 86 4 w5 w.heap.size Y (l++[(⟨0,c.2,a.2,sNone⟩:Ep)]).length ((l++[(⟨0,c.2,a.2,sNone⟩:Ep)]).flatMap (fun e=>epL (zD e))) S3):=ad.out.step N.out (by decide) s
      clear m s
      go_wp2_with fail
      refine (zcy C M z j A S3 c.1 125 _ ab).mono ?_
      cases av:zd C 4 zb2 c.1 with
      |error p=>
       rintro e w6 ⟨rfl,hb⟩
       have HB:=(HH.back ac).trans hb
       have HX:Hid (za5 C true q []= .error p):=bdE HC.out av
       unfold Pan
       go_wp2
       refine⟨rfl,?_⟩
       rw[HX.out]
       exact⟨rfl,HB⟩
      |ok a6=>
       rintro e w6 ⟨rfl,S6,m,s⟩
       have aG:Hid (Fr 86 4 w6 w.heap.size Y (l++[(⟨0,c.2,a.2,sNone⟩:Ep)]).length ((l++[(⟨0,c.2,a.2,sNone⟩:Ep)]).flatMap (fun e=>epL (zD e))) S6):=ah.out.step ab (by decide) s
       have aF:=m
       have aE:=ac.trans s
       clear m s
       have aB:=zc (bdO HC.out av)
       go_wp2
       go_ret
       rw[aB.out]
       exact⟨Y,S6,by rw[J.out];rfl,aF,aE,aG.out,by show 0<(l++[(⟨0,c.2,a.2,sNone⟩:Ep)]).length;rw[J.out];omega,by show (l++[(⟨0,c.2,a.2,sNone⟩:Ep)]).length≤4000;rw[J.out];omega⟩
   |false=>
    have I:=zc (zsX am ak)
    have HE:=zc (bdO HY.out I.out)
    go_wp2_with fail
    refine (zO C M z j A H a.1 1 sAs _ al (by decide)).mono ?_
    rintro e w2 ⟨rfl,m,s⟩
    rw[ak] at m ⊢
    have V:Hid (IM C M z j A H a.1 w2):=m
    have af:Hid (IS A S w H w2):=an.trans s
    have X:Hid (Fr 86 4 w2 w.heap.size r l.length (l.flatMap (fun e=>epL (zD e))) H):=ao.out.step al (by decide) s
    clear m s
    have aH:=ziv I.out
    have az:=V.out.mem.inv.pos
    have U:=fun o1=>(X.out.later ((Below.refl w2.heap.size w2).alloc (Nat.le_refl _) o1)).1
    have ae:=fun o1=>(af.out.alloc o1).size
    go_wp2_with (at_builtin;refine zcw _ rfl _ _ 32 rfl w.heap.size 86 i0 _ 4 56 Tryz.underlying32 hi ap ay aw rfl (by decide) (by decide) r l.length _ (by rfl) (U _) w2.heap.size (epL (zD (⟨0,a.2,a.2,sNone⟩:Ep))) (by rfl) (by exact heap_alloc_new w2 _) rfl (zfp _) (by omega) (ae _) ?_;intro Y w3 hr aa ai;have L:Hid (IM C M z j A H a.1 w3):=(V.out.alloc _).aside aa (fun k g=>⟨X.out.2 k g,X.out.ngp V.out (by decide) g,X.out.ngt V.out (by decide) g⟩);have ag:Hid (IS A S w H w3):=(af.out.alloc _).aside aa (fun k g=>(X.out.1.typed g).1);have aj:Hid (Fr 86 4 w3 w.heap.size Y (l.length+1) _ H):=(X.out.later ((Below.refl _ _).alloc (Nat.le_refl _) _)).grown (V.out.alloc _) hr ai;clear hr aa ai U ae)
    have el:(l++[(⟨0,a.2,a.2,sNone⟩:Ep)]).length=l.length+1:=by simp
    have O:Hid (Fr 86 4 w3 w.heap.size Y (l++[(⟨0,a.2,a.2,sNone⟩:Ep)]).length ((l++[(⟨0,a.2,a.2,sNone⟩:Ep)]).flatMap (fun e=>epL (zD e))) H):=by
     show Fr ..
     rw[el,List.flatMap_append]
     simpa using aj.out
    have J:Hid ((l++[(⟨0,a.2,a.2,sNone⟩:Ep)]).length=l.length+1):=el
    clear el aj
    go_wp2_with fail
    cases hc:isT C a.1.pos 4 zbF with
    |true=>
     have aC:=za9 hc (by decide)
     have HC:=zc (HE.out.trans (if_pos hc))
     refine (zO C M z j A H (a.1) 4 zbF _ L.out (by decide)).mono ?_
     rintro e w4 ⟨rfl,m,s⟩
     rw[hc] at m ⊢
     have N:Hid (IM C M z j A H (adv (a.1)) w4):=m
     have Z:Hid (IS A S w H w4):=ag.out.trans s
     have ad:Hid (Fr 86 4 w4 w.heap.size Y (l++[(⟨0,a.2,a.2,sNone⟩:Ep)]).length ((l++[(⟨0,a.2,a.2,sNone⟩:Ep)]).flatMap (fun e=>epL (zD e))) H):=O.out.step L.out (by decide) s
     clear m s
     go_wp2
     go_roundg (gk-1)
     case rel=>exact⟨H,adv a.1,Y,(l++[(⟨0,a.2,a.2,sNone⟩:Ep)]),by rw[J.out],HC.out,by rw[zz];omega,by rw[zz,J.out];omega,N.out,Z.out,ad.out⟩
     case measure=>omega
    |false=>
     have HC:=zc (HE.out.trans (if_neg (by rw[hc];decide)))
     refine (zO C M z j A H (a.1) 4 zbF _ L.out (by decide)).mono ?_
     rintro e w4 ⟨rfl,m,s⟩
     rw[hc] at m ⊢
     have N:Hid (IM C M z j A H (a.1) w4):=m
     have Z:Hid (IS A S w H w4):=ag.out.trans s
     have ad:Hid (Fr 86 4 w4 w.heap.size Y (l++[(⟨0,a.2,a.2,sNone⟩:Ep)]).length ((l++[(⟨0,a.2,a.2,sNone⟩:Ep)]).flatMap (fun e=>epL (zD e))) H):=O.out.step L.out (by decide) s
     clear m s
     go_wp2_with fail
     refine (zcy C M z j A H a.1 125 _ N.out).mono ?_
     cases ar:zd C 4 zb2 a.1 with
     |error p=>
      rintro e w5 ⟨rfl,hb⟩
      have HB:=(HH.back Z.out).trans hb
      have HX:Hid (za5 C true q []= .error p):=bdE HC.out ar
      unfold Pan
      go_wp2
      refine⟨rfl,?_⟩
      rw[HX.out]
      exact⟨rfl,HB⟩
     |ok a5=>
      rintro e w5 ⟨rfl,S5,m,s⟩
      have ah:Hid (Fr 86 4 w5 w.heap.size Y (l++[(⟨0,a.2,a.2,sNone⟩:Ep)]).length ((l++[(⟨0,a.2,a.2,sNone⟩:Ep)]).flatMap (fun e=>epL (zD e))) S5):=ad.out.step N.out (by decide) s
      have ab:=m
      have ac:=Z.out.trans s
      clear m s
      have aD:=zc (bdO HC.out ar)
      go_wp2
      go_ret
      rw[aD.out]
      exact⟨Y,S5,by rw[J.out];rfl,ab,ac,ah.out,by show 0<(l++[(⟨0,a.2,a.2,sNone⟩:Ep)]).length;rw[J.out];omega,by show (l++[(⟨0,a.2,a.2,sNone⟩:Ep)]).length≤4000;rw[J.out];omega⟩
end Go.Proofs.YtjdddblpfbmpaaaGreat