/-
 What exportList of impl's parser answers: the walk.
-/
import Derived.Test.YthfeoomfiafldaaGreatCdImplPrintCToImplParseT
namespace Go.Proofs.YthfeoomfiafldaaGreat
set_option maxRecDepth 100000
set_option maxHeartbeats 3200000
open Go.RowKit Go.PlainAid Go.Sort
theorem zsN {C:Cx} {q:PS} {a:PS×ByteArray} (j:zk C true q= .ok a) (h:isT C a.1.pos 1 sAs=true):zbG C true q=bd (zk C true (adv a.1)) fun b=>.ok (b.1,⟨0,b.2,a.2,sNone⟩):=by
 rw[zbG,j,zh,asP,if_pos h]
theorem zsO {C:Cx} {q:PS} {a:PS×ByteArray} (j:zk C true q= .ok a) (h:isT C a.1.pos 1 sAs=false):zbG C true q= .ok (a.1,⟨0,a.2,a.2,sNone⟩):=by
 rw[zbG,j,zh,asP,if_neg (by rw[h];decide),if_neg (by simp)]
 rfl
theorem zsP (C:Cx) (D o j z:Nat) (S:Sv) (q:PS) (w:World) (h:IM C D o j z S q w):
  Calls Tryz.prog 118 #[.pointer (some ⟨z,0,none⟩)] w (zlS C D o j z 77 4 (fun e=>epL (zD e)) (zay C true q []) S w):=by
 obtain⟨i0,hi,al,ar,aq⟩:=info_parts Tryz.infoExp
 have HH:Hid (IM C D o j z S q w):=h
 clear h
 go_enter Tryz.func118,Tryz.ntmps118
 go_wp2
 go_loopg [3] (C.ts.length+1) (fun k v wr=>∃(S':Sv) (q':PS) (r:Rw) (l:List Ep),v= .slice r.a l.length r.cap∧zay C true q []=zay C true q' l∧C.ts.length-q'.pos<k∧l.length+(C.ts.length-q'.pos)≤C.ts.length∧IM C D o j z S' q' wr∧IS z S w S' wr∧Fr 77 4 wr w.heap.size r l.length (l.flatMap (fun e=>epL (zD e))) S')
 case atStart=>exact⟨S,q,⟨some ⟨w.heap.size,0,none⟩,0⟩,[],rfl,rfl,by omega,by simp,HH.out.alloc _,(IS.refl _ _ _).alloc _,zlT HH.out _ _⟩
 case round=>
  obtain⟨S',q',r,l,rfl,hy,hk,hl,m',s',f'⟩:=hrel
  have aA:Hid (zay C true q []=zay C true q' l):=hy
  have HY:=zc (aA.out.trans (zlv C true q' l))
  have av:Hid (IM C D o j z S' q' wr):=m'
  have an:Hid (IS z S w S' wr):=s'
  have aB:Hid (Fr 77 4 wr w.heap.size r l.length (l.flatMap (fun e=>epL (zD e))) S'):=f'
  have aH:=m'.mem.few
  clear hy m' s' f'
  go_wp2_with fail
  refine (zfB C D o j z S' q' _ av.out).mono ?_
  cases ak:zk C true q' with
  |error p=>
   rintro e w1 ⟨rfl,hb⟩
   have HB:Hid (Below j w w1):=(HH.out.back an.out).trans hb
   have HX:Hid (zay C true q []= .error p):=by show _=_;rw[HY.out,zbG,ak];rfl
   unfold Pan
   go_wp2
   refine⟨rfl,?_⟩
   rw[HX.out]
   exact⟨rfl,HB.out⟩
  |ok a=>
   rintro e w1 ⟨rfl,E,m,s⟩
   have ai:Hid (IM C D o j z E a.1 w1):=m
   have ao:Hid (IS z S w E w1):=an.out.trans s
   have am:Hid (Fr 77 4 w1 w.heap.size r l.length (l.flatMap (fun e=>epL (zD e))) E):=aB.out.step av.out (by decide) s
   clear m s
   cases aj:isT C a.1.pos 1 sAs with
   |true=>
    have HW:=zc (zsN ak aj)
    go_wp2_with fail
    refine (zP C D o j z E a.1 1 sAs _ ai.out (by decide)).mono ?_
    rintro e w2 ⟨rfl,m,s⟩
    rw[aj] at m ⊢
    have Q:Hid (IM C D o j z E (adv a.1) w2):=m
    have ah:Hid (IS z S w E w2):=ao.out.trans s
    have M:Hid (Fr 77 4 w2 w.heap.size r l.length (l.flatMap (fun e=>epL (zD e))) E):=am.out.step ai.out (by decide) s
    clear m s
    go_wp2_with fail
    refine (zfB C D o j z E (adv a.1) _ Q.out).mono ?_
    cases au:zk C true (adv a.1) with
    |error p=>
     rintro e Y ⟨rfl,hb⟩
     have HB:Hid (Below j w Y):=(HH.out.back ah.out).trans hb
     have HX:Hid (zay C true q []= .error p):=by show _=_;rw[HY.out,HW.out,au];rfl
     unfold Pan
     go_wp2
     refine⟨rfl,?_⟩
     rw[HX.out]
     exact⟨rfl,HB.out⟩
    |ok c=>
     rintro e Y ⟨rfl,O,m,s⟩
     have J:Hid (IM C D o j z O c.1 Y):=m
     have ad:Hid (IS z S w O Y):=ah.out.trans s
     have L:Hid (Fr 77 4 Y w.heap.size r l.length (l.flatMap (fun e=>epL (zD e))) O):=M.out.step Q.out (by decide) s
     clear m s
     have I:=zc (bdO HW.out au)
     have HE:=zc (bdO HY.out I.out)
     have aD:=ziQ I.out
     have aE:=J.out.mem.inv.pos
     have N:=fun o1=>(L.out.later ((Below.refl Y.heap.size Y).alloc (Nat.le_refl _) o1)).1
     have af:=fun o1=>(ad.out.alloc o1).size
     go_wp2_with (at_builtin;refine zcC _ rfl _ _ 28 rfl w.heap.size 77 i0 _ 4 56 Tryz.underlying28 hi al ar aq rfl (by decide) (by decide) r l.length _ (by rfl) (N _) Y.heap.size (epL (zD (⟨0,c.2,a.2,sNone⟩:Ep))) (by rfl) (by exact heap_alloc_new Y _) rfl (zg9 _) (by omega) (af _) ?_;intro V w4 hr U ag;have K:Hid (IM C D o j z O c.1 w4):=(J.out.alloc _).aside U (fun k g=>⟨L.out.2 k g,L.out.ngp J.out (by decide) g,L.out.ngt J.out (by decide) g⟩);have X:Hid (IS z S w O w4):=(ad.out.alloc _).aside U (fun k g=>(L.out.1.typed g).1);have ae:Hid (Fr 77 4 w4 w.heap.size V (l.length+1) _ O):=(L.out.later ((Below.refl _ _).alloc (Nat.le_refl _) _)).grown (J.out.alloc _) hr ag;clear hr U ag N af)
     have el:(l++[(⟨0,c.2,a.2,sNone⟩:Ep)]).length=l.length+1:=by simp
     have aa:Hid (Fr 77 4 w4 w.heap.size V (l++[(⟨0,c.2,a.2,sNone⟩:Ep)]).length ((l++[(⟨0,c.2,a.2,sNone⟩:Ep)]).flatMap (fun e=>epL (zD e))) O):=by
      show Fr ..
      rw[el,List.flatMap_append]
      simpa using ae.out
     have H:Hid ((l++[(⟨0,c.2,a.2,sNone⟩:Ep)]).length=l.length+1):=el
     clear el ae
     go_wp2_with fail
     cases hc:isT C c.1.pos 4 zbv with
     |true=>
      have aC:=za1 hc (by decide)
      have HC:=zc (HE.out.trans (if_pos hc))
      refine (zP C D o j z O (c.1) 4 zbv _ K.out (by decide)).mono ?_
      rintro e w5 ⟨rfl,m,s⟩
      rw[hc] at m ⊢
      have Z:Hid (IM C D o j z O (adv (c.1)) w5):=m
      have ab:Hid (IS z S w O w5):=X.out.trans s
      have ac:Hid (Fr 77 4 w5 w.heap.size V (l++[(⟨0,c.2,a.2,sNone⟩:Ep)]).length ((l++[(⟨0,c.2,a.2,sNone⟩:Ep)]).flatMap (fun e=>epL (zD e))) O):=aa.out.step K.out (by decide) s
      clear m s
      go_wp2
      go_roundg (gk-1)
      case rel=>exact⟨O,adv c.1,V,(l++[(⟨0,c.2,a.2,sNone⟩:Ep)]),by rw[H.out],HC.out,by rw[zz];omega,by rw[zz,H.out];omega,Z.out,ab.out,ac.out⟩
      case measure=>omega
     |false=>
      have HC:=zc (HE.out.trans (if_neg (by rw[hc];decide)))
      refine (zP C D o j z O (c.1) 4 zbv _ K.out (by decide)).mono ?_
      rintro e w5 ⟨rfl,m,s⟩
      rw[hc] at m ⊢
      have Z:Hid (IM C D o j z O (c.1) w5):=m
      have ab:Hid (IS z S w O w5):=X.out.trans s
      have ac:Hid (Fr 77 4 w5 w.heap.size V (l++[(⟨0,c.2,a.2,sNone⟩:Ep)]).length ((l++[(⟨0,c.2,a.2,sNone⟩:Ep)]).flatMap (fun e=>epL (zD e))) O):=aa.out.step K.out (by decide) s
      clear m s
      go_wp2_with fail
      refine (zcw C D o j z O c.1 125 _ Z.out).mono ?_
      cases aw:zd C 4 zaJ c.1 with
      |error p=>
       rintro e w6 ⟨rfl,hb⟩
       have HB:Hid (Below j w w6):=(HH.out.back ab.out).trans hb
       have HX:Hid (zay C true q []= .error p):=bdE HC.out aw
       unfold Pan
       go_wp2
       refine⟨rfl,?_⟩
       rw[HX.out]
       exact⟨rfl,HB.out⟩
      |ok a6=>
       rintro e w6 ⟨rfl,S6,m,s⟩
       have ay:Hid (Fr 77 4 w6 w.heap.size V (l++[(⟨0,c.2,a.2,sNone⟩:Ep)]).length ((l++[(⟨0,c.2,a.2,sNone⟩:Ep)]).flatMap (fun e=>epL (zD e))) S6):=ac.out.step Z.out (by decide) s
       have aF:Hid (IM C D o j z S6 a6 w6):=m
       have ax:Hid (IS z S w S6 w6):=ab.out.trans s
       clear m s
       have aG:=zc (bdO HC.out aw)
       go_wp2
       go_ret
       rw[aG.out]
       exact⟨V,S6,by rw[H.out];rfl,aF.out,ax.out,ay.out,by show 0<(l++[(⟨0,c.2,a.2,sNone⟩:Ep)]).length;rw[H.out];omega,by show (l++[(⟨0,c.2,a.2,sNone⟩:Ep)]).length≤4000;rw[H.out];omega⟩
   |false=>
    have I:=zc (zsO ak aj)
    have HE:=zc (bdO HY.out I.out)
    go_wp2_with fail
    refine (zP C D o j z E a.1 1 sAs _ ai.out (by decide)).mono ?_
    rintro e w2 ⟨rfl,m,s⟩
    rw[aj] at m ⊢
    have Q:Hid (IM C D o j z E a.1 w2):=m
    have ah:Hid (IS z S w E w2):=ao.out.trans s
    have M:Hid (Fr 77 4 w2 w.heap.size r l.length (l.flatMap (fun e=>epL (zD e))) E):=am.out.step ai.out (by decide) s
    clear m s
    have aD:=ziQ I.out
    have aE:=Q.out.mem.inv.pos
    have N:=fun o1=>(M.out.later ((Below.refl w2.heap.size w2).alloc (Nat.le_refl _) o1)).1
    have af:=fun o1=>(ah.out.alloc o1).size
    go_wp2_with (at_builtin;refine zcC _ rfl _ _ 28 rfl w.heap.size 77 i0 _ 4 56 Tryz.underlying28 hi al ar aq rfl (by decide) (by decide) r l.length _ (by rfl) (N _) w2.heap.size (epL (zD (⟨0,a.2,a.2,sNone⟩:Ep))) (by rfl) (by exact heap_alloc_new w2 _) rfl (zg9 _) (by omega) (af _) ?_;intro V Y hr U ag;have J:Hid (IM C D o j z E a.1 Y):=(Q.out.alloc _).aside U (fun k g=>⟨M.out.2 k g,M.out.ngp Q.out (by decide) g,M.out.ngt Q.out (by decide) g⟩);have ad:Hid (IS z S w E Y):=(ah.out.alloc _).aside U (fun k g=>(M.out.1.typed g).1);have ae:Hid (Fr 77 4 Y w.heap.size V (l.length+1) _ E):=(M.out.later ((Below.refl _ _).alloc (Nat.le_refl _) _)).grown (Q.out.alloc _) hr ag;clear hr U ag N af)
    have el:(l++[(⟨0,a.2,a.2,sNone⟩:Ep)]).length=l.length+1:=by simp
    have L:Hid (Fr 77 4 Y w.heap.size V (l++[(⟨0,a.2,a.2,sNone⟩:Ep)]).length ((l++[(⟨0,a.2,a.2,sNone⟩:Ep)]).flatMap (fun e=>epL (zD e))) E):=by
     show Fr ..
     rw[el,List.flatMap_append]
     simpa using ae.out
    have H:Hid ((l++[(⟨0,a.2,a.2,sNone⟩:Ep)]).length=l.length+1):=el
    clear el ae
    go_wp2_with fail
    cases hc:isT C a.1.pos 4 zbv with
    |true=>
     have aC:=za1 hc (by decide)
     have HC:=zc (HE.out.trans (if_pos hc))
     refine (zP C D o j z E (a.1) 4 zbv _ J.out (by decide)).mono ?_
     rintro e w4 ⟨rfl,m,s⟩
     rw[hc] at m ⊢
     have K:Hid (IM C D o j z E (adv (a.1)) w4):=m
     have X:Hid (IS z S w E w4):=ad.out.trans s
     have aa:Hid (Fr 77 4 w4 w.heap.size V (l++[(⟨0,a.2,a.2,sNone⟩:Ep)]).length ((l++[(⟨0,a.2,a.2,sNone⟩:Ep)]).flatMap (fun e=>epL (zD e))) E):=L.out.step J.out (by decide) s
     clear m s
     go_wp2
     go_roundg (gk-1)
     case rel=>exact⟨E,adv a.1,V,(l++[(⟨0,a.2,a.2,sNone⟩:Ep)]),by rw[H.out],HC.out,by rw[zz];omega,by rw[zz,H.out];omega,K.out,X.out,aa.out⟩
     case measure=>omega
    |false=>
     have HC:=zc (HE.out.trans (if_neg (by rw[hc];decide)))
     refine (zP C D o j z E (a.1) 4 zbv _ J.out (by decide)).mono ?_
     rintro e w4 ⟨rfl,m,s⟩
     rw[hc] at m ⊢
     have K:Hid (IM C D o j z E (a.1) w4):=m
     have X:Hid (IS z S w E w4):=ad.out.trans s
     have aa:Hid (Fr 77 4 w4 w.heap.size V (l++[(⟨0,a.2,a.2,sNone⟩:Ep)]).length ((l++[(⟨0,a.2,a.2,sNone⟩:Ep)]).flatMap (fun e=>epL (zD e))) E):=L.out.step J.out (by decide) s
     clear m s
     go_wp2_with fail
     refine (zcw C D o j z E a.1 125 _ K.out).mono ?_
     cases ap:zd C 4 zaJ a.1 with
     |error p=>
      rintro e w5 ⟨rfl,hb⟩
      have HB:Hid (Below j w w5):=(HH.out.back X.out).trans hb
      have HX:Hid (zay C true q []= .error p):=bdE HC.out ap
      unfold Pan
      go_wp2
      refine⟨rfl,?_⟩
      rw[HX.out]
      exact⟨rfl,HB.out⟩
     |ok a5=>
      rintro e w5 ⟨rfl,S5,m,s⟩
      have ac:Hid (Fr 77 4 w5 w.heap.size V (l++[(⟨0,a.2,a.2,sNone⟩:Ep)]).length ((l++[(⟨0,a.2,a.2,sNone⟩:Ep)]).flatMap (fun e=>epL (zD e))) S5):=aa.out.step K.out (by decide) s
      have Z:Hid (IM C D o j z S5 a5 w5):=m
      have ab:Hid (IS z S w S5 w5):=X.out.trans s
      clear m s
      have az:=zc (bdO HC.out ap)
      go_wp2
      go_ret
      rw[az.out]
      exact⟨V,S5,by rw[H.out];rfl,Z.out,ab.out,ac.out,by show 0<(l++[(⟨0,a.2,a.2,sNone⟩:Ep)]).length;rw[H.out];omega,by show (l++[(⟨0,a.2,a.2,sNone⟩:Ep)]).length≤4000;rw[H.out];omega⟩
end Go.Proofs.YthfeoomfiafldaaGreat