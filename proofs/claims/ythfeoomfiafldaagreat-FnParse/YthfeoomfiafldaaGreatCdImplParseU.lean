/-
 What exportList of impl's parser answers: the walk.
-/
import Derived.Test.YthfeoomfiafldaaGreatCdImplPrintCToImplParseT
namespace Go.Proofs.YthfeoomfiafldaaGreat
set_option maxRecDepth 100000
set_option maxHeartbeats 3200000
open Go.RowKit Go.PlainAid Go.Sort
theorem zsN {C:Cx} {q:PS} {a:PS×ByteArray} (j:zk C true q= .ok a) (h:isT C a.1.pos 1 sAs=true):zbG C true q=bd (zk C true (adv a.1)) fun b=>.ok (b.1,⟨0,b.2,a.2,sNone⟩):=by
 rw[zbG,j,zh,asP,if_pos h]
theorem zsO {C:Cx} {q:PS} {a:PS×ByteArray} (j:zk C true q= .ok a) (h:isT C a.1.pos 1 sAs=false):zbG C true q= .ok (a.1,⟨0,a.2,a.2,sNone⟩):=by
 rw[zbG,j,zh,asP,if_neg (by rw[h];decide),if_neg (by simp)]
 rfl
theorem zsP (C:Cx) (D o j z:Nat) (S:Sv) (q:PS) (w:World) (h:IM C D o j z S q w):
  Calls Tryz.prog 118 #[.pointer (some ⟨z,0,none⟩)] w (zlS C D o j z 77 4 (fun e=>epL (zD e)) (zay C true q []) S w):=by
 obtain⟨i0,hi,aw,ao,au⟩:=info_parts Tryz.infoExp
 have HH:Hid (IM C D o j z S q w):=h
 clear h
 go_enter Tryz.func118,Tryz.ntmps118
 go_wp2
 go_loopg [3] (C.ts.length+1) (fun k v wr=>∃(S':Sv) (q':PS) (r:Rw) (l:List Ep),v= .slice r.a l.length r.cap∧zay C true q []=zay C true q' l∧C.ts.length-q'.pos<k∧l.length+(C.ts.length-q'.pos)≤C.ts.length∧IM C D o j z S' q' wr∧IS z S w S' wr∧Fr 77 4 wr w.heap.size r l.length (l.flatMap (fun e=>epL (zD e))) S')
 case atStart=>exact⟨S,q,⟨some ⟨w.heap.size,0,none⟩,0⟩,[],rfl,rfl,by omega,by simp,HH.out.alloc _,(IS.refl _ _ _).alloc _,zlT HH.out _ _⟩
 case round=>
  obtain⟨S',q',r,l,rfl,hy,hk,hl,m',s',f'⟩:=hrel
  have ay:Hid (zay C true q []=zay C true q' l):=hy
  have HY:=zc (ay.out.trans (zlv C true q' l))
  have an:Hid (IM C D o j z S' q' wr):=m'
  have av:Hid (IS z S w S' wr):=s'
  have aG:Hid (Fr 77 4 wr w.heap.size r l.length (l.flatMap (fun e=>epL (zD e))) S'):=f'
  have aI:=m'.mem.few
  clear hy m' s' f'
  go_wp2_with fail
  refine (zfB C D o j z S' q' _ an.out).mono ?_
  cases al:zk C true q' with
  |error p=>
   rintro e w1 ⟨rfl,hb⟩
   have HB:Hid (Below j w w1):=(HH.out.back av.out).trans hb
   have HX:Hid (zay C true q []= .error p):=by show _=_;rw[HY.out,zbG,al];rfl
   unfold Pan
   go_wp2
   refine⟨rfl,?_⟩
   rw[HX.out]
   exact⟨rfl,HB.out⟩
  |ok a=>
   rintro e w1 ⟨rfl,E,m,s⟩
   have ak:Hid (IM C D o j z E a.1 w1):=m
   have ap:Hid (IS z S w E w1):=av.out.trans s
   have ax:Hid (Fr 77 4 w1 w.heap.size r l.length (l.flatMap (fun e=>epL (zD e))) E):=aG.out.step an.out (by decide) s
   clear m s
   cases aj:isT C a.1.pos 1 sAs with
   |true=>
    have HW:=zc (zsN al aj)
    go_wp2_with fail
    refine (zP C D o j z E a.1 1 sAs _ ak.out (by decide)).mono ?_
    rintro e w2 ⟨rfl,m,s⟩
    rw[aj] at m ⊢
    have Q:Hid (IM C D o j z E (adv a.1) w2):=m
    have af:Hid (IS z S w E w2):=ap.out.trans s
    have M:Hid (Fr 77 4 w2 w.heap.size r l.length (l.flatMap (fun e=>epL (zD e))) E):=ax.out.step ak.out (by decide) s
    clear m s
    go_wp2_with fail
    refine (zfB C D o j z E (adv a.1) _ Q.out).mono ?_
    cases aq:zk C true (adv a.1) with
    |error p=>
     rintro e Y ⟨rfl,hb⟩
     have HB:Hid (Below j w Y):=(HH.out.back af.out).trans hb
     have HX:Hid (zay C true q []= .error p):=by show _=_;rw[HY.out,HW.out,aq];rfl
     unfold Pan
     go_wp2
     refine⟨rfl,?_⟩
     rw[HX.out]
     exact⟨rfl,HB.out⟩
    |ok c=>
     rintro e Y ⟨rfl,N,m,s⟩
     have J:Hid (IM C D o j z N c.1 Y):=m
     have ai:Hid (IS z S w N Y):=af.out.trans s
     have L:Hid (Fr 77 4 Y w.heap.size r l.length (l.flatMap (fun e=>epL (zD e))) N):=M.out.step Q.out (by decide) s
     clear m s
     have H:=zc (bdO HW.out aq)
     have HE:=zc (bdO HY.out H.out)
     have aH:=ziQ H.out
     have aB:=J.out.mem.inv.pos
     have O:=fun o1=>(L.out.later ((Below.refl Y.heap.size Y).alloc (Nat.le_refl _) o1)).1
     have ae:=fun o1=>(ai.out.alloc o1).size
     go_wp2_with (at_builtin;refine zcC _ rfl _ _ 28 rfl w.heap.size 77 i0 _ 4 56 Tryz.underlying28 hi aw ao au rfl (by decide) (by decide) r l.length _ (by rfl) (O _) Y.heap.size (epL (zD (⟨0,c.2,a.2,sNone⟩:Ep))) (by rfl) (by exact heap_alloc_new Y _) rfl (zg9 _) (by omega) (ae _) ?_;intro U w4 hr X ah;have K:Hid (IM C D o j z N c.1 w4):=(J.out.alloc _).aside X (fun k g=>⟨L.out.2 k g,L.out.ngp J.out (by decide) g,L.out.ngt J.out (by decide) g⟩);have V:Hid (IS z S w N w4):=(ai.out.alloc _).aside X (fun k g=>(L.out.1.typed g).1);have ag:Hid (Fr 77 4 w4 w.heap.size U (l.length+1) _ N):=(L.out.later ((Below.refl _ _).alloc (Nat.le_refl _) _)).grown (J.out.alloc _) hr ah;clear hr X ah O ae)
     have el:(l++[(⟨0,c.2,a.2,sNone⟩:Ep)]).length=l.length+1:=by simp
     have ab:Hid (Fr 77 4 w4 w.heap.size U (l++[(⟨0,c.2,a.2,sNone⟩:Ep)]).length ((l++[(⟨0,c.2,a.2,sNone⟩:Ep)]).flatMap (fun e=>epL (zD e))) N):=by
      show Fr ..
      rw[el,List.flatMap_append]
      simpa using ag.out
     have I:Hid ((l++[(⟨0,c.2,a.2,sNone⟩:Ep)]).length=l.length+1):=el
     clear el ag
     go_wp2_with fail
     cases hc:isT C c.1.pos 4 zbv with
     |true=>
      have aD:=za1 hc (by decide)
      have HC:=zc (HE.out.trans (if_pos hc))
      refine (zP C D o j z N (c.1) 4 zbv _ K.out (by decide)).mono ?_
      rintro e Z ⟨rfl,m,s⟩
      rw[hc] at m ⊢
      have aa:Hid (IM C D o j z N (adv (c.1)) Z):=m
      have ac:Hid (IS z S w N Z):=V.out.trans s
      have ad:Hid (Fr 77 4 Z w.heap.size U (l++[(⟨0,c.2,a.2,sNone⟩:Ep)]).length ((l++[(⟨0,c.2,a.2,sNone⟩:Ep)]).flatMap (fun e=>epL (zD e))) N):=ab.out.step K.out (by decide) s
      clear m s
      go_wp2
      go_roundg (gk-1)
      case rel=>exact⟨N,adv c.1,U,(l++[(⟨0,c.2,a.2,sNone⟩:Ep)]),by rw[I.out],HC.out,by rw[zz];omega,by rw[zz,I.out];omega,aa.out,ac.out,ad.out⟩
      case measure=>omega
     |false=>
      have HC:=zc (HE.out.trans (if_neg (by rw[hc];decide)))
      refine (zP C D o j z N (c.1) 4 zbv _ K.out (by decide)).mono ?_
      rintro e Z ⟨rfl,m,s⟩
      rw[hc] at m ⊢
      have aa:Hid (IM C D o j z N (c.1) Z):=m
      have ac:Hid (IS z S w N Z):=V.out.trans s
      have ad:Hid (Fr 77 4 Z w.heap.size U (l++[(⟨0,c.2,a.2,sNone⟩:Ep)]).length ((l++[(⟨0,c.2,a.2,sNone⟩:Ep)]).flatMap (fun e=>epL (zD e))) N):=ab.out.step K.out (by decide) s
      clear m s
      go_wp2_with fail
      refine (zcw C D o j z N c.1 125 _ aa.out).mono ?_
      cases am:zd C 4 zaJ c.1 with
      |error p=>
       rintro e w6 ⟨rfl,hb⟩
       have HB:Hid (Below j w w6):=(HH.out.back ac.out).trans hb
       have HX:Hid (zay C true q []= .error p):=bdE HC.out am
       unfold Pan
       go_wp2
       refine⟨rfl,?_⟩
       rw[HX.out]
       exact⟨rfl,HB.out⟩
      |ok a6=>
       rintro e w6 ⟨rfl,S6,m,s⟩
       have aA:Hid (Fr 77 4 w6 w.heap.size U (l++[(⟨0,c.2,a.2,sNone⟩:Ep)]).length ((l++[(⟨0,c.2,a.2,sNone⟩:Ep)]).flatMap (fun e=>epL (zD e))) S6):=ad.out.step aa.out (by decide) s
       have aC:Hid (IM C D o j z S6 a6 w6):=m
       have aE:Hid (IS z S w S6 w6):=ac.out.trans s
       clear m s
       have az:=zc (bdO HC.out am)
       go_wp2
       go_ret
       rw[az.out]
       exact⟨U,S6,by rw[I.out];rfl,aC.out,aE.out,aA.out,by show 0<(l++[(⟨0,c.2,a.2,sNone⟩:Ep)]).length;rw[I.out];omega,by show (l++[(⟨0,c.2,a.2,sNone⟩:Ep)]).length≤4000;rw[I.out];omega⟩
   |false=>
    have H:=zc (zsO al aj)
    have HE:=zc (bdO HY.out H.out)
    go_wp2_with fail
    refine (zP C D o j z E a.1 1 sAs _ ak.out (by decide)).mono ?_
    rintro e w2 ⟨rfl,m,s⟩
    rw[aj] at m ⊢
    have Q:Hid (IM C D o j z E a.1 w2):=m
    have af:Hid (IS z S w E w2):=ap.out.trans s
    have M:Hid (Fr 77 4 w2 w.heap.size r l.length (l.flatMap (fun e=>epL (zD e))) E):=ax.out.step ak.out (by decide) s
    clear m s
    have aH:=ziQ H.out
    have aB:=Q.out.mem.inv.pos
    have O:=fun o1=>(M.out.later ((Below.refl w2.heap.size w2).alloc (Nat.le_refl _) o1)).1
    have ae:=fun o1=>(af.out.alloc o1).size
    go_wp2_with (at_builtin;refine zcC _ rfl _ _ 28 rfl w.heap.size 77 i0 _ 4 56 Tryz.underlying28 hi aw ao au rfl (by decide) (by decide) r l.length _ (by rfl) (O _) w2.heap.size (epL (zD (⟨0,a.2,a.2,sNone⟩:Ep))) (by rfl) (by exact heap_alloc_new w2 _) rfl (zg9 _) (by omega) (ae _) ?_;intro U Y hr X ah;have J:Hid (IM C D o j z E a.1 Y):=(Q.out.alloc _).aside X (fun k g=>⟨M.out.2 k g,M.out.ngp Q.out (by decide) g,M.out.ngt Q.out (by decide) g⟩);have ai:Hid (IS z S w E Y):=(af.out.alloc _).aside X (fun k g=>(M.out.1.typed g).1);have ag:Hid (Fr 77 4 Y w.heap.size U (l.length+1) _ E):=(M.out.later ((Below.refl _ _).alloc (Nat.le_refl _) _)).grown (Q.out.alloc _) hr ah;clear hr X ah O ae)
    have el:(l++[(⟨0,a.2,a.2,sNone⟩:Ep)]).length=l.length+1:=by simp
    have L:Hid (Fr 77 4 Y w.heap.size U (l++[(⟨0,a.2,a.2,sNone⟩:Ep)]).length ((l++[(⟨0,a.2,a.2,sNone⟩:Ep)]).flatMap (fun e=>epL (zD e))) E):=by
     show Fr ..
     rw[el,List.flatMap_append]
     simpa using ag.out
    have I:Hid ((l++[(⟨0,a.2,a.2,sNone⟩:Ep)]).length=l.length+1):=el
    clear el ag
    go_wp2_with fail
    cases hc:isT C a.1.pos 4 zbv with
    |true=>
     have aD:=za1 hc (by decide)
     have HC:=zc (HE.out.trans (if_pos hc))
     refine (zP C D o j z E (a.1) 4 zbv _ J.out (by decide)).mono ?_
     rintro e w4 ⟨rfl,m,s⟩
     rw[hc] at m ⊢
     have K:Hid (IM C D o j z E (adv (a.1)) w4):=m
     have V:Hid (IS z S w E w4):=ai.out.trans s
     have ab:Hid (Fr 77 4 w4 w.heap.size U (l++[(⟨0,a.2,a.2,sNone⟩:Ep)]).length ((l++[(⟨0,a.2,a.2,sNone⟩:Ep)]).flatMap (fun e=>epL (zD e))) E):=L.out.step J.out (by decide) s
     clear m s
     go_wp2
     go_roundg (gk-1)
     case rel=>exact⟨E,adv a.1,U,(l++[(⟨0,a.2,a.2,sNone⟩:Ep)]),by rw[I.out],HC.out,by rw[zz];omega,by rw[zz,I.out];omega,K.out,V.out,ab.out⟩
     case measure=>omega
    |false=>
     have HC:=zc (HE.out.trans (if_neg (by rw[hc];decide)))
     refine (zP C D o j z E (a.1) 4 zbv _ J.out (by decide)).mono ?_
     rintro e w4 ⟨rfl,m,s⟩
     rw[hc] at m ⊢
     have K:Hid (IM C D o j z E (a.1) w4):=m
     have V:Hid (IS z S w E w4):=ai.out.trans s
     have ab:Hid (Fr 77 4 w4 w.heap.size U (l++[(⟨0,a.2,a.2,sNone⟩:Ep)]).length ((l++[(⟨0,a.2,a.2,sNone⟩:Ep)]).flatMap (fun e=>epL (zD e))) E):=L.out.step J.out (by decide) s
     clear m s
     go_wp2_with fail
     refine (zcw C D o j z E a.1 125 _ K.out).mono ?_
     cases ar:zd C 4 zaJ a.1 with
     |error p=>
      rintro e Z ⟨rfl,hb⟩
      have HB:Hid (Below j w Z):=(HH.out.back V.out).trans hb
      have HX:Hid (zay C true q []= .error p):=bdE HC.out ar
      unfold Pan
      go_wp2
      refine⟨rfl,?_⟩
      rw[HX.out]
      exact⟨rfl,HB.out⟩
     |ok a5=>
      rintro e Z ⟨rfl,S5,m,s⟩
      have ad:Hid (Fr 77 4 Z w.heap.size U (l++[(⟨0,a.2,a.2,sNone⟩:Ep)]).length ((l++[(⟨0,a.2,a.2,sNone⟩:Ep)]).flatMap (fun e=>epL (zD e))) S5):=ab.out.step K.out (by decide) s
      have aa:Hid (IM C D o j z S5 a5 Z):=m
      have ac:Hid (IS z S w S5 Z):=V.out.trans s
      clear m s
      have aF:=zc (bdO HC.out ar)
      go_wp2
      go_ret
      rw[aF.out]
      exact⟨U,S5,by rw[I.out];rfl,aa.out,ac.out,ad.out,by show 0<(l++[(⟨0,a.2,a.2,sNone⟩:Ep)]).length;rw[I.out];omega,by show (l++[(⟨0,a.2,a.2,sNone⟩:Ep)]).length≤4000;rw[I.out];omega⟩
end Go.Proofs.YthfeoomfiafldaaGreat