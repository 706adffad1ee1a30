/-
  What ContainsFunc over Exps answers,and a row of Exps whose elements are written: the walks.
  What exportNames of impl's parser answers: the walks. (It writes into the row that it is handed: so what is told is told from a world on in which that row was not yet there.)
  What exportItem of impl's parser answers: the walks.
-/
import Derived.Test.YtgcbmogmniahjaaGreatCReImplParseU
namespace Go.Proofs.YtgcbmogmniahjaaGreat
set_option maxRecDepth 100000
set_option maxHeartbeats 3200000
open Go.RowKit Go.PlainAid Go.Sort
theorem zmm {α:Type} (f:α→List Value) (m:Nat) (q: ∀x,(f x).length=m): ∀(l:List α) (j i:Nat) (x y:α) (v:Value),l[j]? =some x→i<m→f y=(f x).set i v→(l.flatMap f).set (j*m+i) v=(l.set j y).flatMap f:=by
 intro l
 induction l with
 |nil=>intro j i x y v h;simp at h
 |cons z l D=>
  intro j i x y v h w A
  match j with
  |0=>
   simp only[List.getElem?_cons_zero,Option.some.injEq] at h
   subst h
   rw[List.flatMap_cons,Nat.zero_mul,Nat.zero_add,List.set_append_left _ _ (by rw[q];exact w),List.set_cons_zero,List.flatMap_cons,A]
  |j+1=>
   simp only[List.getElem?_cons_succ] at h
   rw[List.flatMap_cons,List.set_append_right _ _ (by rw[q,Nat.succ_mul];omega),q,List.set_cons_succ,List.flatMap_cons,←D j i x y v h w A]
   congr 2
   rw[Nat.succ_mul]
   omega
def mxE (s:ByteArray) (l:List Ep) (j:Nat):List Ep:=(l.take j).map (zax s)++(l.drop j).map zF
theorem zmn (s:ByteArray) (l:List Ep) (j:Nat):(mxE s l j).length=l.length:=by simp[mxE];omega
theorem zmo {s:ByteArray} {l:List Ep} {j:Nat} {x:Ep} (h:l[j]? =some x):(mxE s l j)[j]? =some (zF x):=by
 obtain⟨w,rfl⟩:=List.getElem?_eq_some_iff.1 h
 have q:((l.take j).map (zax s)).length=j:=by simp;omega
 rw[mxE,List.getElem?_append_right (by omega),q,Nat.sub_self,List.drop_eq_getElem_cons w]
 rfl
theorem ztX {s:ByteArray} {l:List Ep} {j:Nat} {x:Ep} (h:l[j]? =some x):(mxE s l j).set j (zax s x)=mxE s l (j+1):=by
 obtain⟨q,rfl⟩:=List.getElem?_eq_some_iff.1 h
 have w:((l.take j).map (zax s)).length=j:=by simp;omega
 rw[mxE,List.set_append_right _ _ (by omega),w,Nat.sub_self,List.drop_eq_getElem_cons q,List.map_cons,List.set_cons_zero,mxE,List.take_succ_eq_append_getElem q,List.map_append,List.append_assoc]
 rfl
theorem ztY (s:ByteArray) (l:List Ep):mxE s l 0=l.map zF:=by simp[mxE]
theorem ztZ (s:ByteArray) (l:List Ep):mxE s l l.length=l.map (zax s):=by simp[mxE]
theorem zua (x:Ep) (w:World):
  Calls Tryz.prog 249 #[epV x] w fun e h=>e= .returned (.bool (x.loc.toList==[100,101,102,97,117,108,116]))∧Below w.heap.size w h:=by
 unfold epV
 cases q:(x.loc.toList==[100,101,102,97,117,108,116]) with
 |true=>
  go_enter Tryz.func249,Tryz.ntmps249
  go_wp2
  go_ret
  exact⟨rfl,(Below.refl _ _).alloc (Nat.le_refl _) _⟩
 |false=>
  go_enter Tryz.func249,Tryz.ntmps249
  go_wp2
  go_ret
  exact⟨rfl,(Below.refl _ _).alloc (Nat.le_refl _) _⟩
theorem zub {l:List Ep} {j:Nat} {x:Ep} (h:l[j]? =some x):zaI (l.drop j)=((x.loc.toList==[100,101,102,97,117,108,116])||zaI (l.drop (j+1))):=by
 obtain⟨q,rfl⟩:=List.getElem?_eq_some_iff.1 h
 rw[List.drop_eq_getElem_cons q]
 simp only[zaI,List.any_cons]
theorem zuc (base g:Nat) (r:Rw) (l:List Ep) (w:World) (h:OwnR w base 97 4 r l.length (l.flatMap fun e=>epL (zF e))) (hl:l.length≤4000) (X:r.a=some ⟨g,0,none⟩):
  Calls Tryz.prog 255 #[.slice (some ⟨g,0,none⟩) l.length r.cap,.func (.func 249) #[] #[]] w fun e w'=>(∃v:Int,e= .returned (.int .i64 v)∧decide (0≤v)=zaI l)∧Below w.heap.size w w':=by
 have Y:=zc h
 have M:=zc X
 clear h X
 go_enter Tryz.func255,Tryz.ntmps255
 go_wp2
 go_loopg [8] (l.length+1) (fun k i wr=>∃j:Nat,i= .int .i64 j∧j+k=l.length+1∧zaI (l.drop j)=zaI l∧Below w.heap.size w wr)
 case atStart=>exact⟨0,rfl,by omega,by simp,Below.refl _ _⟩
 case round=>
  obtain⟨j,rfl,hj,he,J⟩:=hrel
  have O:=zc he
  clear he
  by_cases K:j<l.length
  ·have H:(j:Int)<(l.length:Int):=by omega
   obtain⟨x,N⟩:=zfY K
   have L:=zc (Y.out.keep fun k g=>J.block k (Y.out.typed g).2.1)
   obtain⟨g',A,q⟩:=OwnR.elem (f:=fun e=>epL (zF e)) (m:=4) (fun _=>rfl) L.out N
   have eg:g'=g:=by have:=A.symm.trans M.out;simpa using this
   subst eg
   have k0:=q 0 (by omega)
   have k1:=q 1 (by omega)
   have k2:=q 2 (by omega)
   have k3:=q 3 (by omega)
   simp only[epL,zF,Nat.add_zero,List.getElem?_cons_zero,List.getElem?_cons_succ] at k0 k1 k2 k3
   have Z:=zub N
   clear q A N
   obtain⟨I,z⟩: ∃I,I=j+1:=⟨_,rfl⟩
   have ej:(j:Int)+1=(I:Int):=by omega
   have V:=zc z
   clear z
   go_wp2_with fail
   refine (zua (zF x) _).mono ?_
   rintro e w1 ⟨rfl,E⟩
   have D:=J.trans (E.mono J.size)
   clear E
   rw[show (zF x).loc=x.loc from rfl]
   cases U:(x.loc.toList==[100,101,102,97,117,108,116]) with
   |true=>
    go_wp2
    go_ret
    refine⟨⟨_,rfl,?_⟩,D⟩
    rw[←O.out,Z,U]
    simp
   |false=>
    go_wp2
    go_roundg (gk-1)
    case rel=>
     refine⟨I,rfl,by have:=V.out;omega,?_,D⟩
     rw[←O.out,Z,U,V.out]
     simp
    case measure=>omega
  ·have H: ¬(j:Int)<(l.length:Int):=by omega
   go_wp2
   go_ret
   refine⟨⟨_,rfl,?_⟩,J⟩
   rw[←O.out,List.drop_eq_nil_of_le (by omega)]
   rfl
theorem zmp (base g:Nat) (r:Rw) (l:List Ep) (w:World) (h:OwnR w base 97 4 r l.length (l.flatMap fun e=>epL (zF e))) (H:l.length≤4000) (A:r.a=some ⟨g,0,none⟩):
  Calls Tryz.prog 250 #[.slice (some ⟨g,0,none⟩) l.length r.cap,.func (.func 249) #[] #[]] w fun e E=>e= .returned (.bool (zaI l))∧Below w.heap.size w E:=by
 have D:=zc h
 have q:=zc A
 clear h A
 go_enter Tryz.func250,Tryz.ntmps250
 go_wp2_with fail
 refine (zuc base g r l _ D.out H q.out).mono ?_
 rintro e K ⟨⟨v,rfl,z⟩,I⟩
 have J:=zc z
 clear z
 go_wp2
 go_ret
 exact⟨zi J.out,I⟩
def zaF (C:Cx) (l:List Ep) (q:PS):PR:=
 if isT C q.pos 1 zX||zaI l then bd (zd C 1 zX q) fun a=>bd (zM C a) fun b=>bd (zd C 4 cSemi b.1) fun c=>zab (fun e=>zq C (zax b.2 e)) l (.ok c)
 else bd (zd C 4 cSemi q) fun c=>zab (fun e=>zq C (zF e)) l (.ok c)
theorem zmq (X:Ep→Ep) (l:List Ep):(l.map X).flatMap epL=l.flatMap fun e=>epL (X e):=by rw[List.flatMap_map]
theorem zud (C:Cx) (M z base D b0 g:Nat) (r:Rw) (S I:Sv) (q0 q:PS) (l:List Ep) (w wc:World) (hh:IM C M z base D S q0 w) (h:IM C M z base D I q wc) (h0:IS D S w I wc) (hl:l.length≤4000) (hf:Fr 97 4 wc b0 r l.length (l.flatMap (fun e=>epL (zF e))) I) (hg:r.a=some ⟨g,0,none⟩) (hi:isT C q.pos 1 zX=false) (ha:zaI l=false):
  Calls Tryz.prog 232 #[.pointer (some ⟨D,0,none⟩),.slice (some ⟨g,0,none⟩) l.length r.cap] wc (zV C M z base D (zaF C l q) id (fun _=>.tuple #[]) S w):=by
 have HF:=zc hf
 have HG:=zc hg
 have HY:Hid (zaF C l q=bd (zd C 4 cSemi q) fun c=>zab (fun e=>zq C (zF e)) l (.ok c)):=by show _=_;rw[zaF,hi,ha];rfl
 clear hf hg
 go_enter Tryz.func232,Tryz.ntmps232
 go_wp2_with fail
 refine (zcu C M z base D I q 1 zX _ h).mono ?_
 rintro e w1 ⟨rfl,A⟩
 rw[hi]
 have aq:=h.later A
 have ai:=(h0.trans (IS.below A))
 have ad:IS D I wc I w1:=IS.below A
 clear A
 have ae:Hid (Fr 97 4 w1 b0 r l.length (l.flatMap (fun e=>epL (zF e))) I):=HF.out.step h (by decide) ad
 clear ad
 go_wp2_with fail
 refine (zmp b0 g r l _ ae.out.1 hl HG.out).mono ?_
 rintro e w2 ⟨rfl,A⟩
 rw[ha]
 have am:Hid (Fr 97 4 w2 b0 r l.length (l.flatMap (fun e=>epL (zF e))) I):=ae.out.later A
 have V:=aq.later A
 have Z:=(ai.trans (IS.below A))
 clear A
 go_wp2_with fail
 refine (zc5 C M z base D I q 59 _ V).mono ?_
 cases L:zd C 4 cSemi q with
 |error p=>
  rintro e w3 ⟨rfl,A⟩
  have HB:=(hh.back Z).trans A
  have HX:Hid (zaF C l q= .error p):=bdE HY.out L
  unfold Pan
  go_wp2
  refine⟨rfl,?_⟩
  rw[HX.out]
  exact⟨rfl,HB⟩
 |ok a3=>
  rintro e w3 ⟨rfl,S3,aj,s⟩
  have an:Hid (Fr 97 4 w3 b0 r l.length (l.flatMap (fun e=>epL (zF e))) S3):=am.out.step V (by decide) s
  have ao:=Z.trans s
  clear s
  have ak:=zc (bdO HY.out L)
  have aa:0<a3.pos:=by rw[(zcb L).1];exact Nat.succ_pos _
  go_wp2
  go_loopg [39] l.length (fun k i wr=>∃(j:Nat) (N:Sv) (J:PS),i= .int .i64 j∧j+k=l.length∧zaF C l q=zab (fun e=>zq C (zF e)) (l.drop j) (.ok J)∧0<J.pos∧IM C M z base D N J wr∧IS D S w N wr∧Fr 97 4 wr b0 r l.length (l.flatMap fun e=>epL (zF e)) N)
  case atStart=>exact⟨0,S3,a3,rfl,by omega,ak.out,aa,aj,ao,an.out⟩
  case round=>
   obtain⟨j,N,J,rfl,hj,hy,Y,m',s',f'⟩:=hrel
   have ab:=zc hy
   have H:=m'
   have O:=s'
   have ac:Hid (Fr 97 4 wr b0 r l.length (l.flatMap fun e=>epL (zF e)) N):=f'
   clear hy m' s' f'
   by_cases ag:j<l.length
   ·have af:(j:Int)<(l.length:Int):=by omega
    obtain⟨x,hx⟩:=zfY ag
    obtain⟨g',X,E⟩:=OwnR.elem (f:=fun e=>epL (zF e)) (m:=4) (fun _=>rfl) ac.out.1 hx
    have eg:g'=g:=by have:=X.symm.trans HG.out;simpa using this
    subst eg
    have k0:=E 0 (by omega)
    have k1:=E 1 (by omega)
    have k2:=E 2 (by omega)
    have k3:=E 3 (by omega)
    simp only[epL,zF,Nat.add_zero,List.getElem?_cons_zero,List.getElem?_cons_succ] at k0 k1 k2 k3
    have HZ:=zc (ab.out.trans (zi5 (fun e=>zq C (zF e)) hx J))
    clear E X hx
    obtain⟨U,K⟩: ∃U,U=j+1:=⟨_,rfl⟩
    have ej:(j:Int)+1=(U:Int):=by omega
    rw[←K] at HZ
    have av:=H.lt
    have HJ:=zc K
    clear K
    go_wp2_with fail
    refine (zfD C M z base D N J (zF x) _ (H.alloc _) Y).mono ?_
    cases hn:zq C (zF x) J with
    |error p=>
     rintro e wy ⟨rfl,A⟩
     have HB:Below base w wy:=(hh.back (O.alloc _)).trans A
     have HX:Hid (zaF C l q= .error p):=by show _=_;rw[HZ.out,hn];exact zhe _ _ _
     unfold Pan
     go_wp2
     refine⟨rfl,?_⟩
     rw[HX.out]
     exact⟨rfl,HB⟩
    |ok ay=>
     rintro e wy ⟨rfl,Sy,ah,s⟩
     have au:IS D S w Sy wy:=(O.alloc _).trans s
     have al:Hid (Fr 97 4 wy b0 r l.length (l.flatMap fun e=>epL (zF e)) Sy):=(ac.out.later ((Below.refl _ _).alloc (Nat.le_refl _) _)).step (H.alloc _) (by decide) s
     have ap:Hid (zaF C l q=zab (fun e=>zq C (zF e)) (l.drop U) (.ok ay)):=by show _=_;rw[HZ.out,hn]
     have ar:Hid (0<ay.pos):=by show 0<ay.pos;rw[zmk hn];exact Y
     clear s
     go_wp2
     go_roundg (gk-1)
     case rel=>exact⟨U,Sy,ay,rfl,by have:=HJ.out;omega,ap.out,ar.out,ah,au,al.out⟩
     case measure=>omega
   ·have af: ¬(j:Int)<(l.length:Int):=by omega
    have HZ:Hid (zaF C l q= .ok J):=by show _=_;rw[ab.out,List.drop_eq_nil_of_le (by omega)];rfl
    go_wp2
    go_end0
    rw[HZ.out]
    exact⟨rfl,N,H,O⟩
theorem zue (C:Cx) (I A base E b0 g:Nat) (r:Rw) (S D:Sv) (Z q:PS) (l:List Ep) (w wc:World) (hh:IM C I A base E S Z w) (h:IM C I A base E D q wc) (h0:IS E S w D wc) (hl:l.length≤4000) (X:Fr 97 4 wc b0 r l.length (l.flatMap (fun e=>epL (zF e))) D) (V:r.a=some ⟨g,0,none⟩) (K:isT C q.pos 1 zX=false) (Y:zaI l=true):
  Calls Tryz.prog 232 #[.pointer (some ⟨E,0,none⟩),.slice (some ⟨g,0,none⟩) l.length r.cap] wc (zV C I A base E (zaF C l q) id (fun _=>.tuple #[]) S w):=by
 have HF:=zc X
 have HG:=zc V
 have HY:Hid (zaF C l q= .error (zt C q.pos)):=by show _=_;rw[zaF,K,Y,if_pos (by decide),zhG K];rfl
 clear X V
 go_enter Tryz.func232,Tryz.ntmps232
 go_wp2_with fail
 refine (zcu C I A base E D q 1 zX _ h).mono ?_
 rintro e U ⟨rfl,z⟩
 rw[K]
 have O:=h.later z
 have M:=(h0.trans (IS.below z))
 have H:IS E D wc D U:=IS.below z
 clear z
 have J:Hid (Fr 97 4 U b0 r l.length (l.flatMap (fun e=>epL (zF e))) D):=HF.out.step h (by decide) H
 clear H
 go_wp2_with fail
 refine (zmp b0 g r l _ J.out.1 hl HG.out).mono ?_
 rintro e w2 ⟨rfl,z⟩
 rw[Y]
 have aa:Hid (Fr 97 4 w2 b0 r l.length (l.flatMap (fun e=>epL (zF e))) D):=J.out.later z
 have L:=O.later z
 have N:=(M.trans (IS.below z))
 clear z
 go_wp2_with fail
 refine (zeT C I A base E D q zX _ L).mono ?_
 rw[zhG K]
 rintro e w3 ⟨rfl,z⟩
 have HB:=(hh.back N).trans z
 have HX:Hid (zaF C l q= .error (zt C q.pos)):=HY.out
 unfold Pan
 go_wp2
 refine⟨rfl,?_⟩
 rw[HX.out]
 exact⟨rfl,HB⟩
theorem zuf (C:Cx) (O A base H b0 g:Nat) (r:Rw) (S Sc:Sv) (q0 q:PS) (l:List Ep) (w wc:World) (hh:IM C O A base H S q0 w) (h:IM C O A base H Sc q wc) (h0:IS H S w Sc wc) (hC:zbu C) (hl:l.length≤4000) (hf:Fr 97 4 wc b0 r l.length (l.flatMap (fun e=>epL (zF e))) Sc) (hg:r.a=some ⟨g,0,none⟩) (ah:w.heap.size≤g) (hi:isT C q.pos 1 zX=true):
  Calls Tryz.prog 232 #[.pointer (some ⟨H,0,none⟩),.slice (some ⟨g,0,none⟩) l.length r.cap] wc (zV C O A base H (zaF C l q) id (fun _=>.tuple #[]) S w):=by
 have HF:=zc hf
 have HG:=zc hg
 have au:=zc ah
 have HY:Hid (zaF C l q=bd (zd C 1 zX q) fun a=>bd (zM C a) fun b=>bd (zd C 4 cSemi b.1) fun c=>zab (fun e=>zq C (zax b.2 e)) l (.ok c)):=by show _=_;rw[zaF,hi];rfl
 clear hf hg ah
 go_enter Tryz.func232,Tryz.ntmps232
 go_wp2_with fail
 refine (zcu C O A base H Sc q 1 zX _ h).mono ?_
 rintro e w1 ⟨rfl,M⟩
 rw[hi]
 have az:=h.later M
 have ag:=(h0.trans (IS.below M))
 have ar:IS H Sc wc Sc w1:=IS.below M
 clear M
 have aB:Hid (Fr 97 4 w1 b0 r l.length (l.flatMap (fun e=>epL (zF e))) Sc):=HF.out.step h (by decide) ar
 clear ar
 go_wp2_with fail
 refine (zeT C O A base H Sc q zX _ az).mono ?_
 cases ax:zd C 1 zX q with
 |error p=>
  rintro e w2 ⟨rfl,M⟩
  have HB:=(hh.back ag).trans M
  have Y:Hid (zaF C l q= .error p):=bdE HY.out ax
  unfold Pan
  go_wp2
  refine⟨rfl,?_⟩
  rw[Y.out]
  exact⟨rfl,HB⟩
 |ok a2=>
  rintro e w2 ⟨rfl,S2,av,s⟩
  have aM:Hid (Fr 97 4 w2 b0 r l.length (l.flatMap (fun e=>epL (zF e))) S2):=aB.out.step az (by decide) s
  have ai:=ag.trans s
  clear s
  have aw:=zc (bdO HY.out ax)
  go_wp2_with fail
  refine (zg2 C O A base H S2 a2 _ av hC).mono ?_
  cases am:zM C a2 with
  |error p=>
   rintro e w3 ⟨rfl,M⟩
   have HB:=(hh.back ai).trans M
   have Y:Hid (zaF C l q= .error p):=bdE aw.out am
   unfold Pan
   go_wp2
   refine⟨rfl,?_⟩
   rw[Y.out]
   exact⟨rfl,HB⟩
  |ok z=>
   rintro e w3 ⟨rfl,S3,ae,s⟩
   have aa:Hid (Fr 97 4 w3 b0 r l.length (l.flatMap (fun e=>epL (zF e))) S3):=aM.out.step av (by decide) s
   have aC:=ai.trans s
   clear s
   have an:=zc (bdO aw.out am)
   have ac:Hid (Fr 97 4 w3 b0 r l.length ((mxE z.2 l 0).flatMap epL) S3):=by show Fr _ _ _ _ _ _ _ _;rw[ztY,zmq];exact aa.out
   have ab:g≠H:=aa.out.ngp ae (by decide) (by rw[Rw.blk,HG.out];rfl)
   have ap:g≠O:=aa.out.ngt ae (by decide) (by rw[Rw.blk,HG.out];rfl)
   have V:Hid (¬S3.has g):=aa.out.2 g (by rw[Rw.blk,HG.out];rfl)
   have aq:=zc ab
   have al:=zc ap
   clear ab ap
   go_wp2
   go_loopg [22] l.length (fun k i wr=>∃(j:Nat),i= .int .i64 j∧j+k=l.length∧IM C O A base H S3 z.1 wr∧IS H S w S3 wr∧Fr 97 4 wr b0 r l.length ((mxE z.2 l j).flatMap epL) S3)
   case atStart=>exact⟨0,rfl,by omega,ae,aC,ac.out⟩
   case round=>
    obtain⟨j,rfl,hj,m',s',f'⟩:=hrel
    have E:=m'
    have I:=s'
    have L:Hid (Fr 97 4 wr b0 r l.length ((mxE z.2 l j).flatMap epL) S3):=f'
    clear m' s' f'
    by_cases Z:j<l.length
    ·have U:(j:Int)<(l.length:Int):=by omega
     obtain⟨x,hx⟩:=zfY Z
     have Y:=zc hx
     have K:=L.out.1
     have ho:OwnR wr b0 97 4 r (mxE z.2 l j).length ((mxE z.2 l j).flatMap epL):=by rw[zmn];exact K
     obtain⟨g',N,D⟩:=OwnR.elem (f:=epL) (m:=4) (fun _=>rfl) ho (zmo hx)
     have eg:g'=g:=by have:=N.symm.trans HG.out;simpa using this
     subst eg
     have k0:=D 0 (by omega)
     have k3:=D 3 (by omega)
     simp only[epL,zF,Nat.add_zero,List.getElem?_cons_zero,List.getElem?_cons_succ] at k0 k3
     unfold OwnR at K
     rw[HG.out] at K
     have aP:=K.frozenAt
     have aL:=zc K
     clear D N hx K ho
     obtain⟨X,J⟩: ∃X,X=j+1:=⟨_,rfl⟩
     have ej:(j:Int)+1=(X:Int):=by omega
     have HJ:=zc J
     clear J
     go_wp2
     go_roundg (gk-1)
     case rel=>
      refine⟨X,rfl,by have:=HJ.out;omega,(E.set aq.out al.out V.out _ _).set aq.out al.out V.out _ _,(I.new au.out _ _).new au.out _ _,?_,L.out.2⟩
      have aJ:=(aL.out.stored (j*4+0) (.int .i64 2)).1
      have ao:=(aJ.stored (j*4+3) (.string z.2)).1
      rw[zmm epL 4 (fun _=>rfl) _ j 0 (zF x) ⟨2,x.name,x.loc,sNone⟩ (.int .i64 2) (zmo Y.out) (by omega) rfl,zmm epL 4 (fun _=>rfl) ((mxE z.2 l j).set j ⟨2,x.name,x.loc,sNone⟩) j 3 ⟨2,x.name,x.loc,sNone⟩ (zax z.2 x) (.string z.2) (List.getElem?_set_self (by rw[zmn];exact Z)) (by omega) rfl,List.set_set,ztX Y.out,←HJ.out] at ao
      unfold OwnR
      rw[HG.out]
      exact ao
     case measure=>omega
    ·have U: ¬(j:Int)<(l.length:Int):=by omega
     have aI:j=l.length:=by omega
     subst aI
     have aE:Hid (Fr 97 4 wr b0 r l.length (l.flatMap fun e=>epL (zax z.2 e)) S3):=by show Fr _ _ _ _ _ _ _ _;rw[←zmq,←ztZ z.2 l];exact L.out
     go_wp2_with fail
     refine (zc5 C O A base H S3 z.1 59 _ E).mono ?_
     cases ad:zd C 4 cSemi z.1 with
     |error p=>
      rintro e w4 ⟨rfl,M⟩
      have HB:=(hh.back I).trans M
      have Y:Hid (zaF C l q= .error p):=bdE an.out ad
      unfold Pan
      go_wp2
      refine⟨rfl,?_⟩
      rw[Y.out]
      exact⟨rfl,HB⟩
     |ok a4=>
      rintro e w4 ⟨rfl,S4,aK,s⟩
      have ac:Hid (Fr 97 4 w4 b0 r l.length (l.flatMap fun e=>epL (zax z.2 e)) S4):=aE.out.step E (by decide) s
      have aG:=I.trans s
      clear s
      have aN:=zc (bdO an.out ad)
      have aj:0<a4.pos:=by rw[(zcb ad).1];exact Nat.succ_pos _
      go_wp2
      go_loopg [39] l.length (fun k i wr=>∃(j:Nat) (S':Sv) (q':PS),i= .int .i64 j∧j+k=l.length∧zaF C l q=zab (fun e=>zq C (zax z.2 e)) (l.drop j) (.ok q')∧0<q'.pos∧IM C O A base H S' q' wr∧IS H S w S' wr∧Fr 97 4 wr b0 r l.length (l.flatMap fun e=>epL (zax z.2 e)) S')
      case atStart=>exact⟨0,S4,a4,rfl,by omega,aN.out,aj,aK,aG,ac.out⟩
      case round=>
       obtain⟨j,S',q',rfl,hj,hy,af,m',s',f'⟩:=hrel
       have ak:=zc hy
       have E:=m'
       have I:=s'
       have L:Hid (Fr 97 4 wr b0 r l.length (l.flatMap fun e=>epL (zax z.2 e)) S'):=f'
       clear hy m' s' f'
       by_cases Z:j<l.length
       ·have U:(j:Int)<(l.length:Int):=by omega
        obtain⟨x,hx⟩:=zfY Z
        obtain⟨g',N,D⟩:=OwnR.elem (f:=fun e=>epL (zax z.2 e)) (m:=4) (fun _=>rfl) L.out.1 hx
        have eg:g'=g:=by have:=N.symm.trans HG.out;simpa using this
        subst eg
        have k0:=D 0 (by omega)
        have k1:=D 1 (by omega)
        have k2:=D 2 (by omega)
        have k3:=D 3 (by omega)
        simp only[epL,zax,Nat.add_zero,List.getElem?_cons_zero,List.getElem?_cons_succ] at k0 k1 k2 k3
        have HZ:=zc (ak.out.trans (zi5 (fun e=>zq C (zax z.2 e)) hx q'))
        clear D N hx
        obtain⟨X,J⟩: ∃X,X=j+1:=⟨_,rfl⟩
        have ej:(j:Int)+1=(X:Int):=by omega
        rw[←J] at HZ
        have ab:=E.lt
        have HJ:=zc J
        clear J
        go_wp2_with fail
        refine (zfD C O A base H S' q' (zax z.2 x) _ (E.alloc _) af).mono ?_
        cases hn:zq C (zax z.2 x) q' with
        |error p=>
         rintro e wy ⟨rfl,M⟩
         have HB:Below base w wy:=(hh.back (I.alloc _)).trans M
         have Y:Hid (zaF C l q= .error p):=by show _=_;rw[HZ.out,hn];exact zhe _ _ _
         unfold Pan
         go_wp2
         refine⟨rfl,?_⟩
         rw[Y.out]
         exact⟨rfl,HB⟩
        |ok ay=>
         rintro e wy ⟨rfl,Sy,aH,s⟩
         have aF:IS H S w Sy wy:=(I.alloc _).trans s
         have aA:Hid (Fr 97 4 wy b0 r l.length (l.flatMap fun e=>epL (zax z.2 e)) Sy):=(L.out.later ((Below.refl _ _).alloc (Nat.le_refl _) _)).step (E.alloc _) (by decide) s
         have aD:Hid (zaF C l q=zab (fun e=>zq C (zax z.2 e)) (l.drop X) (.ok ay)):=by show _=_;rw[HZ.out,hn]
         have aO:Hid (0<ay.pos):=by show 0<ay.pos;rw[zmk hn];exact af
         clear s
         go_wp2
         go_roundg (gk-1)
         case rel=>exact⟨X,Sy,ay,rfl,by have:=HJ.out;omega,aD.out,aO.out,aH,aF,aA.out⟩
         case measure=>omega
       ·have U: ¬(j:Int)<(l.length:Int):=by omega
        have HZ:Hid (zaF C l q= .ok q'):=by show _=_;rw[ak.out,List.drop_eq_nil_of_le (by omega)];rfl
        go_wp2
        go_end0
        rw[HZ.out]
        exact⟨rfl,S',E,I⟩
theorem zug (C:Cx) (E z base A b0:Nat) (r:Rw) (S D:Sv) (J q:PS) (l:List Ep) (w wc:World) (M:IM C E z base A S J w) (h:IM C E z base A D q wc) (O:IS A S w D wc) (Y:zbu C) (L:l.length≤4000) (N:l.length≠0) (H:Fr 97 4 wc b0 r l.length (l.flatMap (fun e=>epL (zF e))) D) (K:w.heap.size≤b0):
  Calls Tryz.prog 232 #[.pointer (some ⟨A,0,none⟩),.slice r.a l.length r.cap] wc (zV C E z base A (zaF C l q) id (fun _=>.tuple #[]) S w):=by
 rcases H.1.nil_or with ⟨_,_,e⟩|⟨g,I⟩
 ·exact absurd e N
 ·have V:w.heap.size≤g:=Nat.le_trans K (H.1.typed (show r.blk=some g by rw[Rw.blk,I];rfl)).1
  rw[I]
  cases U:isT C q.pos 1 zX with
  |true=>exact zuf C E z base A b0 g r S D J q l w wc M h O Y L H I V U
  |false=>
   cases X:zaI l with
   |true=>exact zue C E z base A b0 g r S D J q l w wc M h O L H I U X
   |false=>exact zud C E z base A b0 g r S D J q l w wc M h O L H I U X
theorem zuh {C:Cx} {k:Int} {n:ByteArray} {q b:PS} (h:zaa C k n q= .ok b):b={q with st:=q.st++[⟨k,n,(q.ex.length:Int)-1⟩]}:=by
 unfold zaa at h
 split at h
 ·cases h
 ·cases h
  rfl
theorem zi7 {C:Cx} {k:Int} {n s:ByteArray} {q b:PS} (h:stmtI C k n s q= .ok b) (I:0<s.size):(∃l e,b.st=l++[⟨k,n,e⟩])∧0<b.pos:=by
 obtain⟨a,H,z⟩:=zn h
 obtain⟨c,D,A⟩:=zn z
 have w:=zjZ _ D
 have E:=zuh A
 subst E
 refine⟨⟨_,_,rfl⟩,?_⟩
 rw[w]
 show 0<a.pos+s.size
 omega
theorem zui {C:Cx} {k:Int} {q b:PS} (h:letJ C k q= .ok b):(∃l e,b.st=l++[⟨k,(ze C q.pos).text,e⟩])∧0<b.pos:=by
 obtain⟨a,w,z⟩:=zn h
 obtain⟨c,D,A⟩:=zn z
 have:=zi7 A (by decide)
 rw[(zb6 w).1] at this
 exact this
theorem zuj {C:Cx} {q b:PS} (h:fnI C q= .ok b):(∃l e,b.st=l++[⟨2,(ze C q.pos).text,e⟩])∧0<b.pos:=by
 obtain⟨a,D,z⟩:=zn h
 obtain⟨c,H,A⟩:=zn z
 obtain⟨d,E,w⟩:=zn A
 have:=zi7 w (by decide)
 rw[(zb6 D).1] at this
 exact this
theorem zmr (C:Cx) (D z base A:Nat) (S:Sv) (q:PS) (l:List Sm) (k e:Int) (n:ByteArray) (w:World) (h:IM C D z base A S q w) (I:q.st=l++[⟨k,n,e⟩]) (E:n.size≤281474976710656) (H:0<q.pos):
  Calls Tryz.prog 235 #[.pointer (some ⟨A,0,none⟩)] w (zV C D z base A (zq C ⟨1,n,n,sNone⟩ q) id (fun _=>.tuple #[]) S w):=zpe C D z base A S q l ⟨k,n,e⟩ w h I E H
def zaz (C:Cx) (q:PS):PR:=
 if isT C q.pos 4 zO then bd (za7 C true (adv q) []) fun a=>zaF C a.2 a.1
 else if isT C q.pos 4 zz then bd (zd C 1 zX (adv q)) fun a=>bd (zM C a) fun b=>bd (zd C 4 cSemi b.1) fun c=>zq C ⟨3,sNone,sNone,b.2⟩ c
 else if isT C q.pos 1 sDefault then bd (stmtI C 1 zcs cSemi (adv q)) fun a=>zq C ⟨1,sDefault,zcs,sNone⟩ a
 else if isT C q.pos 1 zH then bd (letJ C 1 (adv q)) fun a=>zq C ⟨1,(ze C (q.pos+1)).text,(ze C (q.pos+1)).text,sNone⟩ a
 else if isT C q.pos 1 zW then bd (fnI C (adv q)) fun a=>zq C ⟨1,(ze C (q.pos+1)).text,(ze C (q.pos+1)).text,sNone⟩ a
 else .error (zt C q.pos)
theorem zuk (C:Cx) (J z base D:Nat) (S:Sv) (q:PS) (w:World) (h:IM C J z base D S q w) (hC:zbu C) (Z:isT C q.pos 4 zO=true):
  Calls Tryz.prog 217 #[.pointer (some ⟨D,0,none⟩)] w (zV C J z base D (zaz C q) id (fun _=>.tuple #[]) S w):=by
 have HY:Hid (zaz C q=bd (za7 C true (adv q) []) fun a=>zaF C a.2 a.1):=by show _=_;rw[zaz,Z];rfl
 go_enter Tryz.func217,Tryz.ntmps217
 go_wp2_with fail
 refine (zP C J z base D S q 4 zO _ h (by decide)).mono ?_
 rintro e w1 ⟨rfl,K,A⟩
 rw[Z] at K ⊢
 go_wp2_with fail
 refine (ztW C J z base D S (adv q) _ K).mono ?_
 cases H:za7 C true (adv q) [] with
 |error p=>
  rintro e w3 ⟨rfl,hb⟩
  have U:=(h.back A).trans hb
  have L:Hid (zaz C q= .error p):=bdE HY.out H
  unfold Pan
  go_wp2
  refine⟨rfl,?_⟩
  rw[L.out]
  exact⟨rfl,U⟩
 |ok M=>
  rintro e w3 ⟨r,S3,rfl,V,s,f,l0,l1⟩
  have X:=A.trans s
  have Y:=zc f
  clear s f
  have I:=zc (bdO HY.out H)
  go_wp2_with fail
  refine (zug C J z base D _ r S S3 q M.1 M.2 w _ h V X hC l1 (by omega) Y.out A.size).mono ?_
  cases E:zaF C M.2 M.1 with
  |error p=>
   rintro e w4 ⟨rfl,U⟩
   have L:=zc (I.out.trans E)
   unfold Pan
   go_wp2
   refine⟨rfl,?_⟩
   rw[L.out]
   exact⟨rfl,U⟩
  |ok a4=>
   rintro e w4 ⟨rfl,S4,O,N⟩
   have L:=zc (I.out.trans E)
   go_wp2
   go_end0
   rw[L.out]
   exact⟨rfl,S4,O,N⟩
theorem zul (C:Cx) (D z base A:Nat) (S:Sv) (q:PS) (w:World) (h:IM C D z base A S q w) (hC:zbu C) (h1:isT C q.pos 4 zO=false) (h2:isT C q.pos 4 zz=true):
  Calls Tryz.prog 217 #[.pointer (some ⟨A,0,none⟩)] w (zV C D z base A (zaz C q) id (fun _=>.tuple #[]) S w):=by
 have HY:Hid (zaz C q=bd (zd C 1 zX (adv q)) fun a=>bd (zM C a) fun b=>bd (zd C 4 cSemi b.1) fun c=>zq C ⟨3,sNone,sNone,b.2⟩ c):=by show _=_;rw[zaz,h1,h2];rfl
 go_enter Tryz.func217,Tryz.ntmps217
 go_wp2_with fail
 refine (zP C D z base A S q 4 zO _ h (by decide)).mono ?_
 rintro e w1 ⟨rfl,ac,af⟩
 rw[h1] at ac ⊢
 go_wp2_with fail
 refine (zP C D z base A S q 4 zz _ ac (by decide)).mono ?_
 rintro e w2 ⟨rfl,M,s⟩
 rw[h2] at M ⊢
 have O:=af.trans s
 clear s
 go_wp2_with fail
 refine (zeT C D z base A S (adv q) zX _ M).mono ?_
 cases X:zd C 1 zX (adv q) with
 |error p=>
  rintro e w3 ⟨rfl,H⟩
  have I:=(h.back O).trans H
  have J:Hid (zaz C q= .error p):=bdE HY.out X
  unfold Pan
  go_wp2
  refine⟨rfl,?_⟩
  rw[J.out]
  exact⟨rfl,I⟩
 |ok a3=>
  rintro e w3 ⟨rfl,S3,ah,s⟩
  have Z:=O.trans s
  clear s
  have Y:=zc (bdO HY.out X)
  go_wp2_with fail
  refine (zg2 C D z base A S3 a3 _ ah hC).mono ?_
  cases K:zM C a3 with
  |error p=>
   rintro e w4 ⟨rfl,H⟩
   have I:=(h.back Z).trans H
   have J:Hid (zaz C q= .error p):=bdE Y.out K
   unfold Pan
   go_wp2
   refine⟨rfl,?_⟩
   rw[J.out]
   exact⟨rfl,I⟩
  |ok a4=>
   rintro e w4 ⟨rfl,S4,ad,s⟩
   have L:=Z.trans s
   clear s
   have aa:=zc (bdO Y.out K)
   go_wp2_with fail
   refine (zc5 C D z base A S4 a4.1 59 _ ad).mono ?_
   cases E:zd C 4 cSemi a4.1 with
   |error p=>
    rintro e w5 ⟨rfl,H⟩
    have I:=(h.back L).trans H
    have J:Hid (zaz C q= .error p):=bdE aa.out E
    unfold Pan
    go_wp2
    refine⟨rfl,?_⟩
    rw[J.out]
    exact⟨rfl,I⟩
   |ok a5=>
    rintro e w5 ⟨rfl,S5,ae,s⟩
    have ab:=L.trans s
    clear s
    have N:=zc (bdO aa.out E)
    have U:0<a5.pos:=by rw[(zcb E).1];exact Nat.succ_pos _
    go_wp2_with fail
    refine (zfD C D z base A S5 a5 ⟨3,sNone,sNone,a4.2⟩ _ ae U).mono ?_
    cases V:zq C ⟨3,sNone,sNone,a4.2⟩ a5 with
    |error p=>
     rintro e w6 ⟨rfl,H⟩
     have I:=(h.back ab).trans H
     have J:Hid (zaz C q= .error p):=N.out.trans V
     unfold Pan
     go_wp2
     refine⟨rfl,?_⟩
     rw[J.out]
     exact⟨rfl,I⟩
    |ok a6=>
     rintro e w6 ⟨rfl,S6,ag,s⟩
     have ai:=ab.trans s
     clear s
     have aj:=zc (N.out.trans V)
     go_wp2
     go_end0
     rw[aj.out]
     exact⟨rfl,S6,ag,ai⟩
theorem zum (C:Cx) (E z base A:Nat) (S:Sv) (q:PS) (w:World) (h:IM C E z base A S q w) (h1:isT C q.pos 4 zO=false) (h2:isT C q.pos 4 zz=false) (h3:isT C q.pos 1 sDefault=true):
  Calls Tryz.prog 217 #[.pointer (some ⟨A,0,none⟩)] w (zV C E z base A (zaz C q) id (fun _=>.tuple #[]) S w):=by
 have HY:Hid (zaz C q=bd (stmtI C 1 zcs cSemi (adv q)) fun a=>zq C ⟨1,sDefault,zcs,sNone⟩ a):=by show _=_;rw[zaz,h1,h2,h3];rfl
 go_enter Tryz.func217,Tryz.ntmps217
 go_wp2_with fail
 refine (zP C E z base A S q 4 zO _ h (by decide)).mono ?_
 rintro e w1 ⟨rfl,O,aa⟩
 rw[h1] at O ⊢
 go_wp2_with fail
 refine (zP C E z base A S q 4 zz _ O (by decide)).mono ?_
 rintro e w2 ⟨rfl,J,s⟩
 rw[h2] at J ⊢
 have Z:=aa.trans s
 clear s
 go_wp2_with fail
 refine (zP C E z base A S q 1 sDefault _ J (by decide)).mono ?_
 rintro e w3 ⟨rfl,L,s⟩
 rw[h3] at L ⊢
 have M:=Z.trans s
 clear s
 go_wp2_with fail
 refine (zev C E z base A S (adv q) 1 zcs cSemi _ L (by decide) (by decide)).mono ?_
 cases D:stmtI C 1 zcs cSemi (adv q) with
 |error p=>
  rintro e w4 ⟨rfl,U⟩
  have HB:=(h.back M).trans U
  have HX:Hid (zaz C q= .error p):=bdE HY.out D
  unfold Pan
  go_wp2
  refine⟨rfl,?_⟩
  rw[HX.out]
  exact⟨rfl,HB⟩
 |ok a4=>
  rintro e w4 ⟨rfl,S4,V,s⟩
  have I:=M.trans s
  clear s
  have N:=zc (bdO HY.out D)
  have K:=(zi7 D (by decide)).2
  go_wp2_with fail
  refine (zfD C E z base A S4 a4 ⟨1,sDefault,zcs,sNone⟩ _ V K).mono ?_
  cases H:zq C ⟨1,sDefault,zcs,sNone⟩ a4 with
  |error p=>
   rintro e w5 ⟨rfl,U⟩
   have HB:=(h.back I).trans U
   have HX:Hid (zaz C q= .error p):=N.out.trans H
   unfold Pan
   go_wp2
   refine⟨rfl,?_⟩
   rw[HX.out]
   exact⟨rfl,HB⟩
  |ok a5=>
   rintro e w5 ⟨rfl,S5,X,s⟩
   have ab:=I.trans s
   clear s
   have Y:=zc (N.out.trans H)
   go_wp2
   go_end0
   rw[Y.out]
   exact⟨rfl,S5,X,ab⟩
theorem zun (C:Cx) (D z base A:Nat) (S:Sv) (q:PS) (w:World) (h:IM C D z base A S q w) (hC:zbu C) (h1:isT C q.pos 4 zO=false) (h2:isT C q.pos 4 zz=false) (h3:isT C q.pos 1 sDefault=false) (h4:isT C q.pos 1 zH=true):
  Calls Tryz.prog 217 #[.pointer (some ⟨A,0,none⟩)] w (zV C D z base A (zaz C q) id (fun _=>.tuple #[]) S w):=by
 have HY:Hid (zaz C q=bd (letJ C 1 (adv q)) fun a=>zq C ⟨1,(ze C (q.pos+1)).text,(ze C (q.pos+1)).text,sNone⟩ a):=by show _=_;rw[zaz,h1,h2,h3,h4];rfl
 go_enter Tryz.func217,Tryz.ntmps217
 go_wp2_with fail
 refine (zP C D z base A S q 4 zO _ h (by decide)).mono ?_
 rintro e w1 ⟨rfl,V,aa⟩
 rw[h1] at V ⊢
 go_wp2_with fail
 refine (zP C D z base A S q 4 zz _ V (by decide)).mono ?_
 rintro e w2 ⟨rfl,I,s⟩
 rw[h2] at I ⊢
 have Z:=aa.trans s
 clear s
 go_wp2_with fail
 refine (zP C D z base A S q 1 sDefault _ I (by decide)).mono ?_
 rintro e w3 ⟨rfl,O,s⟩
 rw[h3] at O ⊢
 have ad:=Z.trans s
 clear s
 go_wp2_with fail
 refine (zP C D z base A S q 1 zH _ O (by decide)).mono ?_
 rintro e w4 ⟨rfl,J,s⟩
 rw[h4] at J ⊢
 have H:=ad.trans s
 clear s
 go_wp2_with fail
 refine (zhN C D z base A S (adv q) _ J).mono ?_
 cases E:letJ C 1 (adv q) with
 |error p=>
  rintro e w5 ⟨rfl,X⟩
  have HB:=(h.back H).trans X
  have HX:Hid (zaz C q= .error p):=bdE HY.out E
  unfold Pan
  go_wp2
  refine⟨rfl,?_⟩
  rw[HX.out]
  exact⟨rfl,HB⟩
 |ok a5=>
  rintro e w5 ⟨rfl,S5,Y,s⟩
  have U:=H.trans s
  clear s
  have L:=zc (bdO HY.out E)
  obtain⟨⟨l,e,K⟩,N⟩:=zui E
  have af:=zc K
  clear K
  go_wp2_with fail
  refine (zmr C D z base A S5 a5 l _ _ (ze C (q.pos+1)).text _ Y af.out (hC _) N).mono ?_
  cases M:zq C ⟨1,(ze C (q.pos+1)).text,(ze C (q.pos+1)).text,sNone⟩ a5 with
  |error p=>
   rintro e w6 ⟨rfl,X⟩
   have HB:=(h.back U).trans X
   have HX:Hid (zaz C q= .error p):=L.out.trans M
   unfold Pan
   go_wp2
   refine⟨rfl,?_⟩
   rw[HX.out]
   exact⟨rfl,HB⟩
  |ok a6=>
   rintro e w6 ⟨rfl,S6,ab,s⟩
   have ac:=U.trans s
   clear s
   have ae:=zc (L.out.trans M)
   go_wp2
   go_end0
   rw[ae.out]
   exact⟨rfl,S6,ab,ac⟩
theorem zuo (C:Cx) (D z base A:Nat) (S:Sv) (q:PS) (w:World) (h:IM C D z base A S q w) (hC:zbu C) (h1:isT C q.pos 4 zO=false) (h2:isT C q.pos 4 zz=false) (h3:isT C q.pos 1 sDefault=false) (h4:isT C q.pos 1 zH=false) (h5:isT C q.pos 1 zW=true):
  Calls Tryz.prog 217 #[.pointer (some ⟨A,0,none⟩)] w (zV C D z base A (zaz C q) id (fun _=>.tuple #[]) S w):=by
 have HY:Hid (zaz C q=bd (fnI C (adv q)) fun a=>zq C ⟨1,(ze C (q.pos+1)).text,(ze C (q.pos+1)).text,sNone⟩ a):=by show _=_;rw[zaz,h1,h2,h3,h4,h5];rfl
 go_enter Tryz.func217,Tryz.ntmps217
 go_wp2_with fail
 refine (zP C D z base A S q 4 zO _ h (by decide)).mono ?_
 rintro e w1 ⟨rfl,V,ab⟩
 rw[h1] at V ⊢
 go_wp2_with fail
 refine (zP C D z base A S q 4 zz _ V (by decide)).mono ?_
 rintro e w2 ⟨rfl,H,s⟩
 rw[h2] at H ⊢
 have ac:=ab.trans s
 clear s
 go_wp2_with fail
 refine (zP C D z base A S q 1 sDefault _ H (by decide)).mono ?_
 rintro e w3 ⟨rfl,M,s⟩
 rw[h3] at M ⊢
 have ae:=ac.trans s
 clear s
 go_wp2_with fail
 refine (zP C D z base A S q 1 zH _ M (by decide)).mono ?_
 rintro e w4 ⟨rfl,I,s⟩
 rw[h4] at I ⊢
 have Y:=ae.trans s
 clear s
 go_wp2_with fail
 refine (zP C D z base A S q 1 zW _ I (by decide)).mono ?_
 rintro e w5 ⟨rfl,K,s⟩
 rw[h5] at K ⊢
 have O:=Y.trans s
 clear s
 go_wp2_with fail
 refine (zhO C D z base A S (adv q) _ K).mono ?_
 cases E:fnI C (adv q) with
 |error p=>
  rintro e w6 ⟨rfl,hb⟩
  have HB:=(h.back O).trans hb
  have HX:Hid (zaz C q= .error p):=bdE HY.out E
  unfold Pan
  go_wp2
  refine⟨rfl,?_⟩
  rw[HX.out]
  exact⟨rfl,HB⟩
 |ok a6=>
  rintro e w6 ⟨rfl,S6,ad,s⟩
  have N:=O.trans s
  clear s
  have X:=zc (bdO HY.out E)
  obtain⟨⟨l,e,J⟩,L⟩:=zuj E
  have ag:=zc J
  clear J
  go_wp2_with fail
  refine (zmr C D z base A S6 a6 l _ _ (ze C (q.pos+1)).text _ ad ag.out (hC _) L).mono ?_
  cases U:zq C ⟨1,(ze C (q.pos+1)).text,(ze C (q.pos+1)).text,sNone⟩ a6 with
  |error p=>
   rintro e w7 ⟨rfl,hb⟩
   have HB:=(h.back N).trans hb
   have HX:Hid (zaz C q= .error p):=X.out.trans U
   unfold Pan
   go_wp2
   refine⟨rfl,?_⟩
   rw[HX.out]
   exact⟨rfl,HB⟩
  |ok a7=>
   rintro e w7 ⟨rfl,S7,aa,s⟩
   have af:=N.trans s
   clear s
   have Z:=zc (X.out.trans U)
   go_wp2
   go_end0
   rw[Z.out]
   exact⟨rfl,S7,aa,af⟩
theorem zup (C:Cx) (D z base A:Nat) (S:Sv) (q:PS) (w:World) (h:IM C D z base A S q w) (Y:isT C q.pos 4 zO=false) (V:isT C q.pos 4 zz=false) (h3:isT C q.pos 1 sDefault=false) (X:isT C q.pos 1 zH=false) (Z:isT C q.pos 1 zW=false):
  Calls Tryz.prog 217 #[.pointer (some ⟨A,0,none⟩)] w (zV C D z base A (zaz C q) id (fun _=>.tuple #[]) S w):=by
 have HY:Hid (zaz C q= .error (zt C q.pos)):=by show _=_;rw[zaz,Y,V,h3,X,Z];rfl
 go_enter Tryz.func217,Tryz.ntmps217
 go_wp2_with fail
 refine (zP C D z base A S q 4 zO _ h (by decide)).mono ?_
 rintro e w1 ⟨rfl,K,M⟩
 rw[Y] at K ⊢
 go_wp2_with fail
 refine (zP C D z base A S q 4 zz _ K (by decide)).mono ?_
 rintro e w2 ⟨rfl,H,s⟩
 rw[V] at H ⊢
 have N:=M.trans s
 clear s
 go_wp2_with fail
 refine (zP C D z base A S q 1 sDefault _ H (by decide)).mono ?_
 rintro e w3 ⟨rfl,J,s⟩
 rw[h3] at J ⊢
 have O:=N.trans s
 clear s
 go_wp2_with fail
 refine (zP C D z base A S q 1 zH _ J (by decide)).mono ?_
 rintro e w4 ⟨rfl,I,s⟩
 rw[X] at I ⊢
 have L:=O.trans s
 clear s
 go_wp2_with fail
 refine (zP C D z base A S q 1 zW _ I (by decide)).mono ?_
 rintro e w5 ⟨rfl,E,s⟩
 rw[Z] at E ⊢
 have U:=L.trans s
 clear s
 go_wp2_with fail
 refine (zeS C D z base A S q _ E).mono ?_
 rintro e wz ⟨rfl,hb⟩
 have HB:=(h.back U).trans (hb.mono E.mem.base)
 have HX:Hid (zaz C q= .error (zt C q.pos)):=HY.out
 unfold Pan
 go_wp2
 refine⟨rfl,?_⟩
 rw[HX.out]
 exact⟨rfl,HB⟩
theorem zuq (C:Cx) (D z base A:Nat) (S:Sv) (q:PS) (w:World) (h:IM C D z base A S q w) (I:zbu C):
  Calls Tryz.prog 217 #[.pointer (some ⟨A,0,none⟩)] w (zV C D z base A (zaz C q) id (fun _=>.tuple #[]) S w):=by
 cases E:isT C q.pos 4 zO with
 |true=>exact zuk C D z base A S q w h I E
 |false=>
  cases H:isT C q.pos 4 zz with
  |true=>exact zul C D z base A S q w h I E H
  |false=>
   cases J:isT C q.pos 1 sDefault with
   |true=>exact zum C D z base A S q w h E H J
   |false=>
    cases K:isT C q.pos 1 zH with
    |true=>exact zun C D z base A S q w h I E H J K
    |false=>
     cases L:isT C q.pos 1 zW with
     |true=>exact zuo C D z base A S q w h I E H J K L
     |false=>exact zup C D z base A S q w h E H J K L
end Go.Proofs.YtgcbmogmniahjaaGreat
