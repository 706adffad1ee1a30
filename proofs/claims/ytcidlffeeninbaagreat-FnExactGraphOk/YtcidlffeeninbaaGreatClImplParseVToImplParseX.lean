/-
  What ContainsFunc over Exps answers,and a row of Exps whose elements are written: the walks.
  What exportNames of impl's parser answers: the walks. (It writes into the row that it is handed: so what is told is told from a world on in which that row was not yet there.)
  What exportItem of impl's parser answers: the walks.
-/
import Derived.Test.YtcidlffeeninbaaGreatClImplParseU
namespace Go.Proofs.YtcidlffeeninbaaGreat
set_option maxRecDepth 100000
set_option maxHeartbeats 3200000
open Go.RowKit Go.PlainAid Go.Sort
theorem zl1 {α:Type} (f:α→List Value) (m:Nat) (q: ∀x,(f x).length=m): ∀(l:List α) (j i:Nat) (x y:α) (v:Value),l[j]? =some x→i<m→f y=(f x).set i v→(l.flatMap f).set (j*m+i) v=(l.set j y).flatMap f:=by
 intro l
 induction l with
 |nil=>intro j i x y v h;simp at h
 |cons z l D=>
  intro j i x y v h w A
  match j with
  |0=>
   simp only[List.getElem?_cons_zero,Option.some.injEq] at h
   subst h
   rw[List.flatMap_cons,Nat.zero_mul,Nat.zero_add,List.set_append_left _ _ (by rw[q];exact w),List.set_cons_zero,List.flatMap_cons,A]
  |j+1=>
   simp only[List.getElem?_cons_succ] at h
   rw[List.flatMap_cons,List.set_append_right _ _ (by rw[q,Nat.succ_mul];omega),q,List.set_cons_succ,List.flatMap_cons,←D j i x y v h w A]
   congr 2
   rw[Nat.succ_mul]
   omega
def mxE (s:ByteArray) (l:List Ep) (j:Nat):List Ep:=(l.take j).map (zav s)++(l.drop j).map zD
theorem zl2 (s:ByteArray) (l:List Ep) (j:Nat):(mxE s l j).length=l.length:=by simp[mxE];omega
theorem zl3 {s:ByteArray} {l:List Ep} {j:Nat} {x:Ep} (h:l[j]? =some x):(mxE s l j)[j]? =some (zD x):=by
 obtain⟨w,rfl⟩:=List.getElem?_eq_some_iff.1 h
 have q:((l.take j).map (zav s)).length=j:=by simp;omega
 rw[mxE,List.getElem?_append_right (by omega),q,Nat.sub_self,List.drop_eq_getElem_cons w]
 rfl
theorem zsQ {s:ByteArray} {l:List Ep} {j:Nat} {x:Ep} (h:l[j]? =some x):(mxE s l j).set j (zav s x)=mxE s l (j+1):=by
 obtain⟨q,rfl⟩:=List.getElem?_eq_some_iff.1 h
 have w:((l.take j).map (zav s)).length=j:=by simp;omega
 rw[mxE,List.set_append_right _ _ (by omega),w,Nat.sub_self,List.drop_eq_getElem_cons q,List.map_cons,List.set_cons_zero,mxE,List.take_succ_eq_append_getElem q,List.map_append,List.append_assoc]
 rfl
theorem zsR (s:ByteArray) (l:List Ep):mxE s l 0=l.map zD:=by simp[mxE]
theorem zsS (s:ByteArray) (l:List Ep):mxE s l l.length=l.map (zav s):=by simp[mxE]
theorem zsT (x:Ep) (w:World):
  Calls Tryz.prog 216 #[epV x] w fun e h=>e= .returned (.bool (x.loc.toList==[100,101,102,97,117,108,116]))∧Below w.heap.size w h:=by
 unfold epV
 cases q:(x.loc.toList==[100,101,102,97,117,108,116]) with
 |true=>
  go_enter Tryz.func216,Tryz.ntmps216
  go_wp2
  go_ret
  exact⟨rfl,(Below.refl _ _).alloc (Nat.le_refl _) _⟩
 |false=>
  go_enter Tryz.func216,Tryz.ntmps216
  go_wp2
  go_ret
  exact⟨rfl,(Below.refl _ _).alloc (Nat.le_refl _) _⟩
theorem zsU {l:List Ep} {j:Nat} {x:Ep} (h:l[j]? =some x):zaE (l.drop j)=((x.loc.toList==[100,101,102,97,117,108,116])||zaE (l.drop (j+1))):=by
 obtain⟨q,rfl⟩:=List.getElem?_eq_some_iff.1 h
 rw[List.drop_eq_getElem_cons q]
 simp only[zaE,List.any_cons]
theorem zsV (E g:Nat) (r:Rw) (l:List Ep) (w:World) (h:OwnR w E 82 4 r l.length (l.flatMap fun e=>epL (zD e))) (hl:l.length≤4000) (hg:r.a=some ⟨g,0,none⟩):
  Calls Tryz.prog 222 #[.slice (some ⟨g,0,none⟩) l.length r.cap,.func (.func 216) #[] #[]] w fun e w'=>(∃v:Int,e= .returned (.int .i64 v)∧decide (0≤v)=zaE l)∧Below w.heap.size w w':=by
 have Z:=zc h
 have U:=zc hg
 clear h hg
 go_enter Tryz.func222,Tryz.ntmps222
 go_wp2
 go_loopg [8] (l.length+1) (fun k i wr=>∃j:Nat,i= .int .i64 j∧j+k=l.length+1∧zaE (l.drop j)=zaE l∧Below w.heap.size w wr)
 case atStart=>exact⟨0,rfl,by omega,by simp,Below.refl _ _⟩
 case round=>
  obtain⟨j,rfl,hj,he,X⟩:=hrel
  have M:=zc he
  have J:=zc X
  clear he X
  by_cases L:j<l.length
  ·have D:(j:Int)<(l.length:Int):=by omega
   obtain⟨x,N⟩:=zfC L
   have O:=zc (Z.out.keep fun k g=>J.out.block k (Z.out.typed g).2.1)
   obtain⟨g',z,q⟩:=OwnR.elem (f:=fun e=>epL (zD e)) (m:=4) (fun _=>rfl) O.out N
   have eg:g'=g:=by have:=z.symm.trans U.out;simpa using this
   subst eg
   have k0:=q 0 (by omega)
   have k1:=q 1 (by omega)
   have k2:=q 2 (by omega)
   have k3:=q 3 (by omega)
   simp only[epL,zD,Nat.add_zero,List.getElem?_cons_zero,List.getElem?_cons_succ] at k0 k1 k2 k3
   have V:=zc (zsU N)
   clear q z N
   obtain⟨K,A⟩: ∃K,K=j+1:=⟨_,rfl⟩
   have ej:(j:Int)+1=(K:Int):=by omega
   have HJ:=zc A
   clear A
   go_wp2_with fail
   refine (zsT (zD x) _).mono ?_
   rintro e w1 ⟨rfl,I⟩
   have H:Hid (Below w.heap.size w w1):=J.out.trans (I.mono J.out.size)
   clear I
   rw[show (zD x).loc=x.loc from rfl]
   cases Y:(x.loc.toList==[100,101,102,97,117,108,116]) with
   |true=>
    go_wp2
    go_ret
    refine⟨⟨_,rfl,?_⟩,H.out⟩
    rw[←M.out,V.out,Y]
    simp
   |false=>
    go_wp2
    go_roundg (gk-1)
    case rel=>
     refine⟨K,rfl,by have:=HJ.out;omega,?_,H.out⟩
     rw[←M.out,V.out,Y,HJ.out]
     simp
    case measure=>omega
  ·have D: ¬(j:Int)<(l.length:Int):=by omega
   go_wp2
   go_ret
   refine⟨⟨_,rfl,?_⟩,J.out⟩
   rw[←M.out,List.drop_eq_nil_of_le (by omega)]
   rfl
theorem zl4 (q g:Nat) (r:Rw) (l:List Ep) (w:World) (h:OwnR w q 82 4 r l.length (l.flatMap fun e=>epL (zD e))) (H:l.length≤4000) (D:r.a=some ⟨g,0,none⟩):
  Calls Tryz.prog 217 #[.slice (some ⟨g,0,none⟩) l.length r.cap,.func (.func 216) #[] #[]] w fun e I=>e= .returned (.bool (zaE l))∧Below w.heap.size w I:=by
 have L:=zc h
 have z:=zc D
 clear h D
 go_enter Tryz.func217,Tryz.ntmps217
 go_wp2_with fail
 refine (zsV q g r l _ L.out H z.out).mono ?_
 rintro e M ⟨⟨v,rfl,A⟩,E⟩
 have J:=zc A
 have K:=zc E
 clear A E
 go_wp2
 go_ret
 exact⟨zh J.out,K.out⟩
def zaB (C:Cx) (l:List Ep) (q:PS):PR:=
 if isT C q.pos 1 zV||zaE l then bd (zd C 1 zV q) fun a=>bd (zL C a) fun b=>bd (zd C 4 cSemi b.1) fun c=>zX (fun e=>zp C (zav b.2 e)) l (.ok c)
 else bd (zd C 4 cSemi q) fun c=>zX (fun e=>zp C (zD e)) l (.ok c)
theorem zl5 (X:Ep→Ep) (l:List Ep):(l.map X).flatMap epL=l.flatMap fun e=>epL (X e):=by rw[List.flatMap_map]
theorem zsW (C:Cx) (J A z D b0 g:Nat) (r:Rw) (S E:Sv) (q0 q:PS) (l:List Ep) (w wc:World) (hh:IM C J A z D S q0 w) (h:IM C J A z D E q wc) (h0:IS D S w E wc) (hl:l.length≤4000) (hf:Fr 82 4 wc b0 r l.length (l.flatMap (fun e=>epL (zD e))) E) (hg:r.a=some ⟨g,0,none⟩) (hi:isT C q.pos 1 zV=false) (ha:zaE l=false):
  Calls Tryz.prog 199 #[.pointer (some ⟨D,0,none⟩),.slice (some ⟨g,0,none⟩) l.length r.cap] wc (zT C J A z D (zaB C l q) id (fun _=>.tuple #[]) S w):=by
 have HH:=zc hh
 have HC:=zc h
 have H0:=zc h0
 have HF:=zc hf
 have HG:=zc hg
 have HY:Hid (zaB C l q=bd (zd C 4 cSemi q) fun c=>zX (fun e=>zp C (zD e)) l (.ok c)):=by show _=_;rw[zaB,hi,ha];rfl
 clear hh h h0 hf hg
 go_enter Tryz.func199,Tryz.ntmps199
 go_wp2_with fail
 refine (zck C J A z D E q 1 zV _ HC.out).mono ?_
 rintro e w1 ⟨rfl,H⟩
 rw[hi]
 have aj:Hid (IM C J A z D E q w1):=HC.out.later H
 have an:Hid (IS D S w E w1):=(H0.out.trans (IS.below H))
 have Y:IS D E wc E w1:=IS.below H
 clear H
 have af:Hid (Fr 82 4 w1 b0 r l.length (l.flatMap (fun e=>epL (zD e))) E):=HF.out.step HC.out (by decide) Y
 clear Y
 go_wp2_with fail
 refine (zl4 b0 g r l _ af.out.1 hl HG.out).mono ?_
 rintro e w2 ⟨rfl,H⟩
 rw[ha]
 have am:Hid (Fr 82 4 w2 b0 r l.length (l.flatMap (fun e=>epL (zD e))) E):=af.out.later H
 have ae:Hid (IM C J A z D E q w2):=aj.out.later H
 have ad:Hid (IS D S w E w2):=(an.out.trans (IS.below H))
 clear H
 go_wp2_with fail
 refine (zcz C J A z D E q 59 _ ae.out).mono ?_
 cases N:zd C 4 cSemi q with
 |error p=>
  rintro e w3 ⟨rfl,H⟩
  have HB:Hid (Below z w w3):=(HH.out.back ad.out).trans H
  have HX:Hid (zaB C l q= .error p):=bdE HY.out N
  unfold Pan
  go_wp2
  refine⟨rfl,?_⟩
  rw[HX.out]
  exact⟨rfl,HB.out⟩
 |ok a3=>
  rintro e w3 ⟨rfl,S3,m,s⟩
  have ah:Hid (Fr 82 4 w3 b0 r l.length (l.flatMap (fun e=>epL (zD e))) S3):=am.out.step ae.out (by decide) s
  have ar:=zc m
  have al:Hid (IS D S w S3 w3):=ad.out.trans s
  clear m s
  have ai:=zc (bdO HY.out N)
  have ag:0<a3.pos:=by rw[(zbO N).1];exact Nat.succ_pos _
  go_wp2
  go_loopg [39] l.length (fun k i wr=>∃(j:Nat) (K:Sv) (L:PS),i= .int .i64 j∧j+k=l.length∧zaB C l q=zX (fun e=>zp C (zD e)) (l.drop j) (.ok L)∧0<L.pos∧IM C J A z D K L wr∧IS D S w K wr∧Fr 82 4 wr b0 r l.length (l.flatMap fun e=>epL (zD e)) K)
  case atStart=>exact⟨0,S3,a3,rfl,by omega,ai.out,ag,ar.out,al.out,ah.out⟩
  case round=>
   obtain⟨j,K,L,rfl,hj,hy,ab,m',s',f'⟩:=hrel
   have aa:=zc hy
   have M:Hid (IM C J A z D K L wr):=m'
   have U:Hid (IS D S w K wr):=s'
   have X:Hid (Fr 82 4 wr b0 r l.length (l.flatMap fun e=>epL (zD e)) K):=f'
   clear hy m' s' f'
   by_cases aq:j<l.length
   ·have ac:(j:Int)<(l.length:Int):=by omega
    obtain⟨x,hx⟩:=zfC aq
    obtain⟨g',V,I⟩:=OwnR.elem (f:=fun e=>epL (zD e)) (m:=4) (fun _=>rfl) X.out.1 hx
    have eg:g'=g:=by have:=V.symm.trans HG.out;simpa using this
    subst eg
    have k0:=I 0 (by omega)
    have k1:=I 1 (by omega)
    have k2:=I 2 (by omega)
    have k3:=I 3 (by omega)
    simp only[epL,zD,Nat.add_zero,List.getElem?_cons_zero,List.getElem?_cons_succ] at k0 k1 k2 k3
    have HZ:=zc (aa.out.trans (zhY (fun e=>zp C (zD e)) hx L))
    clear I V hx
    obtain⟨Z,O⟩: ∃Z,Z=j+1:=⟨_,rfl⟩
    have ej:(j:Int)+1=(Z:Int):=by omega
    rw[←O] at HZ
    have aw:=M.out.lt
    have HJ:=zc O
    clear O
    go_wp2_with fail
    refine (zfs C J A z D K L (zD x) _ (M.out.alloc _) ab).mono ?_
    cases hn:zp C (zD x) L with
    |error p=>
     rintro e wy ⟨rfl,H⟩
     have HB:Hid (Below z w wy):=(HH.out.back (U.out.alloc _)).trans H
     have HX:Hid (zaB C l q= .error p):=by show _=_;rw[HZ.out,hn];exact zgF _ _ _
     unfold Pan
     go_wp2
     refine⟨rfl,?_⟩
     rw[HX.out]
     exact⟨rfl,HB.out⟩
    |ok ay=>
     rintro e wy ⟨rfl,Sy,m,s⟩
     have av:=zc m
     have ak:Hid (IS D S w Sy wy):=(U.out.alloc _).trans s
     have ap:Hid (Fr 82 4 wy b0 r l.length (l.flatMap fun e=>epL (zD e)) Sy):=(X.out.later ((Below.refl _ _).alloc (Nat.le_refl _) _)).step (M.out.alloc _) (by decide) s
     have ao:Hid (zaB C l q=zX (fun e=>zp C (zD e)) (l.drop Z) (.ok ay)):=by show _=_;rw[HZ.out,hn]
     have au:Hid (0<ay.pos):=by show 0<ay.pos;rw[zlz hn];exact ab
     clear m s
     go_wp2
     go_roundg (gk-1)
     case rel=>exact⟨Z,Sy,ay,rfl,by have:=HJ.out;omega,ao.out,au.out,av.out,ak.out,ap.out⟩
     case measure=>omega
   ·have ac: ¬(j:Int)<(l.length:Int):=by omega
    have HZ:Hid (zaB C l q= .ok L):=by show _=_;rw[aa.out,List.drop_eq_nil_of_le (by omega)];rfl
    go_wp2
    go_end0
    rw[HZ.out]
    exact⟨rfl,K,M.out,U.out⟩
theorem zsX (C:Cx) (I A z E b0 g:Nat) (r:Rw) (S D:Sv) (q0 q:PS) (l:List Ep) (w wc:World) (hh:IM C I A z E S q0 w) (h:IM C I A z E D q wc) (h0:IS E S w D wc) (hl:l.length≤4000) (hf:Fr 82 4 wc b0 r l.length (l.flatMap (fun e=>epL (zD e))) D) (hg:r.a=some ⟨g,0,none⟩) (M:isT C q.pos 1 zV=false) (Z:zaE l=true):
  Calls Tryz.prog 199 #[.pointer (some ⟨E,0,none⟩),.slice (some ⟨g,0,none⟩) l.length r.cap] wc (zT C I A z E (zaB C l q) id (fun _=>.tuple #[]) S w):=by
 have HH:=zc hh
 have V:=zc h
 have H0:=zc h0
 have HF:=zc hf
 have HG:=zc hg
 have HY:Hid (zaB C l q= .error (zs C q.pos)):=by show _=_;rw[zaB,M,Z,if_pos (by decide),zhk M];rfl
 clear hh h h0 hf hg
 go_enter Tryz.func199,Tryz.ntmps199
 go_wp2_with fail
 refine (zck C I A z E D q 1 zV _ V.out).mono ?_
 rintro e L ⟨rfl,H⟩
 rw[M]
 have O:Hid (IM C I A z E D q L):=V.out.later H
 have N:Hid (IS E S w D L):=(H0.out.trans (IS.below H))
 have J:IS E D wc D L:=IS.below H
 clear H
 have K:Hid (Fr 82 4 L b0 r l.length (l.flatMap (fun e=>epL (zD e))) D):=HF.out.step V.out (by decide) J
 clear J
 go_wp2_with fail
 refine (zl4 b0 g r l _ K.out.1 hl HG.out).mono ?_
 rintro e X ⟨rfl,H⟩
 rw[Z]
 have aa:Hid (Fr 82 4 X b0 r l.length (l.flatMap (fun e=>epL (zD e))) D):=K.out.later H
 have Y:Hid (IM C I A z E D q X):=O.out.later H
 have U:Hid (IS E S w D X):=(N.out.trans (IS.below H))
 clear H
 go_wp2_with fail
 refine (zeD C I A z E D q zV _ Y.out).mono ?_
 rw[zhk M]
 rintro e w3 ⟨rfl,H⟩
 have HB:Hid (Below z w w3):=(HH.out.back U.out).trans H
 have HX:Hid (zaB C l q= .error (zs C q.pos)):=HY.out
 unfold Pan
 go_wp2
 refine⟨rfl,?_⟩
 rw[HX.out]
 exact⟨rfl,HB.out⟩
theorem zsY (C:Cx) (K A z D b0 g:Nat) (r:Rw) (S Z:Sv) (q0 q:PS) (l:List Ep) (w wc:World) (hh:IM C K A z D S q0 w) (h:IM C K A z D Z q wc) (h0:IS D S w Z wc) (hC:zbm C) (hl:l.length≤4000) (hf:Fr 82 4 wc b0 r l.length (l.flatMap (fun e=>epL (zD e))) Z) (hg:r.a=some ⟨g,0,none⟩) (al:w.heap.size≤g) (hi:isT C q.pos 1 zV=true):
  Calls Tryz.prog 199 #[.pointer (some ⟨D,0,none⟩),.slice (some ⟨g,0,none⟩) l.length r.cap] wc (zT C K A z D (zaB C l q) id (fun _=>.tuple #[]) S w):=by
 have HH:=zc hh
 have HC:=zc h
 have H0:=zc h0
 have HF:=zc hf
 have HG:=zc hg
 have aw:=zc al
 have HY:Hid (zaB C l q=bd (zd C 1 zV q) fun a=>bd (zL C a) fun b=>bd (zd C 4 cSemi b.1) fun c=>zX (fun e=>zp C (zav b.2 e)) l (.ok c)):=by show _=_;rw[zaB,hi];rfl
 clear hh h h0 hf hg al
 go_enter Tryz.func199,Tryz.ntmps199
 go_wp2_with fail
 refine (zck C K A z D Z q 1 zV _ HC.out).mono ?_
 rintro e w1 ⟨rfl,O⟩
 rw[hi]
 have ah:Hid (IM C K A z D Z q w1):=HC.out.later O
 have ao:Hid (IS D S w Z w1):=(H0.out.trans (IS.below O))
 have aj:IS D Z wc Z w1:=IS.below O
 clear O
 have aK:Hid (Fr 82 4 w1 b0 r l.length (l.flatMap (fun e=>epL (zD e))) Z):=HF.out.step HC.out (by decide) aj
 clear aj
 go_wp2_with fail
 refine (zeD C K A z D Z q zV _ ah.out).mono ?_
 cases au:zd C 1 zV q with
 |error p=>
  rintro e w2 ⟨rfl,O⟩
  have HB:Hid (Below z w w2):=(HH.out.back ao.out).trans O
  have HX:Hid (zaB C l q= .error p):=bdE HY.out au
  unfold Pan
  go_wp2
  refine⟨rfl,?_⟩
  rw[HX.out]
  exact⟨rfl,HB.out⟩
 |ok a2=>
  rintro e w2 ⟨rfl,S2,m,s⟩
  have aH:Hid (Fr 82 4 w2 b0 r l.length (l.flatMap (fun e=>epL (zD e))) S2):=aK.out.step ah.out (by decide) s
  have ar:=zc m
  have aq:Hid (IS D S w S2 w2):=ao.out.trans s
  clear m s
  have ax:=zc (bdO HY.out au)
  go_wp2_with fail
  refine (zgh C K A z D S2 a2 _ ar.out hC).mono ?_
  cases ai:zL C a2 with
  |error p=>
   rintro e w3 ⟨rfl,O⟩
   have HB:Hid (Below z w w3):=(HH.out.back aq.out).trans O
   have HX:Hid (zaB C l q= .error p):=bdE ax.out ai
   unfold Pan
   go_wp2
   refine⟨rfl,?_⟩
   rw[HX.out]
   exact⟨rfl,HB.out⟩
  |ok E=>
   rintro e w3 ⟨rfl,U,m,s⟩
   have aa:Hid (Fr 82 4 w3 b0 r l.length (l.flatMap (fun e=>epL (zD e))) U):=aH.out.step ar.out (by decide) s
   have af:=zc m
   have aD:Hid (IS D S w U w3):=aq.out.trans s
   clear m s
   have ag:=zc (bdO ax.out ai)
   have ad:Hid (Fr 82 4 w3 b0 r l.length ((mxE E.2 l 0).flatMap epL) U):=by show Fr _ _ _ _ _ _ _ _;rw[zsR,zl5];exact aa.out
   have ae:g≠D:=aa.out.ngp af.out (by decide) (by rw[Rw.blk,HG.out];rfl)
   have aA:g≠K:=aa.out.ngt af.out (by decide) (by rw[Rw.blk,HG.out];rfl)
   have X:Hid (¬U.has g):=aa.out.2 g (by rw[Rw.blk,HG.out];rfl)
   have ak:=zc ae
   have az:=zc aA
   clear ae aA
   go_wp2
   go_loopg [22] l.length (fun k i wr=>∃(j:Nat),i= .int .i64 j∧j+k=l.length∧IM C K A z D U E.1 wr∧IS D S w U wr∧Fr 82 4 wr b0 r l.length ((mxE E.2 l j).flatMap epL) U)
   case atStart=>exact⟨0,rfl,by omega,af.out,aD.out,ad.out⟩
   case round=>
    obtain⟨j,rfl,hj,m',s',f'⟩:=hrel
    have I:Hid (IM C K A z D U E.1 wr):=m'
    have J:Hid (IS D S w U wr):=s'
    have L:Hid (Fr 82 4 wr b0 r l.length ((mxE E.2 l j).flatMap epL) U):=f'
    clear m' s' f'
    by_cases ab:j<l.length
    ·have Y:(j:Int)<(l.length:Int):=by omega
     obtain⟨x,hx⟩:=zfC ab
     have HX:=zc hx
     have N:=L.out.1
     have ho:OwnR wr b0 82 4 r (mxE E.2 l j).length ((mxE E.2 l j).flatMap epL):=by rw[zl2];exact N
     obtain⟨g',V,H⟩:=OwnR.elem (f:=epL) (m:=4) (fun _=>rfl) ho (zl3 hx)
     have eg:g'=g:=by have:=V.symm.trans HG.out;simpa using this
     subst eg
     have k0:=H 0 (by omega)
     have k3:=H 3 (by omega)
     simp only[epL,zD,Nat.add_zero,List.getElem?_cons_zero,List.getElem?_cons_succ] at k0 k3
     unfold OwnR at N
     rw[HG.out] at N
     have aQ:=N.frozenAt
     have aE:=zc N
     clear H V hx N ho
     obtain⟨j1,M⟩: ∃j1,j1=j+1:=⟨_,rfl⟩
     have ej:(j:Int)+1=(j1:Int):=by omega
     have HJ:=zc M
     clear M
     go_wp2
     go_roundg (gk-1)
     case rel=>
      refine⟨j1,rfl,by have:=HJ.out;omega,(I.out.set ak.out az.out X.out _ _).set ak.out az.out X.out _ _,(J.out.new aw.out _ _).new aw.out _ _,?_,L.out.2⟩
      have aI:=(aE.out.stored (j*4+0) (.int .i64 2)).1
      have am:=(aI.stored (j*4+3) (.string E.2)).1
      rw[zl1 epL 4 (fun _=>rfl) _ j 0 (zD x) ⟨2,x.name,x.loc,sNone⟩ (.int .i64 2) (zl3 HX.out) (by omega) rfl,zl1 epL 4 (fun _=>rfl) ((mxE E.2 l j).set j ⟨2,x.name,x.loc,sNone⟩) j 3 ⟨2,x.name,x.loc,sNone⟩ (zav E.2 x) (.string E.2) (List.getElem?_set_self (by rw[zl2];exact ab)) (by omega) rfl,List.set_set,zsQ HX.out,←HJ.out] at am
      unfold OwnR
      rw[HG.out]
      exact am
     case measure=>omega
    ·have Y: ¬(j:Int)<(l.length:Int):=by omega
     have aN:j=l.length:=by omega
     subst aN
     have aB:Hid (Fr 82 4 wr b0 r l.length (l.flatMap fun e=>epL (zav E.2 e)) U):=by show Fr _ _ _ _ _ _ _ _;rw[←zl5,←zsS E.2 l];exact L.out
     go_wp2_with fail
     refine (zcz C K A z D U E.1 59 _ I.out).mono ?_
     cases ac:zd C 4 cSemi E.1 with
     |error p=>
      rintro e w4 ⟨rfl,O⟩
      have HB:Hid (Below z w w4):=(HH.out.back J.out).trans O
      have HX:Hid (zaB C l q= .error p):=bdE ag.out ac
      unfold Pan
      go_wp2
      refine⟨rfl,?_⟩
      rw[HX.out]
      exact⟨rfl,HB.out⟩
     |ok a4=>
      rintro e w4 ⟨rfl,S4,m,s⟩
      have ad:Hid (Fr 82 4 w4 b0 r l.length (l.flatMap fun e=>epL (zav E.2 e)) S4):=aB.out.step I.out (by decide) s
      have aL:=zc m
      have aF:Hid (IS D S w S4 w4):=J.out.trans s
      clear m s
      have aG:=zc (bdO ag.out ac)
      have av:0<a4.pos:=by rw[(zbO ac).1];exact Nat.succ_pos _
      go_wp2
      go_loopg [39] l.length (fun k i wr=>∃(j:Nat) (S':Sv) (q':PS),i= .int .i64 j∧j+k=l.length∧zaB C l q=zX (fun e=>zp C (zav E.2 e)) (l.drop j) (.ok q')∧0<q'.pos∧IM C K A z D S' q' wr∧IS D S w S' wr∧Fr 82 4 wr b0 r l.length (l.flatMap fun e=>epL (zav E.2 e)) S')
      case atStart=>exact⟨0,S4,a4,rfl,by omega,aG.out,av,aL.out,aF.out,ad.out⟩
      case round=>
       obtain⟨j,S',q',rfl,hj,hy,ap,m',s',f'⟩:=hrel
       have an:=zc hy
       have I:Hid (IM C K A z D S' q' wr):=m'
       have J:Hid (IS D S w S' wr):=s'
       have L:Hid (Fr 82 4 wr b0 r l.length (l.flatMap fun e=>epL (zav E.2 e)) S'):=f'
       clear hy m' s' f'
       by_cases ab:j<l.length
       ·have Y:(j:Int)<(l.length:Int):=by omega
        obtain⟨x,hx⟩:=zfC ab
        obtain⟨g',V,H⟩:=OwnR.elem (f:=fun e=>epL (zav E.2 e)) (m:=4) (fun _=>rfl) L.out.1 hx
        have eg:g'=g:=by have:=V.symm.trans HG.out;simpa using this
        subst eg
        have k0:=H 0 (by omega)
        have k1:=H 1 (by omega)
        have k2:=H 2 (by omega)
        have k3:=H 3 (by omega)
        simp only[epL,zav,Nat.add_zero,List.getElem?_cons_zero,List.getElem?_cons_succ] at k0 k1 k2 k3
        have HZ:=zc (an.out.trans (zhY (fun e=>zp C (zav E.2 e)) hx q'))
        clear H V hx
        obtain⟨j1,M⟩: ∃j1,j1=j+1:=⟨_,rfl⟩
        have ej:(j:Int)+1=(j1:Int):=by omega
        rw[←M] at HZ
        have ae:=I.out.lt
        have HJ:=zc M
        clear M
        go_wp2_with fail
        refine (zfs C K A z D S' q' (zav E.2 x) _ (I.out.alloc _) ap).mono ?_
        cases hn:zp C (zav E.2 x) q' with
        |error p=>
         rintro e wy ⟨rfl,O⟩
         have HB:Hid (Below z w wy):=(HH.out.back (J.out.alloc _)).trans O
         have HX:Hid (zaB C l q= .error p):=by show _=_;rw[HZ.out,hn];exact zgF _ _ _
         unfold Pan
         go_wp2
         refine⟨rfl,?_⟩
         rw[HX.out]
         exact⟨rfl,HB.out⟩
        |ok ay=>
         rintro e wy ⟨rfl,Sy,m,s⟩
         have aP:=zc m
         have aC:Hid (IS D S w Sy wy):=(J.out.alloc _).trans s
         have aM:Hid (Fr 82 4 wy b0 r l.length (l.flatMap fun e=>epL (zav E.2 e)) Sy):=(L.out.later ((Below.refl _ _).alloc (Nat.le_refl _) _)).step (I.out.alloc _) (by decide) s
         have aJ:Hid (zaB C l q=zX (fun e=>zp C (zav E.2 e)) (l.drop j1) (.ok ay)):=by show _=_;rw[HZ.out,hn]
         have aO:Hid (0<ay.pos):=by show 0<ay.pos;rw[zlz hn];exact ap
         clear m s
         go_wp2
         go_roundg (gk-1)
         case rel=>exact⟨j1,Sy,ay,rfl,by have:=HJ.out;omega,aJ.out,aO.out,aP.out,aC.out,aM.out⟩
         case measure=>omega
       ·have Y: ¬(j:Int)<(l.length:Int):=by omega
        have HZ:Hid (zaB C l q= .ok q'):=by show _=_;rw[an.out,List.drop_eq_nil_of_le (by omega)];rfl
        go_wp2
        go_end0
        rw[HZ.out]
        exact⟨rfl,S',I.out,J.out⟩
theorem zsZ (C:Cx) (H A z D b0:Nat) (r:Rw) (S E:Sv) (K q:PS) (l:List Ep) (w wc:World) (V:IM C H A z D S K w) (h:IM C H A z D E q wc) (O:IS D S w E wc) (Z:zbm C) (L:l.length≤4000) (X:l.length≠0) (J:Fr 82 4 wc b0 r l.length (l.flatMap (fun e=>epL (zD e))) E) (M:w.heap.size≤b0):
  Calls Tryz.prog 199 #[.pointer (some ⟨D,0,none⟩),.slice r.a l.length r.cap] wc (zT C H A z D (zaB C l q) id (fun _=>.tuple #[]) S w):=by
 rcases J.1.nil_or with ⟨_,_,e⟩|⟨g,I⟩
 ·exact absurd e X
 ·have N:w.heap.size≤g:=Nat.le_trans M (J.1.typed (show r.blk=some g by rw[Rw.blk,I];rfl)).1
  rw[I]
  cases U:isT C q.pos 1 zV with
  |true=>exact zsY C H A z D b0 g r S E K q l w wc V h O Z L J I N U
  |false=>
   cases Y:zaE l with
   |true=>exact zsX C H A z D b0 g r S E K q l w wc V h O L J I U Y
   |false=>exact zsW C H A z D b0 g r S E K q l w wc V h O L J I U Y
theorem zta {C:Cx} {k:Int} {n:ByteArray} {q b:PS} (h:zY C k n q= .ok b):b={q with st:=q.st++[⟨k,n,(q.ex.length:Int)-1⟩]}:=by
 unfold zY at h
 split at h
 ·cases h
 ·cases h
  rfl
theorem zia {C:Cx} {k:Int} {n s:ByteArray} {q b:PS} (h:stmtI C k n s q= .ok b) (I:0<s.size):(∃l e,b.st=l++[⟨k,n,e⟩])∧0<b.pos:=by
 obtain⟨a,H,z⟩:=zm h
 obtain⟨c,w,D⟩:=zm z
 have E:=zjn _ w
 have A:=zta D
 subst A
 refine⟨⟨_,_,rfl⟩,?_⟩
 rw[E]
 show 0<a.pos+s.size
 omega
theorem ztb {C:Cx} {k:Int} {q b:PS} (h:letJ C k q= .ok b):(∃l e,b.st=l++[⟨k,(ze C q.pos).text,e⟩])∧0<b.pos:=by
 obtain⟨a,w,z⟩:=zm h
 obtain⟨c,D,A⟩:=zm z
 have:=zia A (by decide)
 rw[(zby w).1] at this
 exact this
theorem ztc {C:Cx} {q b:PS} (h:fnI C q= .ok b):(∃l e,b.st=l++[⟨2,(ze C q.pos).text,e⟩])∧0<b.pos:=by
 obtain⟨a,w,z⟩:=zm h
 obtain⟨c,E,A⟩:=zm z
 obtain⟨d,H,D⟩:=zm A
 have:=zia D (by decide)
 rw[(zby w).1] at this
 exact this
theorem zl6 (C:Cx) (H A z D:Nat) (S:Sv) (q:PS) (l:List Sm) (k e:Int) (n:ByteArray) (w:World) (h:IM C H A z D S q w) (J:q.st=l++[⟨k,n,e⟩]) (E:n.size≤281474976710656) (I:0<q.pos):
  Calls Tryz.prog 202 #[.pointer (some ⟨D,0,none⟩)] w (zT C H A z D (zp C ⟨1,n,n,sNone⟩ q) id (fun _=>.tuple #[]) S w):=znW C H A z D S q l ⟨k,n,e⟩ w h J E I
def zax (C:Cx) (q:PS):PR:=
 if isT C q.pos 4 zM then bd (za3 C true (adv q) []) fun a=>zaB C a.2 a.1
 else if isT C q.pos 4 zy then bd (zd C 1 zV (adv q)) fun a=>bd (zL C a) fun b=>bd (zd C 4 cSemi b.1) fun c=>zp C ⟨3,sNone,sNone,b.2⟩ c
 else if isT C q.pos 1 sDefault then bd (stmtI C 1 zci cSemi (adv q)) fun a=>zp C ⟨1,sDefault,zci,sNone⟩ a
 else if isT C q.pos 1 zF then bd (letJ C 1 (adv q)) fun a=>zp C ⟨1,(ze C (q.pos+1)).text,(ze C (q.pos+1)).text,sNone⟩ a
 else if isT C q.pos 1 zU then bd (fnI C (adv q)) fun a=>zp C ⟨1,(ze C (q.pos+1)).text,(ze C (q.pos+1)).text,sNone⟩ a
 else .error (zs C q.pos)
theorem ztd (C:Cx) (L A z E:Nat) (S:Sv) (q:PS) (w:World) (h:IM C L A z E S q w) (hC:zbm C) (h1:isT C q.pos 4 zM=true):
  Calls Tryz.prog 182 #[.pointer (some ⟨E,0,none⟩)] w (zT C L A z E (zax C q) id (fun _=>.tuple #[]) S w):=by
 have X:=zc h
 have HY:Hid (zax C q=bd (za3 C true (adv q) []) fun a=>zaB C a.2 a.1):=by show _=_;rw[zax,h1];rfl
 clear h
 go_enter Tryz.func182,Tryz.ntmps182
 go_wp2_with fail
 refine (zN C L A z E S q 4 zM _ X.out (by decide)).mono ?_
 rintro e w1 ⟨rfl,m,s⟩
 rw[h1] at m ⊢
 have V:=zc m
 have D:=zc s
 clear m s
 go_wp2_with fail
 refine (zsP C L A z E S (adv q) _ V.out).mono ?_
 cases I:za3 C true (adv q) [] with
 |error p=>
  rintro e Z ⟨rfl,O⟩
  have U:Hid (Below z w Z):=(X.out.back D.out).trans O
  have J:Hid (zax C q= .error p):=bdE HY.out I
  unfold Pan
  go_wp2
  refine⟨rfl,?_⟩
  rw[J.out]
  exact⟨rfl,U.out⟩
 |ok M=>
  rintro e Z ⟨r,S3,rfl,m,s,f,l0,l1⟩
  have aa:=zc m
  have ab:Hid (IS E S w S3 Z):=D.out.trans s
  have N:=zc f
  clear m s f
  have H:=zc (bdO HY.out I)
  go_wp2_with fail
  refine (zsZ C L A z E _ r S S3 q M.1 M.2 w _ X.out aa.out ab.out hC l1 (by omega) N.out D.out.size).mono ?_
  cases K:zaB C M.2 M.1 with
  |error p=>
   rintro e w4 ⟨rfl,O⟩
   have U:=zc O
   have J:=zc (H.out.trans K)
   unfold Pan
   go_wp2
   refine⟨rfl,?_⟩
   rw[J.out]
   exact⟨rfl,U.out⟩
  |ok a4=>
   rintro e w4 ⟨rfl,S4,m,s⟩
   have ac:=zc m
   have Y:=zc s
   clear m s
   have J:=zc (H.out.trans K)
   go_wp2
   go_end0
   rw[J.out]
   exact⟨rfl,S4,ac.out,Y.out⟩
theorem zte (C:Cx) (E A z D:Nat) (S:Sv) (q:PS) (w:World) (h:IM C E A z D S q w) (hC:zbm C) (h1:isT C q.pos 4 zM=false) (h2:isT C q.pos 4 zy=true):
  Calls Tryz.prog 182 #[.pointer (some ⟨D,0,none⟩)] w (zT C E A z D (zax C q) id (fun _=>.tuple #[]) S w):=by
 have O:=zc h
 have HY:Hid (zax C q=bd (zd C 1 zV (adv q)) fun a=>bd (zL C a) fun b=>bd (zd C 4 cSemi b.1) fun c=>zp C ⟨3,sNone,sNone,b.2⟩ c):=by show _=_;rw[zax,h1,h2];rfl
 clear h
 go_enter Tryz.func182,Tryz.ntmps182
 go_wp2_with fail
 refine (zN C E A z D S q 4 zM _ O.out (by decide)).mono ?_
 rintro e w1 ⟨rfl,m,s⟩
 rw[h1] at m ⊢
 have ae:=zc m
 have ad:=zc s
 clear m s
 go_wp2_with fail
 refine (zN C E A z D S q 4 zy _ ae.out (by decide)).mono ?_
 rintro e w2 ⟨rfl,m,s⟩
 rw[h2] at m ⊢
 have aj:=zc m
 have Z:Hid (IS D S w S w2):=ad.out.trans s
 clear m s
 go_wp2_with fail
 refine (zeD C E A z D S (adv q) zV _ aj.out).mono ?_
 cases X:zd C 1 zV (adv q) with
 |error p=>
  rintro e w3 ⟨rfl,H⟩
  have I:Hid (Below z w w3):=(O.out.back Z.out).trans H
  have K:Hid (zax C q= .error p):=bdE HY.out X
  unfold Pan
  go_wp2
  refine⟨rfl,?_⟩
  rw[K.out]
  exact⟨rfl,I.out⟩
 |ok a3=>
  rintro e w3 ⟨rfl,S3,m,s⟩
  have ah:=zc m
  have ab:Hid (IS D S w S3 w3):=Z.out.trans s
  clear m s
  have N:=zc (bdO HY.out X)
  go_wp2_with fail
  refine (zgh C E A z D S3 a3 _ ah.out hC).mono ?_
  cases aa:zL C a3 with
  |error p=>
   rintro e w4 ⟨rfl,H⟩
   have I:Hid (Below z w w4):=(O.out.back ab.out).trans H
   have K:Hid (zax C q= .error p):=bdE N.out aa
   unfold Pan
   go_wp2
   refine⟨rfl,?_⟩
   rw[K.out]
   exact⟨rfl,I.out⟩
  |ok a4=>
   rintro e w4 ⟨rfl,S4,m,s⟩
   have al:=zc m
   have U:Hid (IS D S w S4 w4):=ab.out.trans s
   clear m s
   have Y:=zc (bdO N.out aa)
   go_wp2_with fail
   refine (zcz C E A z D S4 a4.1 59 _ al.out).mono ?_
   cases J:zd C 4 cSemi a4.1 with
   |error p=>
    rintro e w5 ⟨rfl,H⟩
    have I:Hid (Below z w w5):=(O.out.back U.out).trans H
    have K:Hid (zax C q= .error p):=bdE Y.out J
    unfold Pan
    go_wp2
    refine⟨rfl,?_⟩
    rw[K.out]
    exact⟨rfl,I.out⟩
   |ok a5=>
    rintro e w5 ⟨rfl,S5,m,s⟩
    have af:=zc m
    have L:Hid (IS D S w S5 w5):=U.out.trans s
    clear m s
    have ac:=zc (bdO Y.out J)
    have M:0<a5.pos:=by rw[(zbO J).1];exact Nat.succ_pos _
    go_wp2_with fail
    refine (zfs C E A z D S5 a5 ⟨3,sNone,sNone,a4.2⟩ _ af.out M).mono ?_
    cases V:zp C ⟨3,sNone,sNone,a4.2⟩ a5 with
    |error p=>
     rintro e w6 ⟨rfl,H⟩
     have I:Hid (Below z w w6):=(O.out.back L.out).trans H
     have K:Hid (zax C q= .error p):=ac.out.trans V
     unfold Pan
     go_wp2
     refine⟨rfl,?_⟩
     rw[K.out]
     exact⟨rfl,I.out⟩
    |ok a6=>
     rintro e w6 ⟨rfl,S6,m,s⟩
     have ak:=zc m
     have ag:Hid (IS D S w S6 w6):=L.out.trans s
     clear m s
     have ai:=zc (ac.out.trans V)
     go_wp2
     go_end0
     rw[ai.out]
     exact⟨rfl,S6,ak.out,ag.out⟩
theorem ztf (C:Cx) (H A z D:Nat) (S:Sv) (q:PS) (w:World) (h:IM C H A z D S q w) (h1:isT C q.pos 4 zM=false) (h2:isT C q.pos 4 zy=false) (h3:isT C q.pos 1 sDefault=true):
  Calls Tryz.prog 182 #[.pointer (some ⟨D,0,none⟩)] w (zT C H A z D (zax C q) id (fun _=>.tuple #[]) S w):=by
 have Y:=zc h
 have HY:Hid (zax C q=bd (stmtI C 1 zci cSemi (adv q)) fun a=>zp C ⟨1,sDefault,zci,sNone⟩ a):=by show _=_;rw[zax,h1,h2,h3];rfl
 clear h
 go_enter Tryz.func182,Tryz.ntmps182
 go_wp2_with fail
 refine (zN C H A z D S q 4 zM _ Y.out (by decide)).mono ?_
 rintro e w1 ⟨rfl,m,s⟩
 rw[h1] at m ⊢
 have X:=zc m
 have N:=zc s
 clear m s
 go_wp2_with fail
 refine (zN C H A z D S q 4 zy _ X.out (by decide)).mono ?_
 rintro e w2 ⟨rfl,m,s⟩
 rw[h2] at m ⊢
 have ad:=zc m
 have aa:Hid (IS D S w S w2):=N.out.trans s
 clear m s
 go_wp2_with fail
 refine (zN C H A z D S q 1 sDefault _ ad.out (by decide)).mono ?_
 rintro e w3 ⟨rfl,m,s⟩
 rw[h3] at m ⊢
 have ab:=zc m
 have M:Hid (IS D S w S w3):=aa.out.trans s
 clear m s
 go_wp2_with fail
 refine (zec C H A z D S (adv q) 1 zci cSemi _ ab.out (by decide) (by decide)).mono ?_
 cases E:stmtI C 1 zci cSemi (adv q) with
 |error p=>
  rintro e w4 ⟨rfl,O⟩
  have U:Hid (Below z w w4):=(Y.out.back M.out).trans O
  have HX:Hid (zax C q= .error p):=bdE HY.out E
  unfold Pan
  go_wp2
  refine⟨rfl,?_⟩
  rw[HX.out]
  exact⟨rfl,U.out⟩
 |ok a4=>
  rintro e w4 ⟨rfl,S4,m,s⟩
  have ae:=zc m
  have J:Hid (IS D S w S4 w4):=M.out.trans s
  clear m s
  have K:=zc (bdO HY.out E)
  have I:=(zia E (by decide)).2
  go_wp2_with fail
  refine (zfs C H A z D S4 a4 ⟨1,sDefault,zci,sNone⟩ _ ae.out I).mono ?_
  cases L:zp C ⟨1,sDefault,zci,sNone⟩ a4 with
  |error p=>
   rintro e w5 ⟨rfl,O⟩
   have U:Hid (Below z w w5):=(Y.out.back J.out).trans O
   have HX:Hid (zax C q= .error p):=K.out.trans L
   unfold Pan
   go_wp2
   refine⟨rfl,?_⟩
   rw[HX.out]
   exact⟨rfl,U.out⟩
  |ok a5=>
   rintro e w5 ⟨rfl,S5,m,s⟩
   have Z:=zc m
   have V:Hid (IS D S w S5 w5):=J.out.trans s
   clear m s
   have ac:=zc (K.out.trans L)
   go_wp2
   go_end0
   rw[ac.out]
   exact⟨rfl,S5,Z.out,V.out⟩
theorem ztg (C:Cx) (E A z D:Nat) (S:Sv) (q:PS) (w:World) (h:IM C E A z D S q w) (hC:zbm C) (h1:isT C q.pos 4 zM=false) (h2:isT C q.pos 4 zy=false) (h3:isT C q.pos 1 sDefault=false) (h4:isT C q.pos 1 zF=true):
  Calls Tryz.prog 182 #[.pointer (some ⟨D,0,none⟩)] w (zT C E A z D (zax C q) id (fun _=>.tuple #[]) S w):=by
 have Y:=zc h
 have HY:Hid (zax C q=bd (letJ C 1 (adv q)) fun a=>zp C ⟨1,(ze C (q.pos+1)).text,(ze C (q.pos+1)).text,sNone⟩ a):=by show _=_;rw[zax,h1,h2,h3,h4];rfl
 clear h
 go_enter Tryz.func182,Tryz.ntmps182
 go_wp2_with fail
 refine (zN C E A z D S q 4 zM _ Y.out (by decide)).mono ?_
 rintro e w1 ⟨rfl,m,s⟩
 rw[h1] at m ⊢
 have X:=zc m
 have O:=zc s
 clear m s
 go_wp2_with fail
 refine (zN C E A z D S q 4 zy _ X.out (by decide)).mono ?_
 rintro e w2 ⟨rfl,m,s⟩
 rw[h2] at m ⊢
 have af:=zc m
 have aa:Hid (IS D S w S w2):=O.out.trans s
 clear m s
 go_wp2_with fail
 refine (zN C E A z D S q 1 sDefault _ af.out (by decide)).mono ?_
 rintro e w3 ⟨rfl,m,s⟩
 rw[h3] at m ⊢
 have ac:=zc m
 have ad:Hid (IS D S w S w3):=aa.out.trans s
 clear m s
 go_wp2_with fail
 refine (zN C E A z D S q 1 zF _ ac.out (by decide)).mono ?_
 rintro e w4 ⟨rfl,m,s⟩
 rw[h4] at m ⊢
 have ai:=zc m
 have L:Hid (IS D S w S w4):=ad.out.trans s
 clear m s
 go_wp2_with fail
 refine (zhr C E A z D S (adv q) _ ai.out).mono ?_
 cases H:letJ C 1 (adv q) with
 |error p=>
  rintro e w5 ⟨rfl,U⟩
  have V:Hid (Below z w w5):=(Y.out.back L.out).trans U
  have HX:Hid (zax C q= .error p):=bdE HY.out H
  unfold Pan
  go_wp2
  refine⟨rfl,?_⟩
  rw[HX.out]
  exact⟨rfl,V.out⟩
 |ok a5=>
  rintro e w5 ⟨rfl,S5,m,s⟩
  have Z:=zc m
  have J:Hid (IS D S w S5 w5):=L.out.trans s
  clear m s
  have N:=zc (bdO HY.out H)
  obtain⟨⟨l,e,I⟩,K⟩:=ztb H
  have ah:=zc I
  clear I
  go_wp2_with fail
  refine (zl6 C E A z D S5 a5 l _ _ (ze C (q.pos+1)).text _ Z.out ah.out (hC _) K).mono ?_
  cases M:zp C ⟨1,(ze C (q.pos+1)).text,(ze C (q.pos+1)).text,sNone⟩ a5 with
  |error p=>
   rintro e w6 ⟨rfl,U⟩
   have V:Hid (Below z w w6):=(Y.out.back J.out).trans U
   have HX:Hid (zax C q= .error p):=N.out.trans M
   unfold Pan
   go_wp2
   refine⟨rfl,?_⟩
   rw[HX.out]
   exact⟨rfl,V.out⟩
  |ok a6=>
   rintro e w6 ⟨rfl,S6,m,s⟩
   have ag:=zc m
   have ab:Hid (IS D S w S6 w6):=J.out.trans s
   clear m s
   have ae:=zc (N.out.trans M)
   go_wp2
   go_end0
   rw[ae.out]
   exact⟨rfl,S6,ag.out,ab.out⟩
theorem zth (C:Cx) (E A z D:Nat) (S:Sv) (q:PS) (w:World) (h:IM C E A z D S q w) (hC:zbm C) (h1:isT C q.pos 4 zM=false) (h2:isT C q.pos 4 zy=false) (h3:isT C q.pos 1 sDefault=false) (h4:isT C q.pos 1 zF=false) (h5:isT C q.pos 1 zU=true):
  Calls Tryz.prog 182 #[.pointer (some ⟨D,0,none⟩)] w (zT C E A z D (zax C q) id (fun _=>.tuple #[]) S w):=by
 have Z:=zc h
 have HY:Hid (zax C q=bd (fnI C (adv q)) fun a=>zp C ⟨1,(ze C (q.pos+1)).text,(ze C (q.pos+1)).text,sNone⟩ a):=by show _=_;rw[zax,h1,h2,h3,h4,h5];rfl
 clear h
 go_enter Tryz.func182,Tryz.ntmps182
 go_wp2_with fail
 refine (zN C E A z D S q 4 zM _ Z.out (by decide)).mono ?_
 rintro e w1 ⟨rfl,m,s⟩
 rw[h1] at m ⊢
 have X:=zc m
 have O:=zc s
 clear m s
 go_wp2_with fail
 refine (zN C E A z D S q 4 zy _ X.out (by decide)).mono ?_
 rintro e w2 ⟨rfl,m,s⟩
 rw[h2] at m ⊢
 have ai:=zc m
 have ae:Hid (IS D S w S w2):=O.out.trans s
 clear m s
 go_wp2_with fail
 refine (zN C E A z D S q 1 sDefault _ ai.out (by decide)).mono ?_
 rintro e w3 ⟨rfl,m,s⟩
 rw[h3] at m ⊢
 have ag:=zc m
 have ah:Hid (IS D S w S w3):=ae.out.trans s
 clear m s
 go_wp2_with fail
 refine (zN C E A z D S q 1 zF _ ag.out (by decide)).mono ?_
 rintro e w4 ⟨rfl,m,s⟩
 rw[h4] at m ⊢
 have al:=zc m
 have ab:Hid (IS D S w S w4):=ah.out.trans s
 clear m s
 go_wp2_with fail
 refine (zN C E A z D S q 1 zU _ al.out (by decide)).mono ?_
 rintro e w5 ⟨rfl,m,s⟩
 rw[h5] at m ⊢
 have aa:=zc m
 have K:Hid (IS D S w S w5):=ab.out.trans s
 clear m s
 go_wp2_with fail
 refine (zhs C E A z D S (adv q) _ aa.out).mono ?_
 cases H:fnI C (adv q) with
 |error p=>
  rintro e w6 ⟨rfl,U⟩
  have V:Hid (Below z w w6):=(Z.out.back K.out).trans U
  have HX:Hid (zax C q= .error p):=bdE HY.out H
  unfold Pan
  go_wp2
  refine⟨rfl,?_⟩
  rw[HX.out]
  exact⟨rfl,V.out⟩
 |ok a6=>
  rintro e w6 ⟨rfl,S6,m,s⟩
  have aj:=zc m
  have M:Hid (IS D S w S6 w6):=K.out.trans s
  clear m s
  have N:=zc (bdO HY.out H)
  obtain⟨⟨l,e,I⟩,L⟩:=ztc H
  have ak:=zc I
  clear I
  go_wp2_with fail
  refine (zl6 C E A z D S6 a6 l _ _ (ze C (q.pos+1)).text _ aj.out ak.out (hC _) L).mono ?_
  cases J:zp C ⟨1,(ze C (q.pos+1)).text,(ze C (q.pos+1)).text,sNone⟩ a6 with
  |error p=>
   rintro e Y ⟨rfl,U⟩
   have V:Hid (Below z w Y):=(Z.out.back M.out).trans U
   have HX:Hid (zax C q= .error p):=N.out.trans J
   unfold Pan
   go_wp2
   refine⟨rfl,?_⟩
   rw[HX.out]
   exact⟨rfl,V.out⟩
  |ok a7=>
   rintro e Y ⟨rfl,S7,m,s⟩
   have ad:=zc m
   have ac:Hid (IS D S w S7 Y):=M.out.trans s
   clear m s
   have af:=zc (N.out.trans J)
   go_wp2
   go_end0
   rw[af.out]
   exact⟨rfl,S7,ad.out,ac.out⟩
theorem zti (C:Cx) (E A z D:Nat) (S:Sv) (q:PS) (w:World) (h:IM C E A z D S q w) (h1:isT C q.pos 4 zM=false) (Z:isT C q.pos 4 zy=false) (h3:isT C q.pos 1 sDefault=false) (h4:isT C q.pos 1 zF=false) (X:isT C q.pos 1 zU=false):
  Calls Tryz.prog 182 #[.pointer (some ⟨D,0,none⟩)] w (zT C E A z D (zax C q) id (fun _=>.tuple #[]) S w):=by
 have Y:=zc h
 have HY:Hid (zax C q= .error (zs C q.pos)):=by show _=_;rw[zax,h1,Z,h3,h4,X];rfl
 clear h
 go_enter Tryz.func182,Tryz.ntmps182
 go_wp2_with fail
 refine (zN C E A z D S q 4 zM _ Y.out (by decide)).mono ?_
 rintro e w1 ⟨rfl,m,s⟩
 rw[h1] at m ⊢
 have K:=zc m
 have I:=zc s
 clear m s
 go_wp2_with fail
 refine (zN C E A z D S q 4 zy _ K.out (by decide)).mono ?_
 rintro e w2 ⟨rfl,m,s⟩
 rw[Z] at m ⊢
 have U:=zc m
 have M:Hid (IS D S w S w2):=I.out.trans s
 clear m s
 go_wp2_with fail
 refine (zN C E A z D S q 1 sDefault _ U.out (by decide)).mono ?_
 rintro e w3 ⟨rfl,m,s⟩
 rw[h3] at m ⊢
 have N:=zc m
 have O:Hid (IS D S w S w3):=M.out.trans s
 clear m s
 go_wp2_with fail
 refine (zN C E A z D S q 1 zF _ N.out (by decide)).mono ?_
 rintro e w4 ⟨rfl,m,s⟩
 rw[h4] at m ⊢
 have V:=zc m
 have L:Hid (IS D S w S w4):=O.out.trans s
 clear m s
 go_wp2_with fail
 refine (zN C E A z D S q 1 zU _ V.out (by decide)).mono ?_
 rintro e w5 ⟨rfl,m,s⟩
 rw[X] at m ⊢
 have H:=zc m
 have J:Hid (IS D S w S w5):=L.out.trans s
 clear m s
 go_wp2_with fail
 refine (zeC C E A z D S q _ H.out).mono ?_
 rintro e wz ⟨rfl,hb⟩
 have HB:Hid (Below z w wz):=(Y.out.back J.out).trans (hb.mono H.out.mem.base)
 have HX:Hid (zax C q= .error (zs C q.pos)):=HY.out
 unfold Pan
 go_wp2
 refine⟨rfl,?_⟩
 rw[HX.out]
 exact⟨rfl,HB.out⟩
theorem ztj (C:Cx) (E A z D:Nat) (S:Sv) (q:PS) (w:World) (h:IM C E A z D S q w) (K:zbm C):
  Calls Tryz.prog 182 #[.pointer (some ⟨D,0,none⟩)] w (zT C E A z D (zax C q) id (fun _=>.tuple #[]) S w):=by
 cases H:isT C q.pos 4 zM with
 |true=>exact ztd C E A z D S q w h K H
 |false=>
  cases I:isT C q.pos 4 zy with
  |true=>exact zte C E A z D S q w h K H I
  |false=>
   cases J:isT C q.pos 1 sDefault with
   |true=>exact ztf C E A z D S q w h H I J
   |false=>
    cases L:isT C q.pos 1 zF with
    |true=>exact ztg C E A z D S q w h K H I J L
    |false=>
     cases M:isT C q.pos 1 zU with
     |true=>exact zth C E A z D S q w h K H I J L M
     |false=>exact zti C E A z D S q w h H I J L M
end Go.Proofs.YtcidlffeeninbaaGreat
