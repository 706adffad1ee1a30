/-
  What ContainsFunc over Exps answers,and a row of Exps whose elements are written: the walks.
  What exportNames of impl's parser answers: the walks. (It writes into the row that it is handed: so what is told is told from a world on in which that row was not yet there.)
  What exportItem of impl's parser answers: the walks.
-/
import Derived.Laws.OwnMore
import Derived.Test.YthfeoomfiafldaaGreatCdImplParseU
namespace Go.Proofs.YthfeoomfiafldaaGreat
set_option maxRecDepth 100000
set_option maxHeartbeats 3200000
open Go.RowKit Go.PlainAid Go.Sort
theorem zlW {α:Type} (f:α→List Value) (m:Nat) (o: ∀x,(f x).length=m): ∀(l:List α) (j i:Nat) (x y:α) (v:Value),l[j]? =some x→i<m→f y=(f x).set i v→(l.flatMap f).set (j*m+i) v=(l.set j y).flatMap f:=by
 intro l
 induction l with
 |nil=>intro j i x y v h;simp at h
 |cons z l H=>
  intro j i x y v h D E
  match j with
  |0=>
   simp only[List.getElem?_cons_zero,Option.some.injEq] at h
   subst h
   rw[List.flatMap_cons,Nat.zero_mul,Nat.zero_add,List.set_append_left _ _ (by rw[o];exact D),List.set_cons_zero,List.flatMap_cons,E]
  |j+1=>
   simp only[List.getElem?_cons_succ] at h
   rw[List.flatMap_cons,List.set_append_right _ _ (by rw[o,Nat.succ_mul];omega),o,List.set_cons_succ,List.flatMap_cons,←H j i x y v h D E]
   congr 2
   rw[Nat.succ_mul]
   omega
def mxE (s:ByteArray) (l:List Ep) (j:Nat):List Ep:=(l.take j).map (zaj s)++(l.drop j).map zD
theorem zlX (s:ByteArray) (l:List Ep) (j:Nat):(mxE s l j).length=l.length:=by simp[mxE];omega
theorem zlY {s:ByteArray} {l:List Ep} {j:Nat} {x:Ep} (h:l[j]? =some x):(mxE s l j)[j]? =some (zD x):=by
 obtain⟨z,rfl⟩:=List.getElem?_eq_some_iff.1 h
 have o:((l.take j).map (zaj s)).length=j:=by simp;omega
 rw[mxE,List.getElem?_append_right (by omega),o,Nat.sub_self,List.drop_eq_getElem_cons z]
 rfl
theorem zsQ {s:ByteArray} {l:List Ep} {j:Nat} {x:Ep} (h:l[j]? =some x):(mxE s l j).set j (zaj s x)=mxE s l (j+1):=by
 obtain⟨o,rfl⟩:=List.getElem?_eq_some_iff.1 h
 have z:((l.take j).map (zaj s)).length=j:=by simp;omega
 rw[mxE,List.set_append_right _ _ (by omega),z,Nat.sub_self,List.drop_eq_getElem_cons o,List.map_cons,List.set_cons_zero,mxE,List.take_succ_eq_append_getElem o,List.map_append,List.append_assoc]
 rfl
theorem zsR (s:ByteArray) (l:List Ep):mxE s l 0=l.map zD:=by simp[mxE]
theorem zsS (s:ByteArray) (l:List Ep):mxE s l l.length=l.map (zaj s):=by simp[mxE]
theorem zsT (x:Ep) (w:World):
  Calls Tryz.prog 139 #[epV x] w fun e j=>e= .returned (.bool (x.loc.toList==[100,101,102,97,117,108,116]))∧Below w.heap.size w j:=by
 unfold epV
 cases o:(x.loc.toList==[100,101,102,97,117,108,116]) with
 |true=>
  go_enter Tryz.func139,Tryz.ntmps139
  go_wp2
  go_ret
  exact⟨rfl,(Below.refl _ _).alloc (Nat.le_refl _) _⟩
 |false=>
  go_enter Tryz.func139,Tryz.ntmps139
  go_wp2
  go_ret
  exact⟨rfl,(Below.refl _ _).alloc (Nat.le_refl _) _⟩
theorem zsU {l:List Ep} {j:Nat} {x:Ep} (h:l[j]? =some x):za2 (l.drop j)=((x.loc.toList==[100,101,102,97,117,108,116])||za2 (l.drop (j+1))):=by
 obtain⟨o,rfl⟩:=List.getElem?_eq_some_iff.1 h
 rw[List.drop_eq_getElem_cons o]
 simp only[za2,List.any_cons]
theorem zsV (I g:Nat) (r:Rw) (l:List Ep) (w:World) (h:OwnR w I 77 4 r l.length (l.flatMap fun e=>epL (zD e))) (hl:l.length≤4000) (V:r.a=some ⟨g,0,none⟩):
  Calls Tryz.prog 147 #[.slice (some ⟨g,0,none⟩) l.length r.cap,.func (.func 139) #[] #[]] w fun e w'=>(∃v:Int,e= .returned (.int .i64 v)∧decide (0≤v)=za2 l)∧Below w.heap.size w w':=by
 have HO:=zc h
 have O:=zc V
 clear h V
 go_enter Tryz.func147,Tryz.ntmps147
 go_wp2
 go_loopg [8] (l.length+1) (fun k i wr=>∃j:Nat,i= .int .i64 j∧j+k=l.length+1∧za2 (l.drop j)=za2 l∧Below w.heap.size w wr)
 case atStart=>exact⟨0,rfl,by omega,by simp,Below.refl _ _⟩
 case round=>
  obtain⟨j,rfl,hj,X,hb⟩:=hrel
  have Q:=zc X
  have L:=zc hb
  clear X hb
  by_cases N:j<l.length
  ·have H:(j:Int)<(l.length:Int):=by omega
   obtain⟨x,M⟩:=zgd N
   have U:=zc (HO.out.keep fun k g=>L.out.block k (HO.out.typed g).2.1)
   obtain⟨g',z,o⟩:=OwnR.elem (f:=fun e=>epL (zD e)) (m:=4) (fun _=>rfl) U.out M
   have eg:g'=g:=by have:=z.symm.trans O.out;simpa using this
   subst eg
   have k0:=o 0 (by omega)
   have k1:=o 1 (by omega)
   have k2:=o 2 (by omega)
   have k3:=o 3 (by omega)
   simp only[epL,zD,Nat.add_zero,List.getElem?_cons_zero,List.getElem?_cons_succ] at k0 k1 k2 k3
   have HS:=zc (zsU M)
   clear o z M
   obtain⟨K,E⟩: ∃K,K=j+1:=⟨_,rfl⟩
   have ej:(j:Int)+1=(K:Int):=by omega
   have Z:=zc E
   clear E
   go_wp2_with fail
   refine (zsT (zD x) _).mono ?_
   rintro e w1 ⟨rfl,J⟩
   have D:Hid (Below w.heap.size w w1):=L.out.trans (J.mono L.out.size)
   clear J
   rw[show (zD x).loc=x.loc from rfl]
   cases Y:(x.loc.toList==[100,101,102,97,117,108,116]) with
   |true=>
    go_wp2
    go_ret
    refine⟨⟨_,rfl,?_⟩,D.out⟩
    rw[←Q.out,HS.out,Y]
    simp
   |false=>
    go_wp2
    go_roundg (gk-1)
    case rel=>
     refine⟨K,rfl,by have:=Z.out;omega,?_,D.out⟩
     rw[←Q.out,HS.out,Y,Z.out]
     simp
    case measure=>omega
  ·have H: ¬(j:Int)<(l.length:Int):=by omega
   go_wp2
   go_ret
   refine⟨⟨_,rfl,?_⟩,L.out⟩
   rw[←Q.out,List.drop_eq_nil_of_le (by omega)]
   rfl
theorem zlZ (j g:Nat) (r:Rw) (l:List Ep) (w:World) (h:OwnR w j 77 4 r l.length (l.flatMap fun e=>epL (zD e))) (K:l.length≤4000) (D:r.a=some ⟨g,0,none⟩):
  Calls Tryz.prog 140 #[.slice (some ⟨g,0,none⟩) l.length r.cap,.func (.func 139) #[] #[]] w fun e H=>e= .returned (.bool (za2 l))∧Below w.heap.size w H:=by
 have L:=zc h
 have o:=zc D
 clear h D
 go_enter Tryz.func140,Tryz.ntmps140
 go_wp2_with fail
 refine (zsV j g r l _ L.out K o.out).mono ?_
 rintro e M ⟨⟨v,rfl,z⟩,E⟩
 have J:=zc z
 have I:=zc E
 clear z E
 go_wp2
 go_ret
 exact⟨zq J.out,I.out⟩
def zaB (C:Cx) (l:List Ep) (q:PS):PR:=
 if isT C q.pos 1 zH||za2 l then bd (zd C 1 zH q) fun a=>bd (zy C a) fun b=>bd (zd C 4 cSemi b.1) fun c=>zK (fun e=>zm C (zaj b.2 e)) l (.ok c)
 else bd (zd C 4 cSemi q) fun c=>zK (fun e=>zm C (zD e)) l (.ok c)
theorem zma (X:Ep→Ep) (l:List Ep):(l.map X).flatMap epL=l.flatMap fun e=>epL (X e):=by rw[List.flatMap_map]
theorem zsW (C:Cx) (J z o D b0 g:Nat) (r:Rw) (S E:Sv) (q0 q:PS) (l:List Ep) (w wc:World) (hh:IM C J z o D S q0 w) (h:IM C J z o D E q wc) (h0:IS D S w E wc) (hl:l.length≤4000) (hf:Fr 77 4 wc b0 r l.length (l.flatMap (fun e=>epL (zD e))) E) (hg:r.a=some ⟨g,0,none⟩) (hi:isT C q.pos 1 zH=false) (ha:za2 l=false):
  Calls Tryz.prog 117 #[.pointer (some ⟨D,0,none⟩),.slice (some ⟨g,0,none⟩) l.length r.cap] wc (zT C J z o D (zaB C l q) id (fun _=>.tuple #[]) S w):=by
 have HH:=zc hh
 have HC:=zc h
 have H0:=zc h0
 have HF:=zc hf
 have HG:=zc hg
 have HY:Hid (zaB C l q=bd (zd C 4 cSemi q) fun c=>zK (fun e=>zm C (zD e)) l (.ok c)):=by show _=_;rw[zaB,hi,ha];rfl
 clear hh h h0 hf hg
 go_enter Tryz.func117,Tryz.ntmps117
 go_wp2_with fail
 refine (zco C J z o D E q 1 zH _ HC.out).mono ?_
 rintro e w1 ⟨rfl,H⟩
 rw[hi]
 have ah:Hid (IM C J z o D E q w1):=HC.out.later H
 have aj:Hid (IS D S w E w1):=(H0.out.trans (IS.below H))
 have ae:IS D E wc E w1:=IS.below H
 clear H
 have ag:Hid (Fr 77 4 w1 b0 r l.length (l.flatMap (fun e=>epL (zD e))) E):=HF.out.step HC.out (by decide) ae
 clear ae
 go_wp2_with fail
 refine (zlZ b0 g r l _ ag.out.1 hl HG.out).mono ?_
 rintro e w2 ⟨rfl,H⟩
 rw[ha]
 have ar:Hid (Fr 77 4 w2 b0 r l.length (l.flatMap (fun e=>epL (zD e))) E):=ag.out.later H
 have Z:Hid (IM C J z o D E q w2):=ah.out.later H
 have ab:Hid (IS D S w E w2):=(aj.out.trans (IS.below H))
 clear H
 go_wp2_with fail
 refine (zcw C J z o D E q 59 _ Z.out).mono ?_
 cases O:zd C 4 cSemi q with
 |error p=>
  rintro e w3 ⟨rfl,H⟩
  have HB:Hid (Below o w w3):=(HH.out.back ab.out).trans H
  have HX:Hid (zaB C l q= .error p):=bdE HY.out O
  unfold Pan
  go_wp2
  refine⟨rfl,?_⟩
  rw[HX.out]
  exact⟨rfl,HB.out⟩
 |ok a3=>
  rintro e w3 ⟨rfl,S3,m,s⟩
  have ao:Hid (Fr 77 4 w3 b0 r l.length (l.flatMap (fun e=>epL (zD e))) S3):=ar.out.step Z.out (by decide) s
  have an:=zc m
  have ak:Hid (IS D S w S3 w3):=ab.out.trans s
  clear m s
  have av:=zc (bdO HY.out O)
  have af:0<a3.pos:=by rw[(zbh O).1];exact Nat.succ_pos _
  go_wp2
  go_loopg [39] l.length (fun k i wr=>∃(j:Nat) (M:Sv) (K:PS),i= .int .i64 j∧j+k=l.length∧zaB C l q=zK (fun e=>zm C (zD e)) (l.drop j) (.ok K)∧0<K.pos∧IM C J z o D M K wr∧IS D S w M wr∧Fr 77 4 wr b0 r l.length (l.flatMap fun e=>epL (zD e)) M)
  case atStart=>exact⟨0,S3,a3,rfl,by omega,av.out,af,an.out,ak.out,ao.out⟩
  case round=>
   obtain⟨j,M,K,rfl,hj,hy,ad,m',s',f'⟩:=hrel
   have aa:=zc hy
   have L:Hid (IM C J z o D M K wr):=m'
   have Q:Hid (IS D S w M wr):=s'
   have ac:Hid (Fr 77 4 wr b0 r l.length (l.flatMap fun e=>epL (zD e)) M):=f'
   clear hy m' s' f'
   by_cases ai:j<l.length
   ·have Y:(j:Int)<(l.length:Int):=by omega
    obtain⟨x,hx⟩:=zgd ai
    obtain⟨g',V,I⟩:=OwnR.elem (f:=fun e=>epL (zD e)) (m:=4) (fun _=>rfl) ac.out.1 hx
    have eg:g'=g:=by have:=V.symm.trans HG.out;simpa using this
    subst eg
    have k0:=I 0 (by omega)
    have k1:=I 1 (by omega)
    have k2:=I 2 (by omega)
    have k3:=I 3 (by omega)
    simp only[epL,zD,Nat.add_zero,List.getElem?_cons_zero,List.getElem?_cons_succ] at k0 k1 k2 k3
    have U:=zc (aa.out.trans (ziR (fun e=>zm C (zD e)) hx K))
    clear I V hx
    obtain⟨X,N⟩: ∃X,X=j+1:=⟨_,rfl⟩
    have ej:(j:Int)+1=(X:Int):=by omega
    rw[←N] at U
    have aw:=L.out.lt
    have HJ:=zc N
    clear N
    go_wp2_with fail
    refine (zfF C J z o D M K (zD x) _ (L.out.alloc _) ad).mono ?_
    cases hn:zm C (zD x) K with
    |error p=>
     rintro e wy ⟨rfl,H⟩
     have HB:Hid (Below o w wy):=(HH.out.back (Q.out.alloc _)).trans H
     have HX:Hid (zaB C l q= .error p):=by show _=_;rw[U.out,hn];exact zhk _ _ _
     unfold Pan
     go_wp2
     refine⟨rfl,?_⟩
     rw[HX.out]
     exact⟨rfl,HB.out⟩
    |ok ay=>
     rintro e wy ⟨rfl,Sy,m,s⟩
     have ap:=zc m
     have am:Hid (IS D S w Sy wy):=(Q.out.alloc _).trans s
     have aq:Hid (Fr 77 4 wy b0 r l.length (l.flatMap fun e=>epL (zD e)) Sy):=(ac.out.later ((Below.refl _ _).alloc (Nat.le_refl _) _)).step (L.out.alloc _) (by decide) s
     have al:Hid (zaB C l q=zK (fun e=>zm C (zD e)) (l.drop X) (.ok ay)):=by show _=_;rw[U.out,hn]
     have au:Hid (0<ay.pos):=by show 0<ay.pos;rw[zlU hn];exact ad
     clear m s
     go_wp2
     go_roundg (gk-1)
     case rel=>exact⟨X,Sy,ay,rfl,by have:=HJ.out;omega,al.out,au.out,ap.out,am.out,aq.out⟩
     case measure=>omega
   ·have Y: ¬(j:Int)<(l.length:Int):=by omega
    have U:Hid (zaB C l q= .ok K):=by show _=_;rw[aa.out,List.drop_eq_nil_of_le (by omega)];rfl
    go_wp2
    go_end0
    rw[U.out]
    exact⟨rfl,M,L.out,Q.out⟩
theorem zsX (C:Cx) (H o j D b0 g:Nat) (r:Rw) (S z:Sv) (q0 q:PS) (l:List Ep) (w wc:World) (Y:IM C H o j D S q0 w) (h:IM C H o j D z q wc) (h0:IS D S w z wc) (hl:l.length≤4000) (Z:Fr 77 4 wc b0 r l.length (l.flatMap (fun e=>epL (zD e))) z) (X:r.a=some ⟨g,0,none⟩) (L:isT C q.pos 1 zH=false) (ha:za2 l=true):
  Calls Tryz.prog 117 #[.pointer (some ⟨D,0,none⟩),.slice (some ⟨g,0,none⟩) l.length r.cap] wc (zT C H o j D (zaB C l q) id (fun _=>.tuple #[]) S w):=by
 have HH:=zc Y
 have M:=zc h
 have H0:=zc h0
 have HF:=zc Z
 have HG:=zc X
 have HY:Hid (zaB C l q= .error (zu C q.pos)):=by show _=_;rw[zaB,L,ha,if_pos (by decide),zhL L];rfl
 clear Y h h0 Z X
 go_enter Tryz.func117,Tryz.ntmps117
 go_wp2_with fail
 refine (zco C H o j D z q 1 zH _ M.out).mono ?_
 rintro e K ⟨rfl,E⟩
 rw[L]
 have N:Hid (IM C H o j D z q K):=M.out.later E
 have V:Hid (IS D S w z K):=(H0.out.trans (IS.below E))
 have I:IS D z wc z K:=IS.below E
 clear E
 have J:Hid (Fr 77 4 K b0 r l.length (l.flatMap (fun e=>epL (zD e))) z):=HF.out.step M.out (by decide) I
 clear I
 go_wp2_with fail
 refine (zlZ b0 g r l _ J.out.1 hl HG.out).mono ?_
 rintro e Q ⟨rfl,E⟩
 rw[ha]
 have aa:Hid (Fr 77 4 Q b0 r l.length (l.flatMap (fun e=>epL (zD e))) z):=J.out.later E
 have U:Hid (IM C H o j D z q Q):=N.out.later E
 have O:Hid (IS D S w z Q):=(V.out.trans (IS.below E))
 clear E
 go_wp2_with fail
 refine (zeU C H o j D z q zH _ U.out).mono ?_
 rw[zhL L]
 rintro e w3 ⟨rfl,E⟩
 have HB:Hid (Below j w w3):=(HH.out.back O.out).trans E
 have HX:Hid (zaB C l q= .error (zu C q.pos)):=HY.out
 unfold Pan
 go_wp2
 refine⟨rfl,?_⟩
 rw[HX.out]
 exact⟨rfl,HB.out⟩
theorem zsY (C:Cx) (K z o D b0 g:Nat) (r:Rw) (S Y:Sv) (q0 q:PS) (l:List Ep) (w wc:World) (hh:IM C K z o D S q0 w) (h:IM C K z o D Y q wc) (h0:IS D S w Y wc) (hC:zb0 C) (hl:l.length≤4000) (hf:Fr 77 4 wc b0 r l.length (l.flatMap (fun e=>epL (zD e))) Y) (hg:r.a=some ⟨g,0,none⟩) (ak:w.heap.size≤g) (hi:isT C q.pos 1 zH=true):
  Calls Tryz.prog 117 #[.pointer (some ⟨D,0,none⟩),.slice (some ⟨g,0,none⟩) l.length r.cap] wc (zT C K z o D (zaB C l q) id (fun _=>.tuple #[]) S w):=by
 have HH:=zc hh
 have HC:=zc h
 have H0:=zc h0
 have HF:=zc hf
 have HG:=zc hg
 have ag:=zc ak
 have HY:Hid (zaB C l q=bd (zd C 1 zH q) fun a=>bd (zy C a) fun b=>bd (zd C 4 cSemi b.1) fun c=>zK (fun e=>zm C (zaj b.2 e)) l (.ok c)):=by show _=_;rw[zaB,hi];rfl
 clear hh h h0 hf hg ak
 go_enter Tryz.func117,Tryz.ntmps117
 go_wp2_with fail
 refine (zco C K z o D Y q 1 zH _ HC.out).mono ?_
 rintro e w1 ⟨rfl,O⟩
 rw[hi]
 have ah:Hid (IM C K z o D Y q w1):=HC.out.later O
 have aj:Hid (IS D S w Y w1):=(H0.out.trans (IS.below O))
 have ax:IS D Y wc Y w1:=IS.below O
 clear O
 have aP:Hid (Fr 77 4 w1 b0 r l.length (l.flatMap (fun e=>epL (zD e))) Y):=HF.out.step HC.out (by decide) ax
 clear ax
 go_wp2_with fail
 refine (zeU C K z o D Y q zH _ ah.out).mono ?_
 cases ai:zd C 1 zH q with
 |error p=>
  rintro e w2 ⟨rfl,O⟩
  have HB:Hid (Below o w w2):=(HH.out.back aj.out).trans O
  have HX:Hid (zaB C l q= .error p):=bdE HY.out ai
  unfold Pan
  go_wp2
  refine⟨rfl,?_⟩
  rw[HX.out]
  exact⟨rfl,HB.out⟩
 |ok a2=>
  rintro e w2 ⟨rfl,S2,m,s⟩
  have aN:Hid (Fr 77 4 w2 b0 r l.length (l.flatMap (fun e=>epL (zD e))) S2):=aP.out.step ah.out (by decide) s
  have ao:=zc m
  have ar:Hid (IS D S w S2 w2):=aj.out.trans s
  clear m s
  have an:=zc (bdO HY.out ai)
  go_wp2_with fail
  refine (zgA C K z o D S2 a2 _ ao.out hC).mono ?_
  cases aw:zy C a2 with
  |error p=>
   rintro e w3 ⟨rfl,O⟩
   have HB:Hid (Below o w w3):=(HH.out.back ar.out).trans O
   have HX:Hid (zaB C l q= .error p):=bdE an.out aw
   unfold Pan
   go_wp2
   refine⟨rfl,?_⟩
   rw[HX.out]
   exact⟨rfl,HB.out⟩
  |ok E=>
   rintro e w3 ⟨rfl,Q,m,s⟩
   have ab:Hid (Fr 77 4 w3 b0 r l.length (l.flatMap (fun e=>epL (zD e))) Q):=aN.out.step ao.out (by decide) s
   have ad:=zc m
   have aG:Hid (IS D S w Q w3):=ar.out.trans s
   clear m s
   have aA:=zc (bdO an.out aw)
   have af:Hid (Fr 77 4 w3 b0 r l.length ((mxE E.2 l 0).flatMap epL) Q):=by show Fr _ _ _ _ _ _ _ _;rw[zsR,zma];exact ab.out
   have ac:g≠D:=ab.out.ngp ad.out (by decide) (by rw[Rw.blk,HG.out];rfl)
   have am:g≠K:=ab.out.ngt ad.out (by decide) (by rw[Rw.blk,HG.out];rfl)
   have U:Hid (¬Q.has g):=ab.out.2 g (by rw[Rw.blk,HG.out];rfl)
   have ap:=zc ac
   have al:=zc am
   clear ac am
   go_wp2
   go_loopg [22] l.length (fun k i wr=>∃(j:Nat),i= .int .i64 j∧j+k=l.length∧IM C K z o D Q E.1 wr∧IS D S w Q wr∧Fr 77 4 wr b0 r l.length ((mxE E.2 l j).flatMap epL) Q)
   case atStart=>exact⟨0,rfl,by omega,ad.out,aG.out,af.out⟩
   case round=>
    obtain⟨j,rfl,hj,m',s',f'⟩:=hrel
    have I:Hid (IM C K z o D Q E.1 wr):=m'
    have J:Hid (IS D S w Q wr):=s'
    have N:Hid (Fr 77 4 wr b0 r l.length ((mxE E.2 l j).flatMap epL) Q):=f'
    clear m' s' f'
    by_cases aa:j<l.length
    ·have X:(j:Int)<(l.length:Int):=by omega
     obtain⟨x,hx⟩:=zgd aa
     have HX:=zc hx
     have M:=N.out.1
     have ho:OwnR wr b0 77 4 r (mxE E.2 l j).length ((mxE E.2 l j).flatMap epL):=by rw[zlX];exact M
     obtain⟨g',V,H⟩:=OwnR.elem (f:=epL) (m:=4) (fun _=>rfl) ho (zlY hx)
     have eg:g'=g:=by have:=V.symm.trans HG.out;simpa using this
     subst eg
     have k0:=H 0 (by omega)
     have k3:=H 3 (by omega)
     simp only[epL,zD,Nat.add_zero,List.getElem?_cons_zero,List.getElem?_cons_succ] at k0 k3
     unfold OwnR at M
     rw[HG.out] at M
     have aQ:=M.frozenAt
     have aD:=zc M
     clear H V hx M ho
     obtain⟨Z,L⟩: ∃Z,Z=j+1:=⟨_,rfl⟩
     have ej:(j:Int)+1=(Z:Int):=by omega
     have HJ:=zc L
     clear L
     go_wp2
     go_roundg (gk-1)
     case rel=>
      refine⟨Z,rfl,by have:=HJ.out;omega,(I.out.set ap.out al.out U.out _ _).set ap.out al.out U.out _ _,(J.out.new ag.out _ _).new ag.out _ _,?_,N.out.2⟩
      have aJ:=(aD.out.stored (j*4+0) (.int .i64 2)).1
      have au:=(aJ.stored (j*4+3) (.string E.2)).1
      rw[zlW epL 4 (fun _=>rfl) _ j 0 (zD x) ⟨2,x.name,x.loc,sNone⟩ (.int .i64 2) (zlY HX.out) (by omega) rfl,zlW epL 4 (fun _=>rfl) ((mxE E.2 l j).set j ⟨2,x.name,x.loc,sNone⟩) j 3 ⟨2,x.name,x.loc,sNone⟩ (zaj E.2 x) (.string E.2) (List.getElem?_set_self (by rw[zlX];exact aa)) (by omega) rfl,List.set_set,zsQ HX.out,←HJ.out] at au
      unfold OwnR
      rw[HG.out]
      exact au
     case measure=>omega
    ·have X: ¬(j:Int)<(l.length:Int):=by omega
     have aC:j=l.length:=by omega
     subst aC
     have aB:Hid (Fr 77 4 wr b0 r l.length (l.flatMap fun e=>epL (zaj E.2 e)) Q):=by show Fr _ _ _ _ _ _ _ _;rw[←zma,←zsS E.2 l];exact N.out
     go_wp2_with fail
     refine (zcw C K z o D Q E.1 59 _ I.out).mono ?_
     cases ae:zd C 4 cSemi E.1 with
     |error p=>
      rintro e w4 ⟨rfl,O⟩
      have HB:Hid (Below o w w4):=(HH.out.back J.out).trans O
      have HX:Hid (zaB C l q= .error p):=bdE aA.out ae
      unfold Pan
      go_wp2
      refine⟨rfl,?_⟩
      rw[HX.out]
      exact⟨rfl,HB.out⟩
     |ok a4=>
      rintro e w4 ⟨rfl,S4,m,s⟩
      have af:Hid (Fr 77 4 w4 b0 r l.length (l.flatMap fun e=>epL (zaj E.2 e)) S4):=aB.out.step I.out (by decide) s
      have aF:=zc m
      have aK:Hid (IS D S w S4 w4):=J.out.trans s
      clear m s
      have aE:=zc (bdO aA.out ae)
      have az:0<a4.pos:=by rw[(zbh ae).1];exact Nat.succ_pos _
      go_wp2
      go_loopg [39] l.length (fun k i wr=>∃(j:Nat) (S':Sv) (q':PS),i= .int .i64 j∧j+k=l.length∧zaB C l q=zK (fun e=>zm C (zaj E.2 e)) (l.drop j) (.ok q')∧0<q'.pos∧IM C K z o D S' q' wr∧IS D S w S' wr∧Fr 77 4 wr b0 r l.length (l.flatMap fun e=>epL (zaj E.2 e)) S')
      case atStart=>exact⟨0,S4,a4,rfl,by omega,aE.out,az,aF.out,aK.out,af.out⟩
      case round=>
       obtain⟨j,S',q',rfl,hj,hy,av,m',s',f'⟩:=hrel
       have aq:=zc hy
       have I:Hid (IM C K z o D S' q' wr):=m'
       have J:Hid (IS D S w S' wr):=s'
       have N:Hid (Fr 77 4 wr b0 r l.length (l.flatMap fun e=>epL (zaj E.2 e)) S'):=f'
       clear hy m' s' f'
       by_cases aa:j<l.length
       ·have X:(j:Int)<(l.length:Int):=by omega
        obtain⟨x,hx⟩:=zgd aa
        obtain⟨g',V,H⟩:=OwnR.elem (f:=fun e=>epL (zaj E.2 e)) (m:=4) (fun _=>rfl) N.out.1 hx
        have eg:g'=g:=by have:=V.symm.trans HG.out;simpa using this
        subst eg
        have k0:=H 0 (by omega)
        have k1:=H 1 (by omega)
        have k2:=H 2 (by omega)
        have k3:=H 3 (by omega)
        simp only[epL,zaj,Nat.add_zero,List.getElem?_cons_zero,List.getElem?_cons_succ] at k0 k1 k2 k3
        have HZ:=zc (aq.out.trans (ziR (fun e=>zm C (zaj E.2 e)) hx q'))
        clear H V hx
        obtain⟨Z,L⟩: ∃Z,Z=j+1:=⟨_,rfl⟩
        have ej:(j:Int)+1=(Z:Int):=by omega
        rw[←L] at HZ
        have ac:=I.out.lt
        have HJ:=zc L
        clear L
        go_wp2_with fail
        refine (zfF C K z o D S' q' (zaj E.2 x) _ (I.out.alloc _) av).mono ?_
        cases hn:zm C (zaj E.2 x) q' with
        |error p=>
         rintro e wy ⟨rfl,O⟩
         have HB:Hid (Below o w wy):=(HH.out.back (J.out.alloc _)).trans O
         have HX:Hid (zaB C l q= .error p):=by show _=_;rw[HZ.out,hn];exact zhk _ _ _
         unfold Pan
         go_wp2
         refine⟨rfl,?_⟩
         rw[HX.out]
         exact⟨rfl,HB.out⟩
        |ok ay=>
         rintro e wy ⟨rfl,Sy,m,s⟩
         have aL:=zc m
         have aI:Hid (IS D S w Sy wy):=(J.out.alloc _).trans s
         have aM:Hid (Fr 77 4 wy b0 r l.length (l.flatMap fun e=>epL (zaj E.2 e)) Sy):=(N.out.later ((Below.refl _ _).alloc (Nat.le_refl _) _)).step (I.out.alloc _) (by decide) s
         have aH:Hid (zaB C l q=zK (fun e=>zm C (zaj E.2 e)) (l.drop Z) (.ok ay)):=by show _=_;rw[HZ.out,hn]
         have aO:Hid (0<ay.pos):=by show 0<ay.pos;rw[zlU hn];exact av
         clear m s
         go_wp2
         go_roundg (gk-1)
         case rel=>exact⟨Z,Sy,ay,rfl,by have:=HJ.out;omega,aH.out,aO.out,aL.out,aI.out,aM.out⟩
         case measure=>omega
       ·have X: ¬(j:Int)<(l.length:Int):=by omega
        have HZ:Hid (zaB C l q= .ok q'):=by show _=_;rw[aq.out,List.drop_eq_nil_of_le (by omega)];rfl
        go_wp2
        go_end0
        rw[HZ.out]
        exact⟨rfl,S',I.out,J.out⟩
theorem zsZ (C:Cx) (E o j z b0:Nat) (r:Rw) (S D:Sv) (J q:PS) (l:List Ep) (w wc:World) (K:IM C E o j z S J w) (h:IM C E o j z D q wc) (U:IS z S w D wc) (X:zb0 C) (Q:l.length≤4000) (M:l.length≠0) (I:Fr 77 4 wc b0 r l.length (l.flatMap (fun e=>epL (zD e))) D) (N:w.heap.size≤b0):
  Calls Tryz.prog 117 #[.pointer (some ⟨z,0,none⟩),.slice r.a l.length r.cap] wc (zT C E o j z (zaB C l q) id (fun _=>.tuple #[]) S w):=by
 rcases I.1.nil_or with ⟨_,_,e⟩|⟨g,H⟩
 ·exact absurd e M
 ·have O:w.heap.size≤g:=Nat.le_trans N (I.1.typed (show r.blk=some g by rw[Rw.blk,H];rfl)).1
  rw[H]
  cases L:isT C q.pos 1 zH with
  |true=>exact zsY C E o j z b0 g r S D J q l w wc K h U X Q I H O L
  |false=>
   cases V:za2 l with
   |true=>exact zsX C E o j z b0 g r S D J q l w wc K h U Q I H L V
   |false=>exact zsW C E o j z b0 g r S D J q l w wc K h U Q I H L V
theorem zta {C:Cx} {k:Int} {n:ByteArray} {q b:PS} (h:zE C k n q= .ok b):b={q with st:=q.st++[⟨k,n,(q.ex.length:Int)-1⟩]}:=by
 unfold zE at h
 split at h
 ·cases h
 ·cases h
  rfl
theorem ziT {C:Cx} {k:Int} {n s:ByteArray} {q b:PS} (h:stmtI C k n s q= .ok b) (I:0<s.size):(∃l e,b.st=l++[⟨k,n,e⟩])∧0<b.pos:=by
 obtain⟨a,H,o⟩:=ze h
 obtain⟨c,j,E⟩:=ze o
 have D:=zjX _ j
 have z:=zta E
 subst z
 refine⟨⟨_,_,rfl⟩,?_⟩
 rw[D]
 show 0<a.pos+s.size
 omega
theorem ztb {C:Cx} {k:Int} {q b:PS} (h:letJ C k q= .ok b):(∃l e,b.st=l++[⟨k,(zf C q.pos).text,e⟩])∧0<b.pos:=by
 obtain⟨a,j,z⟩:=ze h
 obtain⟨c,D,o⟩:=ze z
 have:=ziT o (by decide)
 rw[(zaX j).1] at this
 exact this
theorem ztc {C:Cx} {q b:PS} (h:fnI C q= .ok b):(∃l e,b.st=l++[⟨2,(zf C q.pos).text,e⟩])∧0<b.pos:=by
 obtain⟨a,j,o⟩:=ze h
 obtain⟨c,E,z⟩:=ze o
 obtain⟨d,H,D⟩:=ze z
 have:=ziT D (by decide)
 rw[(zaX j).1] at this
 exact this
theorem zmb (C:Cx) (E o j z:Nat) (S:Sv) (q:PS) (l:List Sm) (k e:Int) (n:ByteArray) (w:World) (h:IM C E o j z S q w) (H:q.st=l++[⟨k,n,e⟩]) (D:n.size≤281474976710656) (I:0<q.pos):
  Calls Tryz.prog 120 #[.pointer (some ⟨z,0,none⟩)] w (zT C E o j z (zm C ⟨1,n,n,sNone⟩ q) id (fun _=>.tuple #[]) S w):=zoF C E o j z S q l ⟨k,n,e⟩ w h H D I
def zat (C:Cx) (q:PS):PR:=
 if isT C q.pos 4 zF then bd (zay C true (adv q) []) fun a=>zaB C a.2 a.1
 else if isT C q.pos 4 zp then bd (zd C 1 zH (adv q)) fun a=>bd (zy C a) fun b=>bd (zd C 4 cSemi b.1) fun c=>zm C ⟨3,sNone,sNone,b.2⟩ c
 else if isT C q.pos 1 sDefault then bd (stmtI C 1 zbp cSemi (adv q)) fun a=>zm C ⟨1,sDefault,zbp,sNone⟩ a
 else if isT C q.pos 1 sLet then bd (letJ C 1 (adv q)) fun a=>zm C ⟨1,(zf C (q.pos+1)).text,(zf C (q.pos+1)).text,sNone⟩ a
 else if isT C q.pos 1 sFunction then bd (fnI C (adv q)) fun a=>zm C ⟨1,(zf C (q.pos+1)).text,(zf C (q.pos+1)).text,sNone⟩ a
 else .error (zu C q.pos)
theorem ztd (C:Cx) (I o j z:Nat) (S:Sv) (q:PS) (w:World) (h:IM C I o j z S q w) (hC:zb0 C) (h1:isT C q.pos 4 zF=true):
  Calls Tryz.prog 91 #[.pointer (some ⟨z,0,none⟩)] w (zT C I o j z (zat C q) id (fun _=>.tuple #[]) S w):=by
 have Q:=zc h
 have HY:Hid (zat C q=bd (zay C true (adv q) []) fun a=>zaB C a.2 a.1):=by show _=_;rw[zat,h1];rfl
 clear h
 go_enter Tryz.func91,Tryz.ntmps91
 go_wp2_with fail
 refine (zP C I o j z S q 4 zF _ Q.out (by decide)).mono ?_
 rintro e w1 ⟨rfl,m,s⟩
 rw[h1] at m ⊢
 have O:=zc m
 have D:=zc s
 clear m s
 go_wp2_with fail
 refine (zsP C I o j z S (adv q) _ O.out).mono ?_
 cases K:zay C true (adv q) [] with
 |error p=>
  rintro e N ⟨rfl,hb⟩
  have Z:Hid (Below j w N):=(Q.out.back D.out).trans hb
  have E:Hid (zat C q= .error p):=bdE HY.out K
  unfold Pan
  go_wp2
  refine⟨rfl,?_⟩
  rw[E.out]
  exact⟨rfl,Z.out⟩
 |ok L=>
  rintro e N ⟨r,S3,rfl,m,s,f,l0,l1⟩
  have U:=zc m
  have V:Hid (IS z S w S3 N):=D.out.trans s
  have Y:=zc f
  clear m s f
  have J:=zc (bdO HY.out K)
  go_wp2_with fail
  refine (zsZ C I o j z _ r S S3 q L.1 L.2 w _ Q.out U.out V.out hC l1 (by omega) Y.out D.out.size).mono ?_
  cases H:zaB C L.2 L.1 with
  |error p=>
   rintro e w4 ⟨rfl,hb⟩
   have Z:=zc hb
   have E:=zc (J.out.trans H)
   unfold Pan
   go_wp2
   refine⟨rfl,?_⟩
   rw[E.out]
   exact⟨rfl,Z.out⟩
  |ok a4=>
   rintro e w4 ⟨rfl,S4,m,s⟩
   have M:=zc m
   have X:=zc s
   clear m s
   have E:=zc (J.out.trans H)
   go_wp2
   go_end0
   rw[E.out]
   exact⟨rfl,S4,M.out,X.out⟩
theorem zte (C:Cx) (D o j z:Nat) (S:Sv) (q:PS) (w:World) (h:IM C D o j z S q w) (hC:zb0 C) (h1:isT C q.pos 4 zF=false) (h2:isT C q.pos 4 zp=true):
  Calls Tryz.prog 91 #[.pointer (some ⟨z,0,none⟩)] w (zT C D o j z (zat C q) id (fun _=>.tuple #[]) S w):=by
 have O:=zc h
 have HY:Hid (zat C q=bd (zd C 1 zH (adv q)) fun a=>bd (zy C a) fun b=>bd (zd C 4 cSemi b.1) fun c=>zm C ⟨3,sNone,sNone,b.2⟩ c):=by show _=_;rw[zat,h1,h2];rfl
 clear h
 go_enter Tryz.func91,Tryz.ntmps91
 go_wp2_with fail
 refine (zP C D o j z S q 4 zF _ O.out (by decide)).mono ?_
 rintro e w1 ⟨rfl,m,s⟩
 rw[h1] at m ⊢
 have ac:=zc m
 have aj:=zc s
 clear m s
 go_wp2_with fail
 refine (zP C D o j z S q 4 zp _ ac.out (by decide)).mono ?_
 rintro e w2 ⟨rfl,m,s⟩
 rw[h2] at m ⊢
 have ag:=zc m
 have N:Hid (IS z S w S w2):=aj.out.trans s
 clear m s
 go_wp2_with fail
 refine (zeU C D o j z S (adv q) zH _ ag.out).mono ?_
 cases aa:zd C 1 zH (adv q) with
 |error p=>
  rintro e w3 ⟨rfl,J⟩
  have I:Hid (Below j w w3):=(O.out.back N.out).trans J
  have E:Hid (zat C q= .error p):=bdE HY.out aa
  unfold Pan
  go_wp2
  refine⟨rfl,?_⟩
  rw[E.out]
  exact⟨rfl,I.out⟩
 |ok a3=>
  rintro e w3 ⟨rfl,S3,m,s⟩
  have ad:=zc m
  have Q:Hid (IS z S w S3 w3):=N.out.trans s
  clear m s
  have Y:=zc (bdO HY.out aa)
  go_wp2_with fail
  refine (zgA C D o j z S3 a3 _ ad.out hC).mono ?_
  cases L:zy C a3 with
  |error p=>
   rintro e w4 ⟨rfl,J⟩
   have I:Hid (Below j w w4):=(O.out.back Q.out).trans J
   have E:Hid (zat C q= .error p):=bdE Y.out L
   unfold Pan
   go_wp2
   refine⟨rfl,?_⟩
   rw[E.out]
   exact⟨rfl,I.out⟩
  |ok a4=>
   rintro e w4 ⟨rfl,S4,m,s⟩
   have ab:=zc m
   have V:Hid (IS z S w S4 w4):=Q.out.trans s
   clear m s
   have Z:=zc (bdO Y.out L)
   go_wp2_with fail
   refine (zcw C D o j z S4 a4.1 59 _ ab.out).mono ?_
   cases H:zd C 4 cSemi a4.1 with
   |error p=>
    rintro e w5 ⟨rfl,J⟩
    have I:Hid (Below j w w5):=(O.out.back V.out).trans J
    have E:Hid (zat C q= .error p):=bdE Z.out H
    unfold Pan
    go_wp2
    refine⟨rfl,?_⟩
    rw[E.out]
    exact⟨rfl,I.out⟩
   |ok a5=>
    rintro e w5 ⟨rfl,S5,m,s⟩
    have ai:=zc m
    have X:Hid (IS z S w S5 w5):=V.out.trans s
    clear m s
    have M:=zc (bdO Z.out H)
    have K:0<a5.pos:=by rw[(zbh H).1];exact Nat.succ_pos _
    go_wp2_with fail
    refine (zfF C D o j z S5 a5 ⟨3,sNone,sNone,a4.2⟩ _ ai.out K).mono ?_
    cases U:zm C ⟨3,sNone,sNone,a4.2⟩ a5 with
    |error p=>
     rintro e w6 ⟨rfl,J⟩
     have I:Hid (Below j w w6):=(O.out.back X.out).trans J
     have E:Hid (zat C q= .error p):=M.out.trans U
     unfold Pan
     go_wp2
     refine⟨rfl,?_⟩
     rw[E.out]
     exact⟨rfl,I.out⟩
    |ok a6=>
     rintro e w6 ⟨rfl,S6,m,s⟩
     have ae:=zc m
     have af:Hid (IS z S w S6 w6):=X.out.trans s
     clear m s
     have ah:=zc (M.out.trans U)
     go_wp2
     go_end0
     rw[ah.out]
     exact⟨rfl,S6,ae.out,af.out⟩
theorem ztf (C:Cx) (E o j z:Nat) (S:Sv) (q:PS) (w:World) (h:IM C E o j z S q w) (h1:isT C q.pos 4 zF=false) (h2:isT C q.pos 4 zp=false) (h3:isT C q.pos 1 sDefault=true):
  Calls Tryz.prog 91 #[.pointer (some ⟨z,0,none⟩)] w (zT C E o j z (zat C q) id (fun _=>.tuple #[]) S w):=by
 have V:=zc h
 have HY:Hid (zat C q=bd (stmtI C 1 zbp cSemi (adv q)) fun a=>zm C ⟨1,sDefault,zbp,sNone⟩ a):=by show _=_;rw[zat,h1,h2,h3];rfl
 clear h
 go_enter Tryz.func91,Tryz.ntmps91
 go_wp2_with fail
 refine (zP C E o j z S q 4 zF _ V.out (by decide)).mono ?_
 rintro e w1 ⟨rfl,m,s⟩
 rw[h1] at m ⊢
 have Q:=zc m
 have ac:=zc s
 clear m s
 go_wp2_with fail
 refine (zP C E o j z S q 4 zp _ Q.out (by decide)).mono ?_
 rintro e w2 ⟨rfl,m,s⟩
 rw[h2] at m ⊢
 have Z:=zc m
 have U:Hid (IS z S w S w2):=ac.out.trans s
 clear m s
 go_wp2_with fail
 refine (zP C E o j z S q 1 sDefault _ Z.out (by decide)).mono ?_
 rintro e w3 ⟨rfl,m,s⟩
 rw[h3] at m ⊢
 have X:=zc m
 have J:Hid (IS z S w S w3):=U.out.trans s
 clear m s
 go_wp2_with fail
 refine (zeq C E o j z S (adv q) 1 zbp cSemi _ X.out (by decide) (by decide)).mono ?_
 cases D:stmtI C 1 zbp cSemi (adv q) with
 |error p=>
  rintro e w4 ⟨rfl,hb⟩
  have HB:Hid (Below j w w4):=(V.out.back J.out).trans hb
  have M:Hid (zat C q= .error p):=bdE HY.out D
  unfold Pan
  go_wp2
  refine⟨rfl,?_⟩
  rw[M.out]
  exact⟨rfl,HB.out⟩
 |ok a4=>
  rintro e w4 ⟨rfl,S4,m,s⟩
  have N:=zc m
  have K:Hid (IS z S w S4 w4):=J.out.trans s
  clear m s
  have L:=zc (bdO HY.out D)
  have I:=(ziT D (by decide)).2
  go_wp2_with fail
  refine (zfF C E o j z S4 a4 ⟨1,sDefault,zbp,sNone⟩ _ N.out I).mono ?_
  cases H:zm C ⟨1,sDefault,zbp,sNone⟩ a4 with
  |error p=>
   rintro e Y ⟨rfl,hb⟩
   have HB:Hid (Below j w Y):=(V.out.back K.out).trans hb
   have M:Hid (zat C q= .error p):=L.out.trans H
   unfold Pan
   go_wp2
   refine⟨rfl,?_⟩
   rw[M.out]
   exact⟨rfl,HB.out⟩
  |ok a5=>
   rintro e Y ⟨rfl,S5,m,s⟩
   have ab:=zc m
   have aa:Hid (IS z S w S5 Y):=K.out.trans s
   clear m s
   have O:=zc (L.out.trans H)
   go_wp2
   go_end0
   rw[O.out]
   exact⟨rfl,S5,ab.out,aa.out⟩
theorem ztg (C:Cx) (D o j z:Nat) (S:Sv) (q:PS) (w:World) (h:IM C D o j z S q w) (hC:zb0 C) (h1:isT C q.pos 4 zF=false) (h2:isT C q.pos 4 zp=false) (h3:isT C q.pos 1 sDefault=false) (h4:isT C q.pos 1 sLet=true):
  Calls Tryz.prog 91 #[.pointer (some ⟨z,0,none⟩)] w (zT C D o j z (zat C q) id (fun _=>.tuple #[]) S w):=by
 have V:=zc h
 have HY:Hid (zat C q=bd (letJ C 1 (adv q)) fun a=>zm C ⟨1,(zf C (q.pos+1)).text,(zf C (q.pos+1)).text,sNone⟩ a):=by show _=_;rw[zat,h1,h2,h3,h4];rfl
 clear h
 go_enter Tryz.func91,Tryz.ntmps91
 go_wp2_with fail
 refine (zP C D o j z S q 4 zF _ V.out (by decide)).mono ?_
 rintro e w1 ⟨rfl,m,s⟩
 rw[h1] at m ⊢
 have Q:=zc m
 have af:=zc s
 clear m s
 go_wp2_with fail
 refine (zP C D o j z S q 4 zp _ Q.out (by decide)).mono ?_
 rintro e w2 ⟨rfl,m,s⟩
 rw[h2] at m ⊢
 have ac:=zc m
 have U:Hid (IS z S w S w2):=af.out.trans s
 clear m s
 go_wp2_with fail
 refine (zP C D o j z S q 1 sDefault _ ac.out (by decide)).mono ?_
 rintro e w3 ⟨rfl,m,s⟩
 rw[h3] at m ⊢
 have X:=zc m
 have Y:Hid (IS z S w S w3):=U.out.trans s
 clear m s
 go_wp2_with fail
 refine (zP C D o j z S q 1 sLet _ X.out (by decide)).mono ?_
 rintro e w4 ⟨rfl,m,s⟩
 rw[h4] at m ⊢
 have O:=zc m
 have L:Hid (IS z S w S w4):=Y.out.trans s
 clear m s
 go_wp2_with fail
 refine (zhT C D o j z S (adv q) _ O.out).mono ?_
 cases E:letJ C 1 (adv q) with
 |error p=>
  rintro e w5 ⟨rfl,hb⟩
  have HB:Hid (Below j w w5):=(V.out.back L.out).trans hb
  have N:Hid (zat C q= .error p):=bdE HY.out E
  unfold Pan
  go_wp2
  refine⟨rfl,?_⟩
  rw[N.out]
  exact⟨rfl,HB.out⟩
 |ok a5=>
  rintro e w5 ⟨rfl,S5,m,s⟩
  have ae:=zc m
  have M:Hid (IS z S w S5 w5):=L.out.trans s
  clear m s
  have I:=zc (bdO HY.out E)
  obtain⟨⟨l,e,J⟩,H⟩:=ztb E
  have ab:=zc J
  clear J
  go_wp2_with fail
  refine (zmb C D o j z S5 a5 l _ _ (zf C (q.pos+1)).text _ ae.out ab.out (hC _) H).mono ?_
  cases K:zm C ⟨1,(zf C (q.pos+1)).text,(zf C (q.pos+1)).text,sNone⟩ a5 with
  |error p=>
   rintro e w6 ⟨rfl,hb⟩
   have HB:Hid (Below j w w6):=(V.out.back M.out).trans hb
   have N:Hid (zat C q= .error p):=I.out.trans K
   unfold Pan
   go_wp2
   refine⟨rfl,?_⟩
   rw[N.out]
   exact⟨rfl,HB.out⟩
  |ok a6=>
   rintro e w6 ⟨rfl,S6,m,s⟩
   have Z:=zc m
   have aa:Hid (IS z S w S6 w6):=M.out.trans s
   clear m s
   have ad:=zc (I.out.trans K)
   go_wp2
   go_end0
   rw[ad.out]
   exact⟨rfl,S6,Z.out,aa.out⟩
theorem zth (C:Cx) (D o j z:Nat) (S:Sv) (q:PS) (w:World) (h:IM C D o j z S q w) (hC:zb0 C) (h1:isT C q.pos 4 zF=false) (h2:isT C q.pos 4 zp=false) (h3:isT C q.pos 1 sDefault=false) (h4:isT C q.pos 1 sLet=false) (h5:isT C q.pos 1 sFunction=true):
  Calls Tryz.prog 91 #[.pointer (some ⟨z,0,none⟩)] w (zT C D o j z (zat C q) id (fun _=>.tuple #[]) S w):=by
 have V:=zc h
 have HY:Hid (zat C q=bd (fnI C (adv q)) fun a=>zm C ⟨1,(zf C (q.pos+1)).text,(zf C (q.pos+1)).text,sNone⟩ a):=by show _=_;rw[zat,h1,h2,h3,h4,h5];rfl
 clear h
 go_enter Tryz.func91,Tryz.ntmps91
 go_wp2_with fail
 refine (zP C D o j z S q 4 zF _ V.out (by decide)).mono ?_
 rintro e w1 ⟨rfl,m,s⟩
 rw[h1] at m ⊢
 have Q:=zc m
 have ag:=zc s
 clear m s
 go_wp2_with fail
 refine (zP C D o j z S q 4 zp _ Q.out (by decide)).mono ?_
 rintro e w2 ⟨rfl,m,s⟩
 rw[h2] at m ⊢
 have ac:=zc m
 have U:Hid (IS z S w S w2):=ag.out.trans s
 clear m s
 go_wp2_with fail
 refine (zP C D o j z S q 1 sDefault _ ac.out (by decide)).mono ?_
 rintro e w3 ⟨rfl,m,s⟩
 rw[h3] at m ⊢
 have X:=zc m
 have Y:Hid (IS z S w S w3):=U.out.trans s
 clear m s
 go_wp2_with fail
 refine (zP C D o j z S q 1 sLet _ X.out (by decide)).mono ?_
 rintro e w4 ⟨rfl,m,s⟩
 rw[h4] at m ⊢
 have O:=zc m
 have ab:Hid (IS z S w S w4):=Y.out.trans s
 clear m s
 go_wp2_with fail
 refine (zP C D o j z S q 1 sFunction _ O.out (by decide)).mono ?_
 rintro e w5 ⟨rfl,m,s⟩
 rw[h5] at m ⊢
 have af:=zc m
 have L:Hid (IS z S w S w5):=ab.out.trans s
 clear m s
 go_wp2_with fail
 refine (zhU C D o j z S (adv q) _ af.out).mono ?_
 cases E:fnI C (adv q) with
 |error p=>
  rintro e w6 ⟨rfl,hb⟩
  have HB:Hid (Below j w w6):=(V.out.back L.out).trans hb
  have N:Hid (zat C q= .error p):=bdE HY.out E
  unfold Pan
  go_wp2
  refine⟨rfl,?_⟩
  rw[N.out]
  exact⟨rfl,HB.out⟩
 |ok a6=>
  rintro e w6 ⟨rfl,S6,m,s⟩
  have Z:=zc m
  have K:Hid (IS z S w S6 w6):=L.out.trans s
  clear m s
  have M:=zc (bdO HY.out E)
  obtain⟨⟨l,e,J⟩,I⟩:=ztc E
  have aa:=zc J
  clear J
  go_wp2_with fail
  refine (zmb C D o j z S6 a6 l _ _ (zf C (q.pos+1)).text _ Z.out aa.out (hC _) I).mono ?_
  cases H:zm C ⟨1,(zf C (q.pos+1)).text,(zf C (q.pos+1)).text,sNone⟩ a6 with
  |error p=>
   rintro e w7 ⟨rfl,hb⟩
   have HB:Hid (Below j w w7):=(V.out.back K.out).trans hb
   have N:Hid (zat C q= .error p):=M.out.trans H
   unfold Pan
   go_wp2
   refine⟨rfl,?_⟩
   rw[N.out]
   exact⟨rfl,HB.out⟩
  |ok a7=>
   rintro e w7 ⟨rfl,S7,m,s⟩
   have ah:=zc m
   have ae:Hid (IS z S w S7 w7):=K.out.trans s
   clear m s
   have ad:=zc (M.out.trans H)
   go_wp2
   go_end0
   rw[ad.out]
   exact⟨rfl,S7,ah.out,ae.out⟩
theorem zti (C:Cx) (D o j z:Nat) (S:Sv) (q:PS) (w:World) (h:IM C D o j z S q w) (h1:isT C q.pos 4 zF=false) (Y:isT C q.pos 4 zp=false) (U:isT C q.pos 1 sDefault=false) (V:isT C q.pos 1 sLet=false) (Z:isT C q.pos 1 sFunction=false):
  Calls Tryz.prog 91 #[.pointer (some ⟨z,0,none⟩)] w (zT C D o j z (zat C q) id (fun _=>.tuple #[]) S w):=by
 have X:=zc h
 have HY:Hid (zat C q= .error (zu C q.pos)):=by show _=_;rw[zat,h1,Y,U,V,Z];rfl
 clear h
 go_enter Tryz.func91,Tryz.ntmps91
 go_wp2_with fail
 refine (zP C D o j z S q 4 zF _ X.out (by decide)).mono ?_
 rintro e w1 ⟨rfl,m,s⟩
 rw[h1] at m ⊢
 have I:=zc m
 have Q:=zc s
 clear m s
 go_wp2_with fail
 refine (zP C D o j z S q 4 zp _ I.out (by decide)).mono ?_
 rintro e w2 ⟨rfl,m,s⟩
 rw[Y] at m ⊢
 have N:=zc m
 have J:Hid (IS z S w S w2):=Q.out.trans s
 clear m s
 go_wp2_with fail
 refine (zP C D o j z S q 1 sDefault _ N.out (by decide)).mono ?_
 rintro e w3 ⟨rfl,m,s⟩
 rw[U] at m ⊢
 have K:=zc m
 have L:Hid (IS z S w S w3):=J.out.trans s
 clear m s
 go_wp2_with fail
 refine (zP C D o j z S q 1 sLet _ K.out (by decide)).mono ?_
 rintro e w4 ⟨rfl,m,s⟩
 rw[V] at m ⊢
 have H:=zc m
 have M:Hid (IS z S w S w4):=L.out.trans s
 clear m s
 go_wp2_with fail
 refine (zP C D o j z S q 1 sFunction _ H.out (by decide)).mono ?_
 rintro e w5 ⟨rfl,m,s⟩
 rw[Z] at m ⊢
 have E:=zc m
 have O:Hid (IS z S w S w5):=M.out.trans s
 clear m s
 go_wp2_with fail
 refine (zeT C D o j z S q _ E.out).mono ?_
 rintro e wz ⟨rfl,hb⟩
 have HB:Hid (Below j w wz):=(X.out.back O.out).trans (hb.mono E.out.mem.base)
 have HX:Hid (zat C q= .error (zu C q.pos)):=HY.out
 unfold Pan
 go_wp2
 refine⟨rfl,?_⟩
 rw[HX.out]
 exact⟨rfl,HB.out⟩
theorem ztj (C:Cx) (D o j z:Nat) (S:Sv) (q:PS) (w:World) (h:IM C D o j z S q w) (I:zb0 C):
  Calls Tryz.prog 91 #[.pointer (some ⟨z,0,none⟩)] w (zT C D o j z (zat C q) id (fun _=>.tuple #[]) S w):=by
 cases E:isT C q.pos 4 zF with
 |true=>exact ztd C D o j z S q w h I E
 |false=>
  cases H:isT C q.pos 4 zp with
  |true=>exact zte C D o j z S q w h I E H
  |false=>
   cases J:isT C q.pos 1 sDefault with
   |true=>exact ztf C D o j z S q w h E H J
   |false=>
    cases K:isT C q.pos 1 sLet with
    |true=>exact ztg C D o j z S q w h I E H J K
    |false=>
     cases L:isT C q.pos 1 sFunction with
     |true=>exact zth C D o j z S q w h I E H J K L
     |false=>exact zti C D o j z S q w h E H J K L
end Go.Proofs.YthfeoomfiafldaaGreat
