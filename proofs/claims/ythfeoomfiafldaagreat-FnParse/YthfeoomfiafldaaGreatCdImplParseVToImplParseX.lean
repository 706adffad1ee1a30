/-
  What ContainsFunc over Exps answers,and a row of Exps whose elements are written: the walks.
  What exportNames of impl's parser answers: the walks. (It writes into the row that it is handed: so what is told is told from a world on in which that row was not yet there.)
  What exportItem of impl's parser answers: the walks.
-/
import Derived.Laws.OwnMore
import Derived.Test.YthfeoomfiafldaaGreatCdImplParseU
namespace Go.Proofs.YthfeoomfiafldaaGreat
set_option maxRecDepth 100000
set_option maxHeartbeats 3200000
open Go.RowKit Go.PlainAid Go.Sort
theorem zlW {α:Type} (f:α→List Value) (m:Nat) (o: ∀x,(f x).length=m): ∀(l:List α) (j i:Nat) (x y:α) (v:Value),l[j]? =some x→i<m→f y=(f x).set i v→(l.flatMap f).set (j*m+i) v=(l.set j y).flatMap f:=by
 intro l
 induction l with
 |nil=>intro j i x y v h;simp at h
 |cons z l H=>
  intro j i x y v h E D
  match j with
  |0=>
   simp only[List.getElem?_cons_zero,Option.some.injEq] at h
   subst h
   rw[List.flatMap_cons,Nat.zero_mul,Nat.zero_add,List.set_append_left _ _ (by rw[o];exact E),List.set_cons_zero,List.flatMap_cons,D]
  |j+1=>
   simp only[List.getElem?_cons_succ] at h
   rw[List.flatMap_cons,List.set_append_right _ _ (by rw[o,Nat.succ_mul];omega),o,List.set_cons_succ,List.flatMap_cons,←H j i x y v h E D]
   congr 2
   rw[Nat.succ_mul]
   omega
def mxE (s:ByteArray) (l:List Ep) (j:Nat):List Ep:=(l.take j).map (zaj s)++(l.drop j).map zD
theorem zlX (s:ByteArray) (l:List Ep) (j:Nat):(mxE s l j).length=l.length:=by simp[mxE];omega
theorem zlY {s:ByteArray} {l:List Ep} {j:Nat} {x:Ep} (h:l[j]? =some x):(mxE s l j)[j]? =some (zD x):=by
 obtain⟨o,rfl⟩:=List.getElem?_eq_some_iff.1 h
 have z:((l.take j).map (zaj s)).length=j:=by simp;omega
 rw[mxE,List.getElem?_append_right (by omega),z,Nat.sub_self,List.drop_eq_getElem_cons o]
 rfl
theorem zsQ {s:ByteArray} {l:List Ep} {j:Nat} {x:Ep} (h:l[j]? =some x):(mxE s l j).set j (zaj s x)=mxE s l (j+1):=by
 obtain⟨o,rfl⟩:=List.getElem?_eq_some_iff.1 h
 have z:((l.take j).map (zaj s)).length=j:=by simp;omega
 rw[mxE,List.set_append_right _ _ (by omega),z,Nat.sub_self,List.drop_eq_getElem_cons o,List.map_cons,List.set_cons_zero,mxE,List.take_succ_eq_append_getElem o,List.map_append,List.append_assoc]
 rfl
theorem zsR (s:ByteArray) (l:List Ep):mxE s l 0=l.map zD:=by simp[mxE]
theorem zsS (s:ByteArray) (l:List Ep):mxE s l l.length=l.map (zaj s):=by simp[mxE]
theorem zsT (x:Ep) (w:World):
  Calls Tryz.prog 139 #[epV x] w fun e j=>e= .returned (.bool (x.loc.toList==[100,101,102,97,117,108,116]))∧Below w.heap.size w j:=by
 unfold epV
 cases o:(x.loc.toList==[100,101,102,97,117,108,116]) with
 |true=>
  go_enter Tryz.func139,Tryz.ntmps139
  go_wp2
  go_ret
  exact⟨rfl,(Below.refl _ _).alloc (Nat.le_refl _) _⟩
 |false=>
  go_enter Tryz.func139,Tryz.ntmps139
  go_wp2
  go_ret
  exact⟨rfl,(Below.refl _ _).alloc (Nat.le_refl _) _⟩
theorem zsU {l:List Ep} {j:Nat} {x:Ep} (h:l[j]? =some x):za2 (l.drop j)=((x.loc.toList==[100,101,102,97,117,108,116])||za2 (l.drop (j+1))):=by
 obtain⟨o,rfl⟩:=List.getElem?_eq_some_iff.1 h
 rw[List.drop_eq_getElem_cons o]
 simp only[za2,List.any_cons]
theorem zsV (H g:Nat) (r:Rw) (l:List Ep) (w:World) (h:OwnR w H 77 4 r l.length (l.flatMap fun e=>epL (zD e))) (hl:l.length≤4000) (Z:r.a=some ⟨g,0,none⟩):
  Calls Tryz.prog 147 #[.slice (some ⟨g,0,none⟩) l.length r.cap,.func (.func 139) #[] #[]] w fun e w'=>(∃v:Int,e= .returned (.int .i64 v)∧decide (0≤v)=za2 l)∧Below w.heap.size w w':=by
 have Y:=zc h
 have U:=zc Z
 clear h Z
 go_enter Tryz.func147,Tryz.ntmps147
 go_wp2
 go_loopg [8] (l.length+1) (fun k i wr=>∃j:Nat,i= .int .i64 j∧j+k=l.length+1∧za2 (l.drop j)=za2 l∧Below w.heap.size w wr)
 case atStart=>exact⟨0,rfl,by omega,by simp,Below.refl _ _⟩
 case round=>
  obtain⟨j,rfl,hj,he,hb⟩:=hrel
  have N:=zc he
  have K:=zc hb
  clear he hb
  by_cases M:j<l.length
  ·have D:(j:Int)<(l.length:Int):=by omega
   obtain⟨x,Q⟩:=zgd M
   have O:=zc (Y.out.keep fun k g=>K.out.block k (Y.out.typed g).2.1)
   obtain⟨g',J,o⟩:=OwnR.elem (f:=fun e=>epL (zD e)) (m:=4) (fun _=>rfl) O.out Q
   have eg:g'=g:=by have:=J.symm.trans U.out;simpa using this
   subst eg
   have k0:=o 0 (by omega)
   have k1:=o 1 (by omega)
   have k2:=o 2 (by omega)
   have k3:=o 3 (by omega)
   simp only[epL,zD,Nat.add_zero,List.getElem?_cons_zero,List.getElem?_cons_succ] at k0 k1 k2 k3
   have HS:=zc (zsU Q)
   clear o J Q
   obtain⟨L,E⟩: ∃L,L=j+1:=⟨_,rfl⟩
   have ej:(j:Int)+1=(L:Int):=by omega
   have X:=zc E
   clear E
   go_wp2_with fail
   refine (zsT (zD x) _).mono ?_
   rintro e w1 ⟨rfl,I⟩
   have z:Hid (Below w.heap.size w w1):=K.out.trans (I.mono K.out.size)
   clear I
   rw[show (zD x).loc=x.loc from rfl]
   cases V:(x.loc.toList==[100,101,102,97,117,108,116]) with
   |true=>
    go_wp2
    go_ret
    refine⟨⟨_,rfl,?_⟩,z.out⟩
    rw[←N.out,HS.out,V]
    simp
   |false=>
    go_wp2
    go_roundg (gk-1)
    case rel=>
     refine⟨L,rfl,by have:=X.out;omega,?_,z.out⟩
     rw[←N.out,HS.out,V,X.out]
     simp
    case measure=>omega
  ·have D: ¬(j:Int)<(l.length:Int):=by omega
   go_wp2
   go_ret
   refine⟨⟨_,rfl,?_⟩,K.out⟩
   rw[←N.out,List.drop_eq_nil_of_le (by omega)]
   rfl
theorem zlZ (j g:Nat) (r:Rw) (l:List Ep) (w:World) (h:OwnR w j 77 4 r l.length (l.flatMap fun e=>epL (zD e))) (H:l.length≤4000) (E:r.a=some ⟨g,0,none⟩):
  Calls Tryz.prog 140 #[.slice (some ⟨g,0,none⟩) l.length r.cap,.func (.func 139) #[] #[]] w fun e K=>e= .returned (.bool (za2 l))∧Below w.heap.size w K:=by
 have J:=zc h
 have o:=zc E
 clear h E
 go_enter Tryz.func140,Tryz.ntmps140
 go_wp2_with fail
 refine (zsV j g r l _ J.out H o.out).mono ?_
 rintro e M ⟨⟨v,rfl,D⟩,z⟩
 have I:=zc D
 have L:=zc z
 clear D z
 go_wp2
 go_ret
 exact⟨zq I.out,L.out⟩
def zaB (C:Cx) (l:List Ep) (q:PS):PR:=
 if isT C q.pos 1 zH||za2 l then bd (zd C 1 zH q) fun a=>bd (zy C a) fun b=>bd (zd C 4 cSemi b.1) fun c=>zK (fun e=>zm C (zaj b.2 e)) l (.ok c)
 else bd (zd C 4 cSemi q) fun c=>zK (fun e=>zm C (zD e)) l (.ok c)
theorem zma (X:Ep→Ep) (l:List Ep):(l.map X).flatMap epL=l.flatMap fun e=>epL (X e):=by rw[List.flatMap_map]
theorem zsW (C:Cx) (J z o D b0 g:Nat) (r:Rw) (S H:Sv) (q0 q:PS) (l:List Ep) (w wc:World) (hh:IM C J z o D S q0 w) (h:IM C J z o D H q wc) (h0:IS D S w H wc) (hl:l.length≤4000) (hf:Fr 77 4 wc b0 r l.length (l.flatMap (fun e=>epL (zD e))) H) (hg:r.a=some ⟨g,0,none⟩) (hi:isT C q.pos 1 zH=false) (ha:za2 l=false):
  Calls Tryz.prog 117 #[.pointer (some ⟨D,0,none⟩),.slice (some ⟨g,0,none⟩) l.length r.cap] wc (zT C J z o D (zaB C l q) id (fun _=>.tuple #[]) S w):=by
 have HH:=zc hh
 have HC:=zc h
 have H0:=zc h0
 have HF:=zc hf
 have HG:=zc hg
 have HY:Hid (zaB C l q=bd (zd C 4 cSemi q) fun c=>zK (fun e=>zm C (zD e)) l (.ok c)):=by show _=_;rw[zaB,hi,ha];rfl
 clear hh h h0 hf hg
 go_enter Tryz.func117,Tryz.ntmps117
 go_wp2_with fail
 refine (zco C J z o D H q 1 zH _ HC.out).mono ?_
 rintro e w1 ⟨rfl,E⟩
 rw[hi]
 have ah:Hid (IM C J z o D H q w1):=HC.out.later E
 have am:Hid (IS D S w H w1):=(H0.out.trans (IS.below E))
 have aa:IS D H wc H w1:=IS.below E
 clear E
 have U:Hid (Fr 77 4 w1 b0 r l.length (l.flatMap (fun e=>epL (zD e))) H):=HF.out.step HC.out (by decide) aa
 clear aa
 go_wp2_with fail
 refine (zlZ b0 g r l _ U.out.1 hl HG.out).mono ?_
 rintro e w2 ⟨rfl,E⟩
 rw[ha]
 have ag:Hid (Fr 77 4 w2 b0 r l.length (l.flatMap (fun e=>epL (zD e))) H):=U.out.later E
 have ac:Hid (IM C J z o D H q w2):=ah.out.later E
 have af:Hid (IS D S w H w2):=(am.out.trans (IS.below E))
 clear E
 go_wp2_with fail
 refine (zcw C J z o D H q 59 _ ac.out).mono ?_
 cases O:zd C 4 cSemi q with
 |error p=>
  rintro e w3 ⟨rfl,E⟩
  have HB:Hid (Below o w w3):=(HH.out.back af.out).trans E
  have HX:Hid (zaB C l q= .error p):=bdE HY.out O
  unfold Pan
  go_wp2
  refine⟨rfl,?_⟩
  rw[HX.out]
  exact⟨rfl,HB.out⟩
 |ok a3=>
  rintro e w3 ⟨rfl,S3,m,s⟩
  have ai:Hid (Fr 77 4 w3 b0 r l.length (l.flatMap (fun e=>epL (zD e))) S3):=ag.out.step ac.out (by decide) s
  have au:=zc m
  have ak:Hid (IS D S w S3 w3):=af.out.trans s
  clear m s
  have al:=zc (bdO HY.out O)
  have ae:0<a3.pos:=by rw[(zbh O).1];exact Nat.succ_pos _
  go_wp2
  go_loopg [39] l.length (fun k i wr=>∃(j:Nat) (K:Sv) (L:PS),i= .int .i64 j∧j+k=l.length∧zaB C l q=zK (fun e=>zm C (zD e)) (l.drop j) (.ok L)∧0<L.pos∧IM C J z o D K L wr∧IS D S w K wr∧Fr 77 4 wr b0 r l.length (l.flatMap fun e=>epL (zD e)) K)
  case atStart=>exact⟨0,S3,a3,rfl,by omega,al.out,ae,au.out,ak.out,ai.out⟩
  case round=>
   obtain⟨j,K,L,rfl,hj,hy,ad,m',s',f'⟩:=hrel
   have ab:=zc hy
   have M:Hid (IM C J z o D K L wr):=m'
   have N:Hid (IS D S w K wr):=s'
   have Z:Hid (Fr 77 4 wr b0 r l.length (l.flatMap fun e=>epL (zD e)) K):=f'
   clear hy m' s' f'
   by_cases an:j<l.length
   ·have V:(j:Int)<(l.length:Int):=by omega
    obtain⟨x,hx⟩:=zgd an
    obtain⟨g',X,I⟩:=OwnR.elem (f:=fun e=>epL (zD e)) (m:=4) (fun _=>rfl) Z.out.1 hx
    have eg:g'=g:=by have:=X.symm.trans HG.out;simpa using this
    subst eg
    have k0:=I 0 (by omega)
    have k1:=I 1 (by omega)
    have k2:=I 2 (by omega)
    have k3:=I 3 (by omega)
    simp only[epL,zD,Nat.add_zero,List.getElem?_cons_zero,List.getElem?_cons_succ] at k0 k1 k2 k3
    have HZ:=zc (ab.out.trans (ziR (fun e=>zm C (zD e)) hx L))
    clear I X hx
    obtain⟨Y,Q⟩: ∃Y,Y=j+1:=⟨_,rfl⟩
    have ej:(j:Int)+1=(Y:Int):=by omega
    rw[←Q] at HZ
    have av:=M.out.lt
    have HJ:=zc Q
    clear Q
    go_wp2_with fail
    refine (zfF C J z o D K L (zD x) _ (M.out.alloc _) ad).mono ?_
    cases hn:zm C (zD x) L with
    |error p=>
     rintro e wy ⟨rfl,E⟩
     have HB:Hid (Below o w wy):=(HH.out.back (N.out.alloc _)).trans E
     have HX:Hid (zaB C l q= .error p):=by show _=_;rw[HZ.out,hn];exact zhk _ _ _
     unfold Pan
     go_wp2
     refine⟨rfl,?_⟩
     rw[HX.out]
     exact⟨rfl,HB.out⟩
    |ok ay=>
     rintro e wy ⟨rfl,Sy,m,s⟩
     have aq:=zc m
     have ar:Hid (IS D S w Sy wy):=(N.out.alloc _).trans s
     have ao:Hid (Fr 77 4 wy b0 r l.length (l.flatMap fun e=>epL (zD e)) Sy):=(Z.out.later ((Below.refl _ _).alloc (Nat.le_refl _) _)).step (M.out.alloc _) (by decide) s
     have ap:Hid (zaB C l q=zK (fun e=>zm C (zD e)) (l.drop Y) (.ok ay)):=by show _=_;rw[HZ.out,hn]
     have aj:Hid (0<ay.pos):=by show 0<ay.pos;rw[zlU hn];exact ad
     clear m s
     go_wp2
     go_roundg (gk-1)
     case rel=>exact⟨Y,Sy,ay,rfl,by have:=HJ.out;omega,ap.out,aj.out,aq.out,ar.out,ao.out⟩
     case measure=>omega
   ·have V: ¬(j:Int)<(l.length:Int):=by omega
    have HZ:Hid (zaB C l q= .ok L):=by show _=_;rw[ab.out,List.drop_eq_nil_of_le (by omega)];rfl
    go_wp2
    go_end0
    rw[HZ.out]
    exact⟨rfl,K,M.out,N.out⟩
theorem zsX (C:Cx) (H o j D b0 g:Nat) (r:Rw) (S z:Sv) (q0 q:PS) (l:List Ep) (w wc:World) (hh:IM C H o j D S q0 w) (h:IM C H o j D z q wc) (h0:IS D S w z wc) (hl:l.length≤4000) (Z:Fr 77 4 wc b0 r l.length (l.flatMap (fun e=>epL (zD e))) z) (Y:r.a=some ⟨g,0,none⟩) (K:isT C q.pos 1 zH=false) (X:za2 l=true):
  Calls Tryz.prog 117 #[.pointer (some ⟨D,0,none⟩),.slice (some ⟨g,0,none⟩) l.length r.cap] wc (zT C H o j D (zaB C l q) id (fun _=>.tuple #[]) S w):=by
 have HH:=zc hh
 have N:=zc h
 have H0:=zc h0
 have HF:=zc Z
 have HG:=zc Y
 have HY:Hid (zaB C l q= .error (zu C q.pos)):=by show _=_;rw[zaB,K,X,if_pos (by decide),zhN K];rfl
 clear hh h h0 Z Y
 go_enter Tryz.func117,Tryz.ntmps117
 go_wp2_with fail
 refine (zco C H o j D z q 1 zH _ N.out).mono ?_
 rintro e L ⟨rfl,E⟩
 rw[K]
 have O:Hid (IM C H o j D z q L):=N.out.later E
 have M:Hid (IS D S w z L):=(H0.out.trans (IS.below E))
 have J:IS D z wc z L:=IS.below E
 clear E
 have I:Hid (Fr 77 4 L b0 r l.length (l.flatMap (fun e=>epL (zD e))) z):=HF.out.step N.out (by decide) J
 clear J
 go_wp2_with fail
 refine (zlZ b0 g r l _ I.out.1 hl HG.out).mono ?_
 rintro e Q ⟨rfl,E⟩
 rw[X]
 have aa:Hid (Fr 77 4 Q b0 r l.length (l.flatMap (fun e=>epL (zD e))) z):=I.out.later E
 have U:Hid (IM C H o j D z q Q):=O.out.later E
 have V:Hid (IS D S w z Q):=(M.out.trans (IS.below E))
 clear E
 go_wp2_with fail
 refine (zeU C H o j D z q zH _ U.out).mono ?_
 rw[zhN K]
 rintro e w3 ⟨rfl,E⟩
 have HB:Hid (Below j w w3):=(HH.out.back V.out).trans E
 have HX:Hid (zaB C l q= .error (zu C q.pos)):=HY.out
 unfold Pan
 go_wp2
 refine⟨rfl,?_⟩
 rw[HX.out]
 exact⟨rfl,HB.out⟩
theorem zsY (C:Cx) (K z o D b0 g:Nat) (r:Rw) (S Z:Sv) (q0 q:PS) (l:List Ep) (w wc:World) (hh:IM C K z o D S q0 w) (h:IM C K z o D Z q wc) (h0:IS D S w Z wc) (hC:zb0 C) (hl:l.length≤4000) (hf:Fr 77 4 wc b0 r l.length (l.flatMap (fun e=>epL (zD e))) Z) (hg:r.a=some ⟨g,0,none⟩) (ar:w.heap.size≤g) (hi:isT C q.pos 1 zH=true):
  Calls Tryz.prog 117 #[.pointer (some ⟨D,0,none⟩),.slice (some ⟨g,0,none⟩) l.length r.cap] wc (zT C K z o D (zaB C l q) id (fun _=>.tuple #[]) S w):=by
 have HH:=zc hh
 have HC:=zc h
 have H0:=zc h0
 have HF:=zc hf
 have HG:=zc hg
 have aq:=zc ar
 have HY:Hid (zaB C l q=bd (zd C 1 zH q) fun a=>bd (zy C a) fun b=>bd (zd C 4 cSemi b.1) fun c=>zK (fun e=>zm C (zaj b.2 e)) l (.ok c)):=by show _=_;rw[zaB,hi];rfl
 clear hh h h0 hf hg ar
 go_enter Tryz.func117,Tryz.ntmps117
 go_wp2_with fail
 refine (zco C K z o D Z q 1 zH _ HC.out).mono ?_
 rintro e w1 ⟨rfl,Q⟩
 rw[hi]
 have ah:Hid (IM C K z o D Z q w1):=HC.out.later Q
 have al:Hid (IS D S w Z w1):=(H0.out.trans (IS.below Q))
 have ak:IS D Z wc Z w1:=IS.below Q
 clear Q
 have aC:Hid (Fr 77 4 w1 b0 r l.length (l.flatMap (fun e=>epL (zD e))) Z):=HF.out.step HC.out (by decide) ak
 clear ak
 go_wp2_with fail
 refine (zeU C K z o D Z q zH _ ah.out).mono ?_
 cases an:zd C 1 zH q with
 |error p=>
  rintro e w2 ⟨rfl,Q⟩
  have HB:Hid (Below o w w2):=(HH.out.back al.out).trans Q
  have HX:Hid (zaB C l q= .error p):=bdE HY.out an
  unfold Pan
  go_wp2
  refine⟨rfl,?_⟩
  rw[HX.out]
  exact⟨rfl,HB.out⟩
 |ok a2=>
  rintro e w2 ⟨rfl,S2,m,s⟩
  have aD:Hid (Fr 77 4 w2 b0 r l.length (l.flatMap (fun e=>epL (zD e))) S2):=aC.out.step ah.out (by decide) s
  have aw:=zc m
  have aA:Hid (IS D S w S2 w2):=al.out.trans s
  clear m s
  have ag:=zc (bdO HY.out an)
  go_wp2_with fail
  refine (zgA C K z o D S2 a2 _ aw.out hC).mono ?_
  cases av:zy C a2 with
  |error p=>
   rintro e w3 ⟨rfl,Q⟩
   have HB:Hid (Below o w w3):=(HH.out.back aA.out).trans Q
   have HX:Hid (zaB C l q= .error p):=bdE ag.out av
   unfold Pan
   go_wp2
   refine⟨rfl,?_⟩
   rw[HX.out]
   exact⟨rfl,HB.out⟩
  |ok E=>
   rintro e w3 ⟨rfl,O,m,s⟩
   have aa:Hid (Fr 77 4 w3 b0 r l.length (l.flatMap (fun e=>epL (zD e))) O):=aD.out.step aw.out (by decide) s
   have af:=zc m
   have aH:Hid (IS D S w O w3):=aA.out.trans s
   clear m s
   have ai:=zc (bdO ag.out av)
   have ae:Hid (Fr 77 4 w3 b0 r l.length ((mxE E.2 l 0).flatMap epL) O):=by show Fr _ _ _ _ _ _ _ _;rw[zsR,zma];exact aa.out
   have ad:g≠D:=aa.out.ngp af.out (by decide) (by rw[Rw.blk,HG.out];rfl)
   have aj:g≠K:=aa.out.ngt af.out (by decide) (by rw[Rw.blk,HG.out];rfl)
   have X:Hid (¬O.has g):=aa.out.2 g (by rw[Rw.blk,HG.out];rfl)
   have ao:=zc ad
   have ap:=zc aj
   clear ad aj
   go_wp2
   go_loopg [22] l.length (fun k i wr=>∃(j:Nat),i= .int .i64 j∧j+k=l.length∧IM C K z o D O E.1 wr∧IS D S w O wr∧Fr 77 4 wr b0 r l.length ((mxE E.2 l j).flatMap epL) O)
   case atStart=>exact⟨0,rfl,by omega,af.out,aH.out,ae.out⟩
   case round=>
    obtain⟨j,rfl,hj,m',s',f'⟩:=hrel
    have I:Hid (IM C K z o D O E.1 wr):=m'
    have J:Hid (IS D S w O wr):=s'
    have M:Hid (Fr 77 4 wr b0 r l.length ((mxE E.2 l j).flatMap epL) O):=f'
    clear m' s' f'
    by_cases ab:j<l.length
    ·have U:(j:Int)<(l.length:Int):=by omega
     obtain⟨x,hx⟩:=zgd ab
     have HX:=zc hx
     have L:=M.out.1
     have ho:OwnR wr b0 77 4 r (mxE E.2 l j).length ((mxE E.2 l j).flatMap epL):=by rw[zlX];exact L
     obtain⟨g',V,H⟩:=OwnR.elem (f:=epL) (m:=4) (fun _=>rfl) ho (zlY hx)
     have eg:g'=g:=by have:=V.symm.trans HG.out;simpa using this
     subst eg
     have k0:=H 0 (by omega)
     have k3:=H 3 (by omega)
     simp only[epL,zD,Nat.add_zero,List.getElem?_cons_zero,List.getElem?_cons_succ] at k0 k3
     unfold OwnR at L
     rw[HG.out] at L
     have aQ:=L.frozenAt
     have aB:=zc L
     clear H V hx L ho
     obtain⟨Y,N⟩: ∃Y,Y=j+1:=⟨_,rfl⟩
     have ej:(j:Int)+1=(Y:Int):=by omega
     have HJ:=zc N
     clear N
     go_wp2
     go_roundg (gk-1)
     case rel=>
      refine⟨Y,rfl,by have:=HJ.out;omega,(I.out.set ao.out ap.out X.out _ _).set ao.out ap.out X.out _ _,(J.out.new aq.out _ _).new aq.out _ _,?_,M.out.2⟩
      have aO:=(aB.out.stored (j*4+0) (.int .i64 2)).1
      have au:=(aO.stored (j*4+3) (.string E.2)).1
      rw[zlW epL 4 (fun _=>rfl) _ j 0 (zD x) ⟨2,x.name,x.loc,sNone⟩ (.int .i64 2) (zlY HX.out) (by omega) rfl,zlW epL 4 (fun _=>rfl) ((mxE E.2 l j).set j ⟨2,x.name,x.loc,sNone⟩) j 3 ⟨2,x.name,x.loc,sNone⟩ (zaj E.2 x) (.string E.2) (List.getElem?_set_self (by rw[zlX];exact ab)) (by omega) rfl,List.set_set,zsQ HX.out,←HJ.out] at au
      unfold OwnR
      rw[HG.out]
      exact au
     case measure=>omega
    ·have U: ¬(j:Int)<(l.length:Int):=by omega
     have aP:j=l.length:=by omega
     subst aP
     have aG:Hid (Fr 77 4 wr b0 r l.length (l.flatMap fun e=>epL (zaj E.2 e)) O):=by show Fr _ _ _ _ _ _ _ _;rw[←zma,←zsS E.2 l];exact M.out
     go_wp2_with fail
     refine (zcw C K z o D O E.1 59 _ I.out).mono ?_
     cases ac:zd C 4 cSemi E.1 with
     |error p=>
      rintro e w4 ⟨rfl,Q⟩
      have HB:Hid (Below o w w4):=(HH.out.back J.out).trans Q
      have HX:Hid (zaB C l q= .error p):=bdE ai.out ac
      unfold Pan
      go_wp2
      refine⟨rfl,?_⟩
      rw[HX.out]
      exact⟨rfl,HB.out⟩
     |ok a4=>
      rintro e w4 ⟨rfl,S4,m,s⟩
      have ae:Hid (Fr 77 4 w4 b0 r l.length (l.flatMap fun e=>epL (zaj E.2 e)) S4):=aG.out.step I.out (by decide) s
      have aE:=zc m
      have aM:Hid (IS D S w S4 w4):=J.out.trans s
      clear m s
      have aK:=zc (bdO ai.out ac)
      have az:0<a4.pos:=by rw[(zbh ac).1];exact Nat.succ_pos _
      go_wp2
      go_loopg [39] l.length (fun k i wr=>∃(j:Nat) (S':Sv) (q':PS),i= .int .i64 j∧j+k=l.length∧zaB C l q=zK (fun e=>zm C (zaj E.2 e)) (l.drop j) (.ok q')∧0<q'.pos∧IM C K z o D S' q' wr∧IS D S w S' wr∧Fr 77 4 wr b0 r l.length (l.flatMap fun e=>epL (zaj E.2 e)) S')
      case atStart=>exact⟨0,S4,a4,rfl,by omega,aK.out,az,aE.out,aM.out,ae.out⟩
      case round=>
       obtain⟨j,S',q',rfl,hj,hy,ax,m',s',f'⟩:=hrel
       have am:=zc hy
       have I:Hid (IM C K z o D S' q' wr):=m'
       have J:Hid (IS D S w S' wr):=s'
       have M:Hid (Fr 77 4 wr b0 r l.length (l.flatMap fun e=>epL (zaj E.2 e)) S'):=f'
       clear hy m' s' f'
       by_cases ab:j<l.length
       ·have U:(j:Int)<(l.length:Int):=by omega
        obtain⟨x,hx⟩:=zgd ab
        obtain⟨g',V,H⟩:=OwnR.elem (f:=fun e=>epL (zaj E.2 e)) (m:=4) (fun _=>rfl) M.out.1 hx
        have eg:g'=g:=by have:=V.symm.trans HG.out;simpa using this
        subst eg
        have k0:=H 0 (by omega)
        have k1:=H 1 (by omega)
        have k2:=H 2 (by omega)
        have k3:=H 3 (by omega)
        simp only[epL,zaj,Nat.add_zero,List.getElem?_cons_zero,List.getElem?_cons_succ] at k0 k1 k2 k3
        have HZ:=zc (am.out.trans (ziR (fun e=>zm C (zaj E.2 e)) hx q'))
        clear H V hx
        obtain⟨Y,N⟩: ∃Y,Y=j+1:=⟨_,rfl⟩
        have ej:(j:Int)+1=(Y:Int):=by omega
        rw[←N] at HZ
        have ad:=I.out.lt
        have HJ:=zc N
        clear N
        go_wp2_with fail
        refine (zfF C K z o D S' q' (zaj E.2 x) _ (I.out.alloc _) ax).mono ?_
        cases hn:zm C (zaj E.2 x) q' with
        |error p=>
         rintro e wy ⟨rfl,Q⟩
         have HB:Hid (Below o w wy):=(HH.out.back (J.out.alloc _)).trans Q
         have HX:Hid (zaB C l q= .error p):=by show _=_;rw[HZ.out,hn];exact zhk _ _ _
         unfold Pan
         go_wp2
         refine⟨rfl,?_⟩
         rw[HX.out]
         exact⟨rfl,HB.out⟩
        |ok ay=>
         rintro e wy ⟨rfl,Sy,m,s⟩
         have aL:=zc m
         have aN:Hid (IS D S w Sy wy):=(J.out.alloc _).trans s
         have aI:Hid (Fr 77 4 wy b0 r l.length (l.flatMap fun e=>epL (zaj E.2 e)) Sy):=(M.out.later ((Below.refl _ _).alloc (Nat.le_refl _) _)).step (I.out.alloc _) (by decide) s
         have aJ:Hid (zaB C l q=zK (fun e=>zm C (zaj E.2 e)) (l.drop Y) (.ok ay)):=by show _=_;rw[HZ.out,hn]
         have aF:Hid (0<ay.pos):=by show 0<ay.pos;rw[zlU hn];exact ax
         clear m s
         go_wp2
         go_roundg (gk-1)
         case rel=>exact⟨Y,Sy,ay,rfl,by have:=HJ.out;omega,aJ.out,aF.out,aL.out,aN.out,aI.out⟩
         case measure=>omega
       ·have U: ¬(j:Int)<(l.length:Int):=by omega
        have HZ:Hid (zaB C l q= .ok q'):=by show _=_;rw[am.out,List.drop_eq_nil_of_le (by omega)];rfl
        go_wp2
        go_end0
        rw[HZ.out]
        exact⟨rfl,S',I.out,J.out⟩
theorem zsZ (C:Cx) (E o j z b0:Nat) (r:Rw) (S D:Sv) (J q:PS) (l:List Ep) (w wc:World) (Q:IM C E o j z S J w) (h:IM C E o j z D q wc) (O:IS z S w D wc) (X:zb0 C) (M:l.length≤4000) (L:l.length≠0) (H:Fr 77 4 wc b0 r l.length (l.flatMap (fun e=>epL (zD e))) D) (U:w.heap.size≤b0):
  Calls Tryz.prog 117 #[.pointer (some ⟨z,0,none⟩),.slice r.a l.length r.cap] wc (zT C E o j z (zaB C l q) id (fun _=>.tuple #[]) S w):=by
 rcases H.1.nil_or with ⟨_,_,e⟩|⟨g,I⟩
 ·exact absurd e L
 ·have N:w.heap.size≤g:=Nat.le_trans U (H.1.typed (show r.blk=some g by rw[Rw.blk,I];rfl)).1
  rw[I]
  cases K:isT C q.pos 1 zH with
  |true=>exact zsY C E o j z b0 g r S D J q l w wc Q h O X M H I N K
  |false=>
   cases V:za2 l with
   |true=>exact zsX C E o j z b0 g r S D J q l w wc Q h O M H I K V
   |false=>exact zsW C E o j z b0 g r S D J q l w wc Q h O M H I K V
theorem zta {C:Cx} {k:Int} {n:ByteArray} {q b:PS} (h:zE C k n q= .ok b):b={q with st:=q.st++[⟨k,n,(q.ex.length:Int)-1⟩]}:=by
 unfold zE at h
 split at h
 ·cases h
 ·cases h
  rfl
theorem ziT {C:Cx} {k:Int} {n s:ByteArray} {q b:PS} (h:stmtI C k n s q= .ok b) (I:0<s.size):(∃l e,b.st=l++[⟨k,n,e⟩])∧0<b.pos:=by
 obtain⟨a,H,E⟩:=ze h
 obtain⟨c,o,j⟩:=ze E
 have z:=zjX _ o
 have D:=zta j
 subst D
 refine⟨⟨_,_,rfl⟩,?_⟩
 rw[z]
 show 0<a.pos+s.size
 omega
theorem ztb {C:Cx} {k:Int} {q b:PS} (h:letJ C k q= .ok b):(∃l e,b.st=l++[⟨k,(zf C q.pos).text,e⟩])∧0<b.pos:=by
 obtain⟨a,j,o⟩:=ze h
 obtain⟨c,D,z⟩:=ze o
 have:=ziT z (by decide)
 rw[(zaX j).1] at this
 exact this
theorem ztc {C:Cx} {q b:PS} (h:fnI C q= .ok b):(∃l e,b.st=l++[⟨2,(zf C q.pos).text,e⟩])∧0<b.pos:=by
 obtain⟨a,z,D⟩:=ze h
 obtain⟨c,E,j⟩:=ze D
 obtain⟨d,H,o⟩:=ze j
 have:=ziT o (by decide)
 rw[(zaX z).1] at this
 exact this
theorem zmb (C:Cx) (E o j z:Nat) (S:Sv) (q:PS) (l:List Sm) (k e:Int) (n:ByteArray) (w:World) (h:IM C E o j z S q w) (I:q.st=l++[⟨k,n,e⟩]) (D:n.size≤281474976710656) (H:0<q.pos):
  Calls Tryz.prog 120 #[.pointer (some ⟨z,0,none⟩)] w (zT C E o j z (zm C ⟨1,n,n,sNone⟩ q) id (fun _=>.tuple #[]) S w):=zoU C E o j z S q l ⟨k,n,e⟩ w h I D H
def zat (C:Cx) (q:PS):PR:=
 if isT C q.pos 4 zF then bd (zay C true (adv q) []) fun a=>zaB C a.2 a.1
 else if isT C q.pos 4 zp then bd (zd C 1 zH (adv q)) fun a=>bd (zy C a) fun b=>bd (zd C 4 cSemi b.1) fun c=>zm C ⟨3,sNone,sNone,b.2⟩ c
 else if isT C q.pos 1 sDefault then bd (stmtI C 1 zbp cSemi (adv q)) fun a=>zm C ⟨1,sDefault,zbp,sNone⟩ a
 else if isT C q.pos 1 sLet then bd (letJ C 1 (adv q)) fun a=>zm C ⟨1,(zf C (q.pos+1)).text,(zf C (q.pos+1)).text,sNone⟩ a
 else if isT C q.pos 1 sFunction then bd (fnI C (adv q)) fun a=>zm C ⟨1,(zf C (q.pos+1)).text,(zf C (q.pos+1)).text,sNone⟩ a
 else .error (zu C q.pos)
theorem ztd (C:Cx) (H o j D:Nat) (S:Sv) (q:PS) (w:World) (h:IM C H o j D S q w) (hC:zb0 C) (h1:isT C q.pos 4 zF=true):
  Calls Tryz.prog 91 #[.pointer (some ⟨D,0,none⟩)] w (zT C H o j D (zat C q) id (fun _=>.tuple #[]) S w):=by
 have M:=zc h
 have HY:Hid (zat C q=bd (zay C true (adv q) []) fun a=>zaB C a.2 a.1):=by show _=_;rw[zat,h1];rfl
 clear h
 go_enter Tryz.func91,Tryz.ntmps91
 go_wp2_with fail
 refine (zP C H o j D S q 4 zF _ M.out (by decide)).mono ?_
 rintro e w1 ⟨rfl,m,s⟩
 rw[h1] at m ⊢
 have Q:=zc m
 have z:=zc s
 clear m s
 go_wp2_with fail
 refine (zsP C H o j D S (adv q) _ Q.out).mono ?_
 cases I:zay C true (adv q) [] with
 |error p=>
  rintro e w3 ⟨rfl,X⟩
  have V:Hid (Below j w w3):=(M.out.back z.out).trans X
  have J:Hid (zat C q= .error p):=bdE HY.out I
  unfold Pan
  go_wp2
  refine⟨rfl,?_⟩
  rw[J.out]
  exact⟨rfl,V.out⟩
 |ok L=>
  rintro e w3 ⟨r,S3,rfl,m,s,f,l0,l1⟩
  have Y:=zc m
  have N:Hid (IS D S w S3 w3):=z.out.trans s
  have U:=zc f
  clear m s f
  have E:=zc (bdO HY.out I)
  go_wp2_with fail
  refine (zsZ C H o j D _ r S S3 q L.1 L.2 w _ M.out Y.out N.out hC l1 (by omega) U.out z.out.size).mono ?_
  cases K:zaB C L.2 L.1 with
  |error p=>
   rintro e w4 ⟨rfl,X⟩
   have V:=zc X
   have J:=zc (E.out.trans K)
   unfold Pan
   go_wp2
   refine⟨rfl,?_⟩
   rw[J.out]
   exact⟨rfl,V.out⟩
  |ok a4=>
   rintro e w4 ⟨rfl,S4,m,s⟩
   have O:=zc m
   have Z:=zc s
   clear m s
   have J:=zc (E.out.trans K)
   go_wp2
   go_end0
   rw[J.out]
   exact⟨rfl,S4,O.out,Z.out⟩
theorem zte (C:Cx) (D o j z:Nat) (S:Sv) (q:PS) (w:World) (h:IM C D o j z S q w) (hC:zb0 C) (h1:isT C q.pos 4 zF=false) (h2:isT C q.pos 4 zp=true):
  Calls Tryz.prog 91 #[.pointer (some ⟨z,0,none⟩)] w (zT C D o j z (zat C q) id (fun _=>.tuple #[]) S w):=by
 have K:=zc h
 have HY:Hid (zat C q=bd (zd C 1 zH (adv q)) fun a=>bd (zy C a) fun b=>bd (zd C 4 cSemi b.1) fun c=>zm C ⟨3,sNone,sNone,b.2⟩ c):=by show _=_;rw[zat,h1,h2];rfl
 clear h
 go_enter Tryz.func91,Tryz.ntmps91
 go_wp2_with fail
 refine (zP C D o j z S q 4 zF _ K.out (by decide)).mono ?_
 rintro e w1 ⟨rfl,m,s⟩
 rw[h1] at m ⊢
 have af:=zc m
 have ab:=zc s
 clear m s
 go_wp2_with fail
 refine (zP C D o j z S q 4 zp _ af.out (by decide)).mono ?_
 rintro e w2 ⟨rfl,m,s⟩
 rw[h2] at m ⊢
 have ag:=zc m
 have Z:Hid (IS z S w S w2):=ab.out.trans s
 clear m s
 go_wp2_with fail
 refine (zeU C D o j z S (adv q) zH _ ag.out).mono ?_
 cases O:zd C 1 zH (adv q) with
 |error p=>
  rintro e w3 ⟨rfl,J⟩
  have I:Hid (Below j w w3):=(K.out.back Z.out).trans J
  have H:Hid (zat C q= .error p):=bdE HY.out O
  unfold Pan
  go_wp2
  refine⟨rfl,?_⟩
  rw[H.out]
  exact⟨rfl,I.out⟩
 |ok a3=>
  rintro e w3 ⟨rfl,S3,m,s⟩
  have aj:=zc m
  have L:Hid (IS z S w S3 w3):=Z.out.trans s
  clear m s
  have M:=zc (bdO HY.out O)
  go_wp2_with fail
  refine (zgA C D o j z S3 a3 _ aj.out hC).mono ?_
  cases X:zy C a3 with
  |error p=>
   rintro e w4 ⟨rfl,J⟩
   have I:Hid (Below j w w4):=(K.out.back L.out).trans J
   have H:Hid (zat C q= .error p):=bdE M.out X
   unfold Pan
   go_wp2
   refine⟨rfl,?_⟩
   rw[H.out]
   exact⟨rfl,I.out⟩
  |ok a4=>
   rintro e w4 ⟨rfl,S4,m,s⟩
   have ae:=zc m
   have aa:Hid (IS z S w S4 w4):=L.out.trans s
   clear m s
   have U:=zc (bdO M.out X)
   go_wp2_with fail
   refine (zcw C D o j z S4 a4.1 59 _ ae.out).mono ?_
   cases E:zd C 4 cSemi a4.1 with
   |error p=>
    rintro e w5 ⟨rfl,J⟩
    have I:Hid (Below j w w5):=(K.out.back aa.out).trans J
    have H:Hid (zat C q= .error p):=bdE U.out E
    unfold Pan
    go_wp2
    refine⟨rfl,?_⟩
    rw[H.out]
    exact⟨rfl,I.out⟩
   |ok a5=>
    rintro e w5 ⟨rfl,S5,m,s⟩
    have ac:=zc m
    have Q:Hid (IS z S w S5 w5):=aa.out.trans s
    clear m s
    have N:=zc (bdO U.out E)
    have V:0<a5.pos:=by rw[(zbh E).1];exact Nat.succ_pos _
    go_wp2_with fail
    refine (zfF C D o j z S5 a5 ⟨3,sNone,sNone,a4.2⟩ _ ac.out V).mono ?_
    cases Y:zm C ⟨3,sNone,sNone,a4.2⟩ a5 with
    |error p=>
     rintro e w6 ⟨rfl,J⟩
     have I:Hid (Below j w w6):=(K.out.back Q.out).trans J
     have H:Hid (zat C q= .error p):=N.out.trans Y
     unfold Pan
     go_wp2
     refine⟨rfl,?_⟩
     rw[H.out]
     exact⟨rfl,I.out⟩
    |ok a6=>
     rintro e w6 ⟨rfl,S6,m,s⟩
     have ah:=zc m
     have ad:Hid (IS z S w S6 w6):=Q.out.trans s
     clear m s
     have ai:=zc (N.out.trans Y)
     go_wp2
     go_end0
     rw[ai.out]
     exact⟨rfl,S6,ah.out,ad.out⟩
theorem ztf (C:Cx) (D o j z:Nat) (S:Sv) (q:PS) (w:World) (h:IM C D o j z S q w) (h1:isT C q.pos 4 zF=false) (h2:isT C q.pos 4 zp=false) (h3:isT C q.pos 1 sDefault=true):
  Calls Tryz.prog 91 #[.pointer (some ⟨z,0,none⟩)] w (zT C D o j z (zat C q) id (fun _=>.tuple #[]) S w):=by
 have N:=zc h
 have HY:Hid (zat C q=bd (stmtI C 1 zbp cSemi (adv q)) fun a=>zm C ⟨1,sDefault,zbp,sNone⟩ a):=by show _=_;rw[zat,h1,h2,h3];rfl
 clear h
 go_enter Tryz.func91,Tryz.ntmps91
 go_wp2_with fail
 refine (zP C D o j z S q 4 zF _ N.out (by decide)).mono ?_
 rintro e w1 ⟨rfl,m,s⟩
 rw[h1] at m ⊢
 have X:=zc m
 have M:=zc s
 clear m s
 go_wp2_with fail
 refine (zP C D o j z S q 4 zp _ X.out (by decide)).mono ?_
 rintro e w2 ⟨rfl,m,s⟩
 rw[h2] at m ⊢
 have Y:=zc m
 have ab:Hid (IS z S w S w2):=M.out.trans s
 clear m s
 go_wp2_with fail
 refine (zP C D o j z S q 1 sDefault _ Y.out (by decide)).mono ?_
 rintro e w3 ⟨rfl,m,s⟩
 rw[h3] at m ⊢
 have aa:=zc m
 have H:Hid (IS z S w S w3):=ab.out.trans s
 clear m s
 go_wp2_with fail
 refine (zer C D o j z S (adv q) 1 zbp cSemi _ aa.out (by decide) (by decide)).mono ?_
 cases E:stmtI C 1 zbp cSemi (adv q) with
 |error p=>
  rintro e Q ⟨rfl,hb⟩
  have HB:Hid (Below j w Q):=(N.out.back H.out).trans hb
  have HX:Hid (zat C q= .error p):=bdE HY.out E
  unfold Pan
  go_wp2
  refine⟨rfl,?_⟩
  rw[HX.out]
  exact⟨rfl,HB.out⟩
 |ok a4=>
  rintro e Q ⟨rfl,S4,m,s⟩
  have V:=zc m
  have L:Hid (IS z S w S4 Q):=H.out.trans s
  clear m s
  have J:=zc (bdO HY.out E)
  have K:=(ziT E (by decide)).2
  go_wp2_with fail
  refine (zfF C D o j z S4 a4 ⟨1,sDefault,zbp,sNone⟩ _ V.out K).mono ?_
  cases I:zm C ⟨1,sDefault,zbp,sNone⟩ a4 with
  |error p=>
   rintro e w5 ⟨rfl,hb⟩
   have HB:Hid (Below j w w5):=(N.out.back L.out).trans hb
   have HX:Hid (zat C q= .error p):=J.out.trans I
   unfold Pan
   go_wp2
   refine⟨rfl,?_⟩
   rw[HX.out]
   exact⟨rfl,HB.out⟩
  |ok a5=>
   rintro e w5 ⟨rfl,S5,m,s⟩
   have U:=zc m
   have Z:Hid (IS z S w S5 w5):=L.out.trans s
   clear m s
   have O:=zc (J.out.trans I)
   go_wp2
   go_end0
   rw[O.out]
   exact⟨rfl,S5,U.out,Z.out⟩
theorem ztg (C:Cx) (D o j z:Nat) (S:Sv) (q:PS) (w:World) (h:IM C D o j z S q w) (hC:zb0 C) (h1:isT C q.pos 4 zF=false) (h2:isT C q.pos 4 zp=false) (h3:isT C q.pos 1 sDefault=false) (h4:isT C q.pos 1 sLet=true):
  Calls Tryz.prog 91 #[.pointer (some ⟨z,0,none⟩)] w (zT C D o j z (zat C q) id (fun _=>.tuple #[]) S w):=by
 have O:=zc h
 have HY:Hid (zat C q=bd (letJ C 1 (adv q)) fun a=>zm C ⟨1,(zf C (q.pos+1)).text,(zf C (q.pos+1)).text,sNone⟩ a):=by show _=_;rw[zat,h1,h2,h3,h4];rfl
 clear h
 go_enter Tryz.func91,Tryz.ntmps91
 go_wp2_with fail
 refine (zP C D o j z S q 4 zF _ O.out (by decide)).mono ?_
 rintro e w1 ⟨rfl,m,s⟩
 rw[h1] at m ⊢
 have Z:=zc m
 have N:=zc s
 clear m s
 go_wp2_with fail
 refine (zP C D o j z S q 4 zp _ Z.out (by decide)).mono ?_
 rintro e w2 ⟨rfl,m,s⟩
 rw[h2] at m ⊢
 have aa:=zc m
 have af:Hid (IS z S w S w2):=N.out.trans s
 clear m s
 go_wp2_with fail
 refine (zP C D o j z S q 1 sDefault _ aa.out (by decide)).mono ?_
 rintro e w3 ⟨rfl,m,s⟩
 rw[h3] at m ⊢
 have ae:=zc m
 have Q:Hid (IS z S w S w3):=af.out.trans s
 clear m s
 go_wp2_with fail
 refine (zP C D o j z S q 1 sLet _ ae.out (by decide)).mono ?_
 rintro e w4 ⟨rfl,m,s⟩
 rw[h4] at m ⊢
 have Y:=zc m
 have M:Hid (IS z S w S w4):=Q.out.trans s
 clear m s
 go_wp2_with fail
 refine (zhV C D o j z S (adv q) _ Y.out).mono ?_
 cases E:letJ C 1 (adv q) with
 |error p=>
  rintro e w5 ⟨rfl,hb⟩
  have HB:Hid (Below j w w5):=(O.out.back M.out).trans hb
  have HX:Hid (zat C q= .error p):=bdE HY.out E
  unfold Pan
  go_wp2
  refine⟨rfl,?_⟩
  rw[HX.out]
  exact⟨rfl,HB.out⟩
 |ok a5=>
  rintro e w5 ⟨rfl,S5,m,s⟩
  have V:=zc m
  have I:Hid (IS z S w S5 w5):=M.out.trans s
  clear m s
  have H:=zc (bdO HY.out E)
  obtain⟨⟨l,e,J⟩,K⟩:=ztb E
  have ac:=zc J
  clear J
  go_wp2_with fail
  refine (zmb C D o j z S5 a5 l _ _ (zf C (q.pos+1)).text _ V.out ac.out (hC _) K).mono ?_
  cases L:zm C ⟨1,(zf C (q.pos+1)).text,(zf C (q.pos+1)).text,sNone⟩ a5 with
  |error p=>
   rintro e U ⟨rfl,hb⟩
   have HB:Hid (Below j w U):=(O.out.back I.out).trans hb
   have HX:Hid (zat C q= .error p):=H.out.trans L
   unfold Pan
   go_wp2
   refine⟨rfl,?_⟩
   rw[HX.out]
   exact⟨rfl,HB.out⟩
  |ok a6=>
   rintro e U ⟨rfl,S6,m,s⟩
   have ab:=zc m
   have X:Hid (IS z S w S6 U):=I.out.trans s
   clear m s
   have ad:=zc (H.out.trans L)
   go_wp2
   go_end0
   rw[ad.out]
   exact⟨rfl,S6,ab.out,X.out⟩
theorem zth (C:Cx) (D o j z:Nat) (S:Sv) (q:PS) (w:World) (h:IM C D o j z S q w) (hC:zb0 C) (h1:isT C q.pos 4 zF=false) (h2:isT C q.pos 4 zp=false) (h3:isT C q.pos 1 sDefault=false) (h4:isT C q.pos 1 sLet=false) (h5:isT C q.pos 1 sFunction=true):
  Calls Tryz.prog 91 #[.pointer (some ⟨z,0,none⟩)] w (zT C D o j z (zat C q) id (fun _=>.tuple #[]) S w):=by
 have O:=zc h
 have HY:Hid (zat C q=bd (fnI C (adv q)) fun a=>zm C ⟨1,(zf C (q.pos+1)).text,(zf C (q.pos+1)).text,sNone⟩ a):=by show _=_;rw[zat,h1,h2,h3,h4,h5];rfl
 clear h
 go_enter Tryz.func91,Tryz.ntmps91
 go_wp2_with fail
 refine (zP C D o j z S q 4 zF _ O.out (by decide)).mono ?_
 rintro e w1 ⟨rfl,m,s⟩
 rw[h1] at m ⊢
 have aa:=zc m
 have N:=zc s
 clear m s
 go_wp2_with fail
 refine (zP C D o j z S q 4 zp _ aa.out (by decide)).mono ?_
 rintro e w2 ⟨rfl,m,s⟩
 rw[h2] at m ⊢
 have ab:=zc m
 have ag:Hid (IS z S w S w2):=N.out.trans s
 clear m s
 go_wp2_with fail
 refine (zP C D o j z S q 1 sDefault _ ab.out (by decide)).mono ?_
 rintro e w3 ⟨rfl,m,s⟩
 rw[h3] at m ⊢
 have ah:=zc m
 have U:Hid (IS z S w S w3):=ag.out.trans s
 clear m s
 go_wp2_with fail
 refine (zP C D o j z S q 1 sLet _ ah.out (by decide)).mono ?_
 rintro e w4 ⟨rfl,m,s⟩
 rw[h4] at m ⊢
 have Z:=zc m
 have ai:Hid (IS z S w S w4):=U.out.trans s
 clear m s
 go_wp2_with fail
 refine (zP C D o j z S q 1 sFunction _ Z.out (by decide)).mono ?_
 rintro e w5 ⟨rfl,m,s⟩
 rw[h5] at m ⊢
 have X:=zc m
 have J:Hid (IS z S w S w5):=ai.out.trans s
 clear m s
 go_wp2_with fail
 refine (zhW C D o j z S (adv q) _ X.out).mono ?_
 cases E:fnI C (adv q) with
 |error p=>
  rintro e V ⟨rfl,hb⟩
  have HB:Hid (Below j w V):=(O.out.back J.out).trans hb
  have HX:Hid (zat C q= .error p):=bdE HY.out E
  unfold Pan
  go_wp2
  refine⟨rfl,?_⟩
  rw[HX.out]
  exact⟨rfl,HB.out⟩
 |ok a6=>
  rintro e V ⟨rfl,S6,m,s⟩
  have ac:=zc m
  have I:Hid (IS z S w S6 V):=J.out.trans s
  clear m s
  have M:=zc (bdO HY.out E)
  obtain⟨⟨l,e,K⟩,L⟩:=ztc E
  have ad:=zc K
  clear K
  go_wp2_with fail
  refine (zmb C D o j z S6 a6 l _ _ (zf C (q.pos+1)).text _ ac.out ad.out (hC _) L).mono ?_
  cases H:zm C ⟨1,(zf C (q.pos+1)).text,(zf C (q.pos+1)).text,sNone⟩ a6 with
  |error p=>
   rintro e Y ⟨rfl,hb⟩
   have HB:Hid (Below j w Y):=(O.out.back I.out).trans hb
   have HX:Hid (zat C q= .error p):=M.out.trans H
   unfold Pan
   go_wp2
   refine⟨rfl,?_⟩
   rw[HX.out]
   exact⟨rfl,HB.out⟩
  |ok a7=>
   rintro e Y ⟨rfl,S7,m,s⟩
   have ae:=zc m
   have af:Hid (IS z S w S7 Y):=I.out.trans s
   clear m s
   have Q:=zc (M.out.trans H)
   go_wp2
   go_end0
   rw[Q.out]
   exact⟨rfl,S7,ae.out,af.out⟩
theorem zti (C:Cx) (D o j z:Nat) (S:Sv) (q:PS) (w:World) (h:IM C D o j z S q w) (h1:isT C q.pos 4 zF=false) (Y:isT C q.pos 4 zp=false) (X:isT C q.pos 1 sDefault=false) (V:isT C q.pos 1 sLet=false) (Z:isT C q.pos 1 sFunction=false):
  Calls Tryz.prog 91 #[.pointer (some ⟨z,0,none⟩)] w (zT C D o j z (zat C q) id (fun _=>.tuple #[]) S w):=by
 have U:=zc h
 have HY:Hid (zat C q= .error (zu C q.pos)):=by show _=_;rw[zat,h1,Y,X,V,Z];rfl
 clear h
 go_enter Tryz.func91,Tryz.ntmps91
 go_wp2_with fail
 refine (zP C D o j z S q 4 zF _ U.out (by decide)).mono ?_
 rintro e w1 ⟨rfl,m,s⟩
 rw[h1] at m ⊢
 have K:=zc m
 have H:=zc s
 clear m s
 go_wp2_with fail
 refine (zP C D o j z S q 4 zp _ K.out (by decide)).mono ?_
 rintro e w2 ⟨rfl,m,s⟩
 rw[Y] at m ⊢
 have L:=zc m
 have N:Hid (IS z S w S w2):=H.out.trans s
 clear m s
 go_wp2_with fail
 refine (zP C D o j z S q 1 sDefault _ L.out (by decide)).mono ?_
 rintro e w3 ⟨rfl,m,s⟩
 rw[X] at m ⊢
 have O:=zc m
 have I:Hid (IS z S w S w3):=N.out.trans s
 clear m s
 go_wp2_with fail
 refine (zP C D o j z S q 1 sLet _ O.out (by decide)).mono ?_
 rintro e w4 ⟨rfl,m,s⟩
 rw[V] at m ⊢
 have J:=zc m
 have Q:Hid (IS z S w S w4):=I.out.trans s
 clear m s
 go_wp2_with fail
 refine (zP C D o j z S q 1 sFunction _ J.out (by decide)).mono ?_
 rintro e w5 ⟨rfl,m,s⟩
 rw[Z] at m ⊢
 have E:=zc m
 have M:Hid (IS z S w S w5):=Q.out.trans s
 clear m s
 go_wp2_with fail
 refine (zeT C D o j z S q _ E.out).mono ?_
 rintro e wz ⟨rfl,hb⟩
 have HB:Hid (Below j w wz):=(U.out.back M.out).trans (hb.mono E.out.mem.base)
 have HX:Hid (zat C q= .error (zu C q.pos)):=HY.out
 unfold Pan
 go_wp2
 refine⟨rfl,?_⟩
 rw[HX.out]
 exact⟨rfl,HB.out⟩
theorem ztj (C:Cx) (D o j z:Nat) (S:Sv) (q:PS) (w:World) (h:IM C D o j z S q w) (I:zb0 C):
  Calls Tryz.prog 91 #[.pointer (some ⟨z,0,none⟩)] w (zT C D o j z (zat C q) id (fun _=>.tuple #[]) S w):=by
 cases E:isT C q.pos 4 zF with
 |true=>exact ztd C D o j z S q w h I E
 |false=>
  cases H:isT C q.pos 4 zp with
  |true=>exact zte C D o j z S q w h I E H
  |false=>
   cases J:isT C q.pos 1 sDefault with
   |true=>exact ztf C D o j z S q w h E H J
   |false=>
    cases K:isT C q.pos 1 sLet with
    |true=>exact ztg C D o j z S q w h I E H J K
    |false=>
     cases L:isT C q.pos 1 sFunction with
     |true=>exact zth C D o j z S q w h I E H J K L
     |false=>exact zti C D o j z S q w h E H J K L
end Go.Proofs.YthfeoomfiafldaaGreat
