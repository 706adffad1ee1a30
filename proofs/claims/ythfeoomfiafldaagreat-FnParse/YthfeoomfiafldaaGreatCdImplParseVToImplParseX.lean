/-
  What ContainsFunc over Exps answers,and a row of Exps whose elements are written: the walks.
  What exportNames of impl's parser answers: the walks. (It writes into the row that it is handed: so what is told is told from a world on in which that row was not yet there.)
  What exportItem of impl's parser answers: the walks.
-/
import Derived.Laws.OwnMore
import Derived.Test.YthfeoomfiafldaaGreatCdImplParseU
namespace Go.Proofs.YthfeoomfiafldaaGreat
set_option maxRecDepth 100000
set_option maxHeartbeats 3200000
open Go.RowKit Go.PlainAid Go.Sort
theorem zlW {α:Type} (f:α→List Value) (m:Nat) (o: ∀x,(f x).length=m): ∀(l:List α) (j i:Nat) (x y:α) (v:Value),l[j]? =some x→i<m→f y=(f x).set i v→(l.flatMap f).set (j*m+i) v=(l.set j y).flatMap f:=by
 intro l
 induction l with
 |nil=>intro j i x y v h;simp at h
 |cons z l H=>
  intro j i x y v h E D
  match j with
  |0=>
   simp only[List.getElem?_cons_zero,Option.some.injEq] at h
   subst h
   rw[List.flatMap_cons,Nat.zero_mul,Nat.zero_add,List.set_append_left _ _ (by rw[o];exact E),List.set_cons_zero,List.flatMap_cons,D]
  |j+1=>
   simp only[List.getElem?_cons_succ] at h
   rw[List.flatMap_cons,List.set_append_right _ _ (by rw[o,Nat.succ_mul];omega),o,List.set_cons_succ,List.flatMap_cons,←H j i x y v h E D]
   congr 2
   rw[Nat.succ_mul]
   omega
def mxE (s:ByteArray) (l:List Ep) (j:Nat):List Ep:=(l.take j).map (zaj s)++(l.drop j).map zD
theorem zlX (s:ByteArray) (l:List Ep) (j:Nat):(mxE s l j).length=l.length:=by simp[mxE];omega
theorem zlY {s:ByteArray} {l:List Ep} {j:Nat} {x:Ep} (h:l[j]? =some x):(mxE s l j)[j]? =some (zD x):=by
 obtain⟨o,rfl⟩:=List.getElem?_eq_some_iff.1 h
 have z:((l.take j).map (zaj s)).length=j:=by simp;omega
 rw[mxE,List.getElem?_append_right (by omega),z,Nat.sub_self,List.drop_eq_getElem_cons o]
 rfl
theorem zsQ {s:ByteArray} {l:List Ep} {j:Nat} {x:Ep} (h:l[j]? =some x):(mxE s l j).set j (zaj s x)=mxE s l (j+1):=by
 obtain⟨o,rfl⟩:=List.getElem?_eq_some_iff.1 h
 have z:((l.take j).map (zaj s)).length=j:=by simp;omega
 rw[mxE,List.set_append_right _ _ (by omega),z,Nat.sub_self,List.drop_eq_getElem_cons o,List.map_cons,List.set_cons_zero,mxE,List.take_succ_eq_append_getElem o,List.map_append,List.append_assoc]
 rfl
theorem zsR (s:ByteArray) (l:List Ep):mxE s l 0=l.map zD:=by simp[mxE]
theorem zsS (s:ByteArray) (l:List Ep):mxE s l l.length=l.map (zaj s):=by simp[mxE]
theorem zsT (x:Ep) (w:World):
  Calls Tryz.prog 139 #[epV x] w fun e j=>e= .returned (.bool (x.loc.toList==[100,101,102,97,117,108,116]))∧Below w.heap.size w j:=by
 unfold epV
 cases o:(x.loc.toList==[100,101,102,97,117,108,116]) with
 |true=>
  go_enter Tryz.func139,Tryz.ntmps139
  go_wp2
  go_ret
  exact⟨rfl,(Below.refl _ _).alloc (Nat.le_refl _) _⟩
 |false=>
  go_enter Tryz.func139,Tryz.ntmps139
  go_wp2
  go_ret
  exact⟨rfl,(Below.refl _ _).alloc (Nat.le_refl _) _⟩
theorem zsU {l:List Ep} {j:Nat} {x:Ep} (h:l[j]? =some x):za2 (l.drop j)=((x.loc.toList==[100,101,102,97,117,108,116])||za2 (l.drop (j+1))):=by
 obtain⟨o,rfl⟩:=List.getElem?_eq_some_iff.1 h
 rw[List.drop_eq_getElem_cons o]
 simp only[za2,List.any_cons]
theorem zsV (z g:Nat) (r:Rw) (l:List Ep) (w:World) (h:OwnR w z 77 4 r l.length (l.flatMap fun e=>epL (zD e))) (hl:l.length≤4000) (X:r.a=some ⟨g,0,none⟩):
  Calls Tryz.prog 147 #[.slice (some ⟨g,0,none⟩) l.length r.cap,.func (.func 139) #[] #[]] w fun e w'=>(∃v:Int,e= .returned (.int .i64 v)∧decide (0≤v)=za2 l)∧Below w.heap.size w w':=by
 have HO:=zc h
 have O:=zc X
 clear h X
 go_enter Tryz.func147,Tryz.ntmps147
 go_wp2
 go_loopg [8] (l.length+1) (fun k i wr=>∃j:Nat,i= .int .i64 j∧j+k=l.length+1∧za2 (l.drop j)=za2 l∧Below w.heap.size w wr)
 case atStart=>exact⟨0,rfl,by omega,by simp,Below.refl _ _⟩
 case round=>
  obtain⟨j,rfl,hj,he,hb⟩:=hrel
  have Q:=zc he
  have L:=zc hb
  clear he hb
  by_cases N:j<l.length
  ·have D:(j:Int)<(l.length:Int):=by omega
   obtain⟨x,M⟩:=zgd N
   have U:=zc (HO.out.keep fun k g=>L.out.block k (HO.out.typed g).2.1)
   obtain⟨g',E,o⟩:=OwnR.elem (f:=fun e=>epL (zD e)) (m:=4) (fun _=>rfl) U.out M
   have eg:g'=g:=by have:=E.symm.trans O.out;simpa using this
   subst eg
   have k0:=o 0 (by omega)
   have k1:=o 1 (by omega)
   have k2:=o 2 (by omega)
   have k3:=o 3 (by omega)
   simp only[epL,zD,Nat.add_zero,List.getElem?_cons_zero,List.getElem?_cons_succ] at k0 k1 k2 k3
   have V:=zc (zsU M)
   clear o E M
   obtain⟨K,J⟩: ∃K,K=j+1:=⟨_,rfl⟩
   have ej:(j:Int)+1=(K:Int):=by omega
   have Z:=zc J
   clear J
   go_wp2_with fail
   refine (zsT (zD x) _).mono ?_
   rintro e w1 ⟨rfl,H⟩
   have I:Hid (Below w.heap.size w w1):=L.out.trans (H.mono L.out.size)
   clear H
   rw[show (zD x).loc=x.loc from rfl]
   cases Y:(x.loc.toList==[100,101,102,97,117,108,116]) with
   |true=>
    go_wp2
    go_ret
    refine⟨⟨_,rfl,?_⟩,I.out⟩
    rw[←Q.out,V.out,Y]
    simp
   |false=>
    go_wp2
    go_roundg (gk-1)
    case rel=>
     refine⟨K,rfl,by have:=Z.out;omega,?_,I.out⟩
     rw[←Q.out,V.out,Y,Z.out]
     simp
    case measure=>omega
  ·have D: ¬(j:Int)<(l.length:Int):=by omega
   go_wp2
   go_ret
   refine⟨⟨_,rfl,?_⟩,L.out⟩
   rw[←Q.out,List.drop_eq_nil_of_le (by omega)]
   rfl
theorem zlZ (j g:Nat) (r:Rw) (l:List Ep) (w:World) (h:OwnR w j 77 4 r l.length (l.flatMap fun e=>epL (zD e))) (K:l.length≤4000) (D:r.a=some ⟨g,0,none⟩):
  Calls Tryz.prog 140 #[.slice (some ⟨g,0,none⟩) l.length r.cap,.func (.func 139) #[] #[]] w fun e I=>e= .returned (.bool (za2 l))∧Below w.heap.size w I:=by
 have L:=zc h
 have o:=zc D
 clear h D
 go_enter Tryz.func140,Tryz.ntmps140
 go_wp2_with fail
 refine (zsV j g r l _ L.out K o.out).mono ?_
 rintro e M ⟨⟨v,rfl,z⟩,E⟩
 have J:=zc z
 have H:=zc E
 clear z E
 go_wp2
 go_ret
 exact⟨zq J.out,H.out⟩
def zaB (C:Cx) (l:List Ep) (q:PS):PR:=
 if isT C q.pos 1 zH||za2 l then bd (zd C 1 zH q) fun a=>bd (zy C a) fun b=>bd (zd C 4 cSemi b.1) fun c=>zK (fun e=>zm C (zaj b.2 e)) l (.ok c)
 else bd (zd C 4 cSemi q) fun c=>zK (fun e=>zm C (zD e)) l (.ok c)
theorem zma (X:Ep→Ep) (l:List Ep):(l.map X).flatMap epL=l.flatMap fun e=>epL (X e):=by rw[List.flatMap_map]
theorem zsW (C:Cx) (J z o D b0 g:Nat) (r:Rw) (S H:Sv) (q0 q:PS) (l:List Ep) (w wc:World) (hh:IM C J z o D S q0 w) (h:IM C J z o D H q wc) (h0:IS D S w H wc) (hl:l.length≤4000) (hf:Fr 77 4 wc b0 r l.length (l.flatMap (fun e=>epL (zD e))) H) (hg:r.a=some ⟨g,0,none⟩) (hi:isT C q.pos 1 zH=false) (ha:za2 l=false):
  Calls Tryz.prog 117 #[.pointer (some ⟨D,0,none⟩),.slice (some ⟨g,0,none⟩) l.length r.cap] wc (zT C J z o D (zaB C l q) id (fun _=>.tuple #[]) S w):=by
 have HH:=zc hh
 have HC:=zc h
 have H0:=zc h0
 have HF:=zc hf
 have HG:=zc hg
 have HY:Hid (zaB C l q=bd (zd C 4 cSemi q) fun c=>zK (fun e=>zm C (zD e)) l (.ok c)):=by show _=_;rw[zaB,hi,ha];rfl
 clear hh h h0 hf hg
 go_enter Tryz.func117,Tryz.ntmps117
 go_wp2_with fail
 refine (zco C J z o D H q 1 zH _ HC.out).mono ?_
 rintro e w1 ⟨rfl,E⟩
 rw[hi]
 have ai:Hid (IM C J z o D H q w1):=HC.out.later E
 have an:Hid (IS D S w H w1):=(H0.out.trans (IS.below E))
 have V:IS D H wc H w1:=IS.below E
 clear E
 have af:Hid (Fr 77 4 w1 b0 r l.length (l.flatMap (fun e=>epL (zD e))) H):=HF.out.step HC.out (by decide) V
 clear V
 go_wp2_with fail
 refine (zlZ b0 g r l _ af.out.1 hl HG.out).mono ?_
 rintro e w2 ⟨rfl,E⟩
 rw[ha]
 have ah:Hid (Fr 77 4 w2 b0 r l.length (l.flatMap (fun e=>epL (zD e))) H):=af.out.later E
 have ac:Hid (IM C J z o D H q w2):=ai.out.later E
 have Z:Hid (IS D S w H w2):=(an.out.trans (IS.below E))
 clear E
 go_wp2_with fail
 refine (zcw C J z o D H q 59 _ ac.out).mono ?_
 cases O:zd C 4 cSemi q with
 |error p=>
  rintro e w3 ⟨rfl,E⟩
  have HB:Hid (Below o w w3):=(HH.out.back Z.out).trans E
  have HX:Hid (zaB C l q= .error p):=bdE HY.out O
  unfold Pan
  go_wp2
  refine⟨rfl,?_⟩
  rw[HX.out]
  exact⟨rfl,HB.out⟩
 |ok a3=>
  rintro e w3 ⟨rfl,S3,m,s⟩
  have aq:Hid (Fr 77 4 w3 b0 r l.length (l.flatMap (fun e=>epL (zD e))) S3):=ah.out.step ac.out (by decide) s
  have al:=zc m
  have ap:Hid (IS D S w S3 w3):=Z.out.trans s
  clear m s
  have ag:=zc (bdO HY.out O)
  have Y:0<a3.pos:=by rw[(zbh O).1];exact Nat.succ_pos _
  go_wp2
  go_loopg [39] l.length (fun k i wr=>∃(j:Nat) (M:Sv) (K:PS),i= .int .i64 j∧j+k=l.length∧zaB C l q=zK (fun e=>zm C (zD e)) (l.drop j) (.ok K)∧0<K.pos∧IM C J z o D M K wr∧IS D S w M wr∧Fr 77 4 wr b0 r l.length (l.flatMap fun e=>epL (zD e)) M)
  case atStart=>exact⟨0,S3,a3,rfl,by omega,ag.out,Y,al.out,ap.out,aq.out⟩
  case round=>
   obtain⟨j,M,K,rfl,hj,hy,aa,m',s',f'⟩:=hrel
   have ae:=zc hy
   have L:Hid (IM C J z o D M K wr):=m'
   have Q:Hid (IS D S w M wr):=s'
   have ab:Hid (Fr 77 4 wr b0 r l.length (l.flatMap fun e=>epL (zD e)) M):=f'
   clear hy m' s' f'
   by_cases ak:j<l.length
   ·have U:(j:Int)<(l.length:Int):=by omega
    obtain⟨x,hx⟩:=zgd ak
    obtain⟨g',ad,I⟩:=OwnR.elem (f:=fun e=>epL (zD e)) (m:=4) (fun _=>rfl) ab.out.1 hx
    have eg:g'=g:=by have:=ad.symm.trans HG.out;simpa using this
    subst eg
    have k0:=I 0 (by omega)
    have k1:=I 1 (by omega)
    have k2:=I 2 (by omega)
    have k3:=I 3 (by omega)
    simp only[epL,zD,Nat.add_zero,List.getElem?_cons_zero,List.getElem?_cons_succ] at k0 k1 k2 k3
    have X:=zc (ae.out.trans (ziR (fun e=>zm C (zD e)) hx K))
    clear I ad hx
    obtain⟨j1,N⟩: ∃j1,j1=j+1:=⟨_,rfl⟩
    have ej:(j:Int)+1=(j1:Int):=by omega
    rw[←N] at X
    have av:=L.out.lt
    have HJ:=zc N
    clear N
    go_wp2_with fail
    refine (zfF C J z o D M K (zD x) _ (L.out.alloc _) aa).mono ?_
    cases hn:zm C (zD x) K with
    |error p=>
     rintro e wy ⟨rfl,E⟩
     have HB:Hid (Below o w wy):=(HH.out.back (Q.out.alloc _)).trans E
     have HX:Hid (zaB C l q= .error p):=by show _=_;rw[X.out,hn];exact zhk _ _ _
     unfold Pan
     go_wp2
     refine⟨rfl,?_⟩
     rw[HX.out]
     exact⟨rfl,HB.out⟩
    |ok ay=>
     rintro e wy ⟨rfl,Sy,m,s⟩
     have au:=zc m
     have am:Hid (IS D S w Sy wy):=(Q.out.alloc _).trans s
     have ar:Hid (Fr 77 4 wy b0 r l.length (l.flatMap fun e=>epL (zD e)) Sy):=(ab.out.later ((Below.refl _ _).alloc (Nat.le_refl _) _)).step (L.out.alloc _) (by decide) s
     have aj:Hid (zaB C l q=zK (fun e=>zm C (zD e)) (l.drop j1) (.ok ay)):=by show _=_;rw[X.out,hn]
     have ao:Hid (0<ay.pos):=by show 0<ay.pos;rw[zlU hn];exact aa
     clear m s
     go_wp2
     go_roundg (gk-1)
     case rel=>exact⟨j1,Sy,ay,rfl,by have:=HJ.out;omega,aj.out,ao.out,au.out,am.out,ar.out⟩
     case measure=>omega
   ·have U: ¬(j:Int)<(l.length:Int):=by omega
    have X:Hid (zaB C l q= .ok K):=by show _=_;rw[ae.out,List.drop_eq_nil_of_le (by omega)];rfl
    go_wp2
    go_end0
    rw[X.out]
    exact⟨rfl,M,L.out,Q.out⟩
theorem zsX (C:Cx) (H o j D b0 g:Nat) (r:Rw) (S z:Sv) (q0 q:PS) (l:List Ep) (w wc:World) (Z:IM C H o j D S q0 w) (h:IM C H o j D z q wc) (h0:IS D S w z wc) (hl:l.length≤4000) (hf:Fr 77 4 wc b0 r l.length (l.flatMap (fun e=>epL (zD e))) z) (Y:r.a=some ⟨g,0,none⟩) (K:isT C q.pos 1 zH=false) (X:za2 l=true):
  Calls Tryz.prog 117 #[.pointer (some ⟨D,0,none⟩),.slice (some ⟨g,0,none⟩) l.length r.cap] wc (zT C H o j D (zaB C l q) id (fun _=>.tuple #[]) S w):=by
 have HH:=zc Z
 have Q:=zc h
 have H0:=zc h0
 have HF:=zc hf
 have HG:=zc Y
 have HY:Hid (zaB C l q= .error (zu C q.pos)):=by show _=_;rw[zaB,K,X,if_pos (by decide),zhN K];rfl
 clear Z h h0 hf Y
 go_enter Tryz.func117,Tryz.ntmps117
 go_wp2_with fail
 refine (zco C H o j D z q 1 zH _ Q.out).mono ?_
 rintro e L ⟨rfl,E⟩
 rw[K]
 have O:Hid (IM C H o j D z q L):=Q.out.later E
 have M:Hid (IS D S w z L):=(H0.out.trans (IS.below E))
 have I:IS D z wc z L:=IS.below E
 clear E
 have J:Hid (Fr 77 4 L b0 r l.length (l.flatMap (fun e=>epL (zD e))) z):=HF.out.step Q.out (by decide) I
 clear I
 go_wp2_with fail
 refine (zlZ b0 g r l _ J.out.1 hl HG.out).mono ?_
 rintro e U ⟨rfl,E⟩
 rw[X]
 have aa:Hid (Fr 77 4 U b0 r l.length (l.flatMap (fun e=>epL (zD e))) z):=J.out.later E
 have N:Hid (IM C H o j D z q U):=O.out.later E
 have V:Hid (IS D S w z U):=(M.out.trans (IS.below E))
 clear E
 go_wp2_with fail
 refine (zeU C H o j D z q zH _ N.out).mono ?_
 rw[zhN K]
 rintro e w3 ⟨rfl,E⟩
 have HB:Hid (Below j w w3):=(HH.out.back V.out).trans E
 have HX:Hid (zaB C l q= .error (zu C q.pos)):=HY.out
 unfold Pan
 go_wp2
 refine⟨rfl,?_⟩
 rw[HX.out]
 exact⟨rfl,HB.out⟩
theorem zsY (C:Cx) (K z o D b0 g:Nat) (r:Rw) (S Y:Sv) (q0 q:PS) (l:List Ep) (w wc:World) (hh:IM C K z o D S q0 w) (h:IM C K z o D Y q wc) (h0:IS D S w Y wc) (hC:zb0 C) (hl:l.length≤4000) (hf:Fr 77 4 wc b0 r l.length (l.flatMap (fun e=>epL (zD e))) Y) (hg:r.a=some ⟨g,0,none⟩) (ax:w.heap.size≤g) (hi:isT C q.pos 1 zH=true):
  Calls Tryz.prog 117 #[.pointer (some ⟨D,0,none⟩),.slice (some ⟨g,0,none⟩) l.length r.cap] wc (zT C K z o D (zaB C l q) id (fun _=>.tuple #[]) S w):=by
 have HH:=zc hh
 have HC:=zc h
 have H0:=zc h0
 have HF:=zc hf
 have HG:=zc hg
 have av:=zc ax
 have HY:Hid (zaB C l q=bd (zd C 1 zH q) fun a=>bd (zy C a) fun b=>bd (zd C 4 cSemi b.1) fun c=>zK (fun e=>zm C (zaj b.2 e)) l (.ok c)):=by show _=_;rw[zaB,hi];rfl
 clear hh h h0 hf hg ax
 go_enter Tryz.func117,Tryz.ntmps117
 go_wp2_with fail
 refine (zco C K z o D Y q 1 zH _ HC.out).mono ?_
 rintro e w1 ⟨rfl,O⟩
 rw[hi]
 have ah:Hid (IM C K z o D Y q w1):=HC.out.later O
 have ao:Hid (IS D S w Y w1):=(H0.out.trans (IS.below O))
 have ai:IS D Y wc Y w1:=IS.below O
 clear O
 have aP:Hid (Fr 77 4 w1 b0 r l.length (l.flatMap (fun e=>epL (zD e))) Y):=HF.out.step HC.out (by decide) ai
 clear ai
 go_wp2_with fail
 refine (zeU C K z o D Y q zH _ ah.out).mono ?_
 cases az:zd C 1 zH q with
 |error p=>
  rintro e w2 ⟨rfl,O⟩
  have HB:Hid (Below o w w2):=(HH.out.back ao.out).trans O
  have HX:Hid (zaB C l q= .error p):=bdE HY.out az
  unfold Pan
  go_wp2
  refine⟨rfl,?_⟩
  rw[HX.out]
  exact⟨rfl,HB.out⟩
 |ok a2=>
  rintro e w2 ⟨rfl,S2,m,s⟩
  have aC:Hid (Fr 77 4 w2 b0 r l.length (l.flatMap (fun e=>epL (zD e))) S2):=aP.out.step ah.out (by decide) s
  have aw:=zc m
  have am:Hid (IS D S w S2 w2):=ao.out.trans s
  clear m s
  have ak:=zc (bdO HY.out az)
  go_wp2_with fail
  refine (zgA C K z o D S2 a2 _ aw.out hC).mono ?_
  cases ap:zy C a2 with
  |error p=>
   rintro e w3 ⟨rfl,O⟩
   have HB:Hid (Below o w w3):=(HH.out.back am.out).trans O
   have HX:Hid (zaB C l q= .error p):=bdE ak.out ap
   unfold Pan
   go_wp2
   refine⟨rfl,?_⟩
   rw[HX.out]
   exact⟨rfl,HB.out⟩
  |ok E=>
   rintro e w3 ⟨rfl,Q,m,s⟩
   have ab:Hid (Fr 77 4 w3 b0 r l.length (l.flatMap (fun e=>epL (zD e))) Q):=aC.out.step aw.out (by decide) s
   have ad:=zc m
   have aL:Hid (IS D S w Q w3):=am.out.trans s
   clear m s
   have ag:=zc (bdO ak.out ap)
   have ae:Hid (Fr 77 4 w3 b0 r l.length ((mxE E.2 l 0).flatMap epL) Q):=by show Fr _ _ _ _ _ _ _ _;rw[zsR,zma];exact ab.out
   have af:g≠D:=ab.out.ngp ad.out (by decide) (by rw[Rw.blk,HG.out];rfl)
   have an:g≠K:=ab.out.ngt ad.out (by decide) (by rw[Rw.blk,HG.out];rfl)
   have V:Hid (¬Q.has g):=ab.out.2 g (by rw[Rw.blk,HG.out];rfl)
   have au:=zc af
   have ar:=zc an
   clear af an
   go_wp2
   go_loopg [22] l.length (fun k i wr=>∃(j:Nat),i= .int .i64 j∧j+k=l.length∧IM C K z o D Q E.1 wr∧IS D S w Q wr∧Fr 77 4 wr b0 r l.length ((mxE E.2 l j).flatMap epL) Q)
   case atStart=>exact⟨0,rfl,by omega,ad.out,aL.out,ae.out⟩
   case round=>
    obtain⟨j,rfl,hj,m',s',f'⟩:=hrel
    have I:Hid (IM C K z o D Q E.1 wr):=m'
    have J:Hid (IS D S w Q wr):=s'
    have N:Hid (Fr 77 4 wr b0 r l.length ((mxE E.2 l j).flatMap epL) Q):=f'
    clear m' s' f'
    by_cases aa:j<l.length
    ·have U:(j:Int)<(l.length:Int):=by omega
     obtain⟨x,hx⟩:=zgd aa
     have HX:=zc hx
     have L:=N.out.1
     have ho:OwnR wr b0 77 4 r (mxE E.2 l j).length ((mxE E.2 l j).flatMap epL):=by rw[zlX];exact L
     obtain⟨g',X,H⟩:=OwnR.elem (f:=epL) (m:=4) (fun _=>rfl) ho (zlY hx)
     have eg:g'=g:=by have:=X.symm.trans HG.out;simpa using this
     subst eg
     have k0:=H 0 (by omega)
     have k3:=H 3 (by omega)
     simp only[epL,zD,Nat.add_zero,List.getElem?_cons_zero,List.getElem?_cons_succ] at k0 k3
     unfold OwnR at L
     rw[HG.out] at L
     have aQ:=L.frozenAt
     have aI:=zc L
     clear H X hx L ho
     obtain⟨Z,M⟩: ∃Z,Z=j+1:=⟨_,rfl⟩
     have ej:(j:Int)+1=(Z:Int):=by omega
     have HJ:=zc M
     clear M
     go_wp2
     go_roundg (gk-1)
     case rel=>
      refine⟨Z,rfl,by have:=HJ.out;omega,(I.out.set au.out ar.out V.out _ _).set au.out ar.out V.out _ _,(J.out.new av.out _ _).new av.out _ _,?_,N.out.2⟩
      have aJ:=(aI.out.stored (j*4+0) (.int .i64 2)).1
      have aj:=(aJ.stored (j*4+3) (.string E.2)).1
      rw[zlW epL 4 (fun _=>rfl) _ j 0 (zD x) ⟨2,x.name,x.loc,sNone⟩ (.int .i64 2) (zlY HX.out) (by omega) rfl,zlW epL 4 (fun _=>rfl) ((mxE E.2 l j).set j ⟨2,x.name,x.loc,sNone⟩) j 3 ⟨2,x.name,x.loc,sNone⟩ (zaj E.2 x) (.string E.2) (List.getElem?_set_self (by rw[zlX];exact aa)) (by omega) rfl,List.set_set,zsQ HX.out,←HJ.out] at aj
      unfold OwnR
      rw[HG.out]
      exact aj
     case measure=>omega
    ·have U: ¬(j:Int)<(l.length:Int):=by omega
     have aE:j=l.length:=by omega
     subst aE
     have aO:Hid (Fr 77 4 wr b0 r l.length (l.flatMap fun e=>epL (zaj E.2 e)) Q):=by show Fr _ _ _ _ _ _ _ _;rw[←zma,←zsS E.2 l];exact N.out
     go_wp2_with fail
     refine (zcw C K z o D Q E.1 59 _ I.out).mono ?_
     cases ac:zd C 4 cSemi E.1 with
     |error p=>
      rintro e w4 ⟨rfl,O⟩
      have HB:Hid (Below o w w4):=(HH.out.back J.out).trans O
      have HX:Hid (zaB C l q= .error p):=bdE ag.out ac
      unfold Pan
      go_wp2
      refine⟨rfl,?_⟩
      rw[HX.out]
      exact⟨rfl,HB.out⟩
     |ok a4=>
      rintro e w4 ⟨rfl,S4,m,s⟩
      have ae:Hid (Fr 77 4 w4 b0 r l.length (l.flatMap fun e=>epL (zaj E.2 e)) S4):=aO.out.step I.out (by decide) s
      have aB:=zc m
      have aD:Hid (IS D S w S4 w4):=J.out.trans s
      clear m s
      have aG:=zc (bdO ag.out ac)
      have al:0<a4.pos:=by rw[(zbh ac).1];exact Nat.succ_pos _
      go_wp2
      go_loopg [39] l.length (fun k i wr=>∃(j:Nat) (S':Sv) (q':PS),i= .int .i64 j∧j+k=l.length∧zaB C l q=zK (fun e=>zm C (zaj E.2 e)) (l.drop j) (.ok q')∧0<q'.pos∧IM C K z o D S' q' wr∧IS D S w S' wr∧Fr 77 4 wr b0 r l.length (l.flatMap fun e=>epL (zaj E.2 e)) S')
      case atStart=>exact⟨0,S4,a4,rfl,by omega,aG.out,al,aB.out,aD.out,ae.out⟩
      case round=>
       obtain⟨j,S',q',rfl,hj,hy,aq,m',s',f'⟩:=hrel
       have aA:=zc hy
       have I:Hid (IM C K z o D S' q' wr):=m'
       have J:Hid (IS D S w S' wr):=s'
       have N:Hid (Fr 77 4 wr b0 r l.length (l.flatMap fun e=>epL (zaj E.2 e)) S'):=f'
       clear hy m' s' f'
       by_cases aa:j<l.length
       ·have U:(j:Int)<(l.length:Int):=by omega
        obtain⟨x,hx⟩:=zgd aa
        obtain⟨g',X,H⟩:=OwnR.elem (f:=fun e=>epL (zaj E.2 e)) (m:=4) (fun _=>rfl) N.out.1 hx
        have eg:g'=g:=by have:=X.symm.trans HG.out;simpa using this
        subst eg
        have k0:=H 0 (by omega)
        have k1:=H 1 (by omega)
        have k2:=H 2 (by omega)
        have k3:=H 3 (by omega)
        simp only[epL,zaj,Nat.add_zero,List.getElem?_cons_zero,List.getElem?_cons_succ] at k0 k1 k2 k3
        have HZ:=zc (aA.out.trans (ziR (fun e=>zm C (zaj E.2 e)) hx q'))
        clear H X hx
        obtain⟨Z,M⟩: ∃Z,Z=j+1:=⟨_,rfl⟩
        have ej:(j:Int)+1=(Z:Int):=by omega
        rw[←M] at HZ
        have af:=I.out.lt
        have HJ:=zc M
        clear M
        go_wp2_with fail
        refine (zfF C K z o D S' q' (zaj E.2 x) _ (I.out.alloc _) aq).mono ?_
        cases hn:zm C (zaj E.2 x) q' with
        |error p=>
         rintro e wy ⟨rfl,O⟩
         have HB:Hid (Below o w wy):=(HH.out.back (J.out.alloc _)).trans O
         have HX:Hid (zaB C l q= .error p):=by show _=_;rw[HZ.out,hn];exact zhk _ _ _
         unfold Pan
         go_wp2
         refine⟨rfl,?_⟩
         rw[HX.out]
         exact⟨rfl,HB.out⟩
        |ok ay=>
         rintro e wy ⟨rfl,Sy,m,s⟩
         have aN:=zc m
         have aH:Hid (IS D S w Sy wy):=(J.out.alloc _).trans s
         have aM:Hid (Fr 77 4 wy b0 r l.length (l.flatMap fun e=>epL (zaj E.2 e)) Sy):=(N.out.later ((Below.refl _ _).alloc (Nat.le_refl _) _)).step (I.out.alloc _) (by decide) s
         have aF:Hid (zaB C l q=zK (fun e=>zm C (zaj E.2 e)) (l.drop Z) (.ok ay)):=by show _=_;rw[HZ.out,hn]
         have aK:Hid (0<ay.pos):=by show 0<ay.pos;rw[zlU hn];exact aq
         clear m s
         go_wp2
         go_roundg (gk-1)
         case rel=>exact⟨Z,Sy,ay,rfl,by have:=HJ.out;omega,aF.out,aK.out,aN.out,aH.out,aM.out⟩
         case measure=>omega
       ·have U: ¬(j:Int)<(l.length:Int):=by omega
        have HZ:Hid (zaB C l q= .ok q'):=by show _=_;rw[aA.out,List.drop_eq_nil_of_le (by omega)];rfl
        go_wp2
        go_end0
        rw[HZ.out]
        exact⟨rfl,S',I.out,J.out⟩
theorem zsZ (C:Cx) (E o j z b0:Nat) (r:Rw) (S D:Sv) (J q:PS) (l:List Ep) (w wc:World) (N:IM C E o j z S J w) (h:IM C E o j z D q wc) (U:IS z S w D wc) (X:zb0 C) (O:l.length≤4000) (K:l.length≠0) (I:Fr 77 4 wc b0 r l.length (l.flatMap (fun e=>epL (zD e))) D) (M:w.heap.size≤b0):
  Calls Tryz.prog 117 #[.pointer (some ⟨z,0,none⟩),.slice r.a l.length r.cap] wc (zT C E o j z (zaB C l q) id (fun _=>.tuple #[]) S w):=by
 rcases I.1.nil_or with ⟨_,_,e⟩|⟨g,H⟩
 ·exact absurd e K
 ·have L:w.heap.size≤g:=Nat.le_trans M (I.1.typed (show r.blk=some g by rw[Rw.blk,H];rfl)).1
  rw[H]
  cases Q:isT C q.pos 1 zH with
  |true=>exact zsY C E o j z b0 g r S D J q l w wc N h U X O I H L Q
  |false=>
   cases V:za2 l with
   |true=>exact zsX C E o j z b0 g r S D J q l w wc N h U O I H Q V
   |false=>exact zsW C E o j z b0 g r S D J q l w wc N h U O I H Q V
theorem zta {C:Cx} {k:Int} {n:ByteArray} {q b:PS} (h:zE C k n q= .ok b):b={q with st:=q.st++[⟨k,n,(q.ex.length:Int)-1⟩]}:=by
 unfold zE at h
 split at h
 ·cases h
 ·cases h
  rfl
theorem ziT {C:Cx} {k:Int} {n s:ByteArray} {q b:PS} (h:stmtI C k n s q= .ok b) (H:0<s.size):(∃l e,b.st=l++[⟨k,n,e⟩])∧0<b.pos:=by
 obtain⟨a,I,D⟩:=ze h
 obtain⟨c,z,E⟩:=ze D
 have j:=zjX _ z
 have o:=zta E
 subst o
 refine⟨⟨_,_,rfl⟩,?_⟩
 rw[j]
 show 0<a.pos+s.size
 omega
theorem ztb {C:Cx} {k:Int} {q b:PS} (h:letJ C k q= .ok b):(∃l e,b.st=l++[⟨k,(zf C q.pos).text,e⟩])∧0<b.pos:=by
 obtain⟨a,o,j⟩:=ze h
 obtain⟨c,D,z⟩:=ze j
 have:=ziT z (by decide)
 rw[(zaX o).1] at this
 exact this
theorem ztc {C:Cx} {q b:PS} (h:fnI C q= .ok b):(∃l e,b.st=l++[⟨2,(zf C q.pos).text,e⟩])∧0<b.pos:=by
 obtain⟨a,z,o⟩:=ze h
 obtain⟨c,H,D⟩:=ze o
 obtain⟨d,E,j⟩:=ze D
 have:=ziT j (by decide)
 rw[(zaX z).1] at this
 exact this
theorem zmb (C:Cx) (D o j z:Nat) (S:Sv) (q:PS) (l:List Sm) (k e:Int) (n:ByteArray) (w:World) (h:IM C D o j z S q w) (H:q.st=l++[⟨k,n,e⟩]) (E:n.size≤281474976710656) (I:0<q.pos):
  Calls Tryz.prog 120 #[.pointer (some ⟨z,0,none⟩)] w (zT C D o j z (zm C ⟨1,n,n,sNone⟩ q) id (fun _=>.tuple #[]) S w):=zoU C D o j z S q l ⟨k,n,e⟩ w h H E I
def zat (C:Cx) (q:PS):PR:=
 if isT C q.pos 4 zF then bd (zay C true (adv q) []) fun a=>zaB C a.2 a.1
 else if isT C q.pos 4 zp then bd (zd C 1 zH (adv q)) fun a=>bd (zy C a) fun b=>bd (zd C 4 cSemi b.1) fun c=>zm C ⟨3,sNone,sNone,b.2⟩ c
 else if isT C q.pos 1 sDefault then bd (stmtI C 1 zbp cSemi (adv q)) fun a=>zm C ⟨1,sDefault,zbp,sNone⟩ a
 else if isT C q.pos 1 sLet then bd (letJ C 1 (adv q)) fun a=>zm C ⟨1,(zf C (q.pos+1)).text,(zf C (q.pos+1)).text,sNone⟩ a
 else if isT C q.pos 1 sFunction then bd (fnI C (adv q)) fun a=>zm C ⟨1,(zf C (q.pos+1)).text,(zf C (q.pos+1)).text,sNone⟩ a
 else .error (zu C q.pos)
theorem ztd (C:Cx) (E o j D:Nat) (S:Sv) (q:PS) (w:World) (h:IM C E o j D S q w) (hC:zb0 C) (h1:isT C q.pos 4 zF=true):
  Calls Tryz.prog 91 #[.pointer (some ⟨D,0,none⟩)] w (zT C E o j D (zat C q) id (fun _=>.tuple #[]) S w):=by
 have V:=zc h
 have HY:Hid (zat C q=bd (zay C true (adv q) []) fun a=>zaB C a.2 a.1):=by show _=_;rw[zat,h1];rfl
 clear h
 go_enter Tryz.func91,Tryz.ntmps91
 go_wp2_with fail
 refine (zP C E o j D S q 4 zF _ V.out (by decide)).mono ?_
 rintro e w1 ⟨rfl,m,s⟩
 rw[h1] at m ⊢
 have Y:=zc m
 have z:=zc s
 clear m s
 go_wp2_with fail
 refine (zsP C E o j D S (adv q) _ Y.out).mono ?_
 cases H:zay C true (adv q) [] with
 |error p=>
  rintro e O ⟨rfl,U⟩
  have Z:Hid (Below j w O):=(V.out.back z.out).trans U
  have K:Hid (zat C q= .error p):=bdE HY.out H
  unfold Pan
  go_wp2
  refine⟨rfl,?_⟩
  rw[K.out]
  exact⟨rfl,Z.out⟩
 |ok L=>
  rintro e O ⟨r,S3,rfl,m,s,f,l0,l1⟩
  have Q:=zc m
  have aa:Hid (IS D S w S3 O):=z.out.trans s
  have N:=zc f
  clear m s f
  have I:=zc (bdO HY.out H)
  go_wp2_with fail
  refine (zsZ C E o j D _ r S S3 q L.1 L.2 w _ V.out Q.out aa.out hC l1 (by omega) N.out z.out.size).mono ?_
  cases J:zaB C L.2 L.1 with
  |error p=>
   rintro e w4 ⟨rfl,U⟩
   have Z:=zc U
   have K:=zc (I.out.trans J)
   unfold Pan
   go_wp2
   refine⟨rfl,?_⟩
   rw[K.out]
   exact⟨rfl,Z.out⟩
  |ok a4=>
   rintro e w4 ⟨rfl,S4,m,s⟩
   have M:=zc m
   have X:=zc s
   clear m s
   have K:=zc (I.out.trans J)
   go_wp2
   go_end0
   rw[K.out]
   exact⟨rfl,S4,M.out,X.out⟩
theorem zte (C:Cx) (D o j z:Nat) (S:Sv) (q:PS) (w:World) (h:IM C D o j z S q w) (hC:zb0 C) (h1:isT C q.pos 4 zF=false) (h2:isT C q.pos 4 zp=true):
  Calls Tryz.prog 91 #[.pointer (some ⟨z,0,none⟩)] w (zT C D o j z (zat C q) id (fun _=>.tuple #[]) S w):=by
 have N:=zc h
 have HY:Hid (zat C q=bd (zd C 1 zH (adv q)) fun a=>bd (zy C a) fun b=>bd (zd C 4 cSemi b.1) fun c=>zm C ⟨3,sNone,sNone,b.2⟩ c):=by show _=_;rw[zat,h1,h2];rfl
 clear h
 go_enter Tryz.func91,Tryz.ntmps91
 go_wp2_with fail
 refine (zP C D o j z S q 4 zF _ N.out (by decide)).mono ?_
 rintro e w1 ⟨rfl,m,s⟩
 rw[h1] at m ⊢
 have ai:=zc m
 have ad:=zc s
 clear m s
 go_wp2_with fail
 refine (zP C D o j z S q 4 zp _ ai.out (by decide)).mono ?_
 rintro e w2 ⟨rfl,m,s⟩
 rw[h2] at m ⊢
 have ag:=zc m
 have Z:Hid (IS z S w S w2):=ad.out.trans s
 clear m s
 go_wp2_with fail
 refine (zeU C D o j z S (adv q) zH _ ag.out).mono ?_
 cases L:zd C 1 zH (adv q) with
 |error p=>
  rintro e w3 ⟨rfl,H⟩
  have J:Hid (Below j w w3):=(N.out.back Z.out).trans H
  have I:Hid (zat C q= .error p):=bdE HY.out L
  unfold Pan
  go_wp2
  refine⟨rfl,?_⟩
  rw[I.out]
  exact⟨rfl,J.out⟩
 |ok a3=>
  rintro e w3 ⟨rfl,S3,m,s⟩
  have ae:=zc m
  have aa:Hid (IS z S w S3 w3):=Z.out.trans s
  clear m s
  have O:=zc (bdO HY.out L)
  go_wp2_with fail
  refine (zgA C D o j z S3 a3 _ ae.out hC).mono ?_
  cases Q:zy C a3 with
  |error p=>
   rintro e w4 ⟨rfl,H⟩
   have J:Hid (Below j w w4):=(N.out.back aa.out).trans H
   have I:Hid (zat C q= .error p):=bdE O.out Q
   unfold Pan
   go_wp2
   refine⟨rfl,?_⟩
   rw[I.out]
   exact⟨rfl,J.out⟩
  |ok a4=>
   rintro e w4 ⟨rfl,S4,m,s⟩
   have ab:=zc m
   have V:Hid (IS z S w S4 w4):=aa.out.trans s
   clear m s
   have U:=zc (bdO O.out Q)
   go_wp2_with fail
   refine (zcw C D o j z S4 a4.1 59 _ ab.out).mono ?_
   cases E:zd C 4 cSemi a4.1 with
   |error p=>
    rintro e w5 ⟨rfl,H⟩
    have J:Hid (Below j w w5):=(N.out.back V.out).trans H
    have I:Hid (zat C q= .error p):=bdE U.out E
    unfold Pan
    go_wp2
    refine⟨rfl,?_⟩
    rw[I.out]
    exact⟨rfl,J.out⟩
   |ok a5=>
    rintro e w5 ⟨rfl,S5,m,s⟩
    have af:=zc m
    have K:Hid (IS z S w S5 w5):=V.out.trans s
    clear m s
    have M:=zc (bdO U.out E)
    have Y:0<a5.pos:=by rw[(zbh E).1];exact Nat.succ_pos _
    go_wp2_with fail
    refine (zfF C D o j z S5 a5 ⟨3,sNone,sNone,a4.2⟩ _ af.out Y).mono ?_
    cases X:zm C ⟨3,sNone,sNone,a4.2⟩ a5 with
    |error p=>
     rintro e w6 ⟨rfl,H⟩
     have J:Hid (Below j w w6):=(N.out.back K.out).trans H
     have I:Hid (zat C q= .error p):=M.out.trans X
     unfold Pan
     go_wp2
     refine⟨rfl,?_⟩
     rw[I.out]
     exact⟨rfl,J.out⟩
    |ok a6=>
     rintro e w6 ⟨rfl,S6,m,s⟩
     have aj:=zc m
     have ah:Hid (IS z S w S6 w6):=K.out.trans s
     clear m s
     have ac:=zc (M.out.trans X)
     go_wp2
     go_end0
     rw[ac.out]
     exact⟨rfl,S6,aj.out,ah.out⟩
theorem ztf (C:Cx) (D o j z:Nat) (S:Sv) (q:PS) (w:World) (h:IM C D o j z S q w) (h1:isT C q.pos 4 zF=false) (h2:isT C q.pos 4 zp=false) (h3:isT C q.pos 1 sDefault=true):
  Calls Tryz.prog 91 #[.pointer (some ⟨z,0,none⟩)] w (zT C D o j z (zat C q) id (fun _=>.tuple #[]) S w):=by
 have Y:=zc h
 have HY:Hid (zat C q=bd (stmtI C 1 zbp cSemi (adv q)) fun a=>zm C ⟨1,sDefault,zbp,sNone⟩ a):=by show _=_;rw[zat,h1,h2,h3];rfl
 clear h
 go_enter Tryz.func91,Tryz.ntmps91
 go_wp2_with fail
 refine (zP C D o j z S q 4 zF _ Y.out (by decide)).mono ?_
 rintro e w1 ⟨rfl,m,s⟩
 rw[h1] at m ⊢
 have aa:=zc m
 have N:=zc s
 clear m s
 go_wp2_with fail
 refine (zP C D o j z S q 4 zp _ aa.out (by decide)).mono ?_
 rintro e w2 ⟨rfl,m,s⟩
 rw[h2] at m ⊢
 have Z:=zc m
 have ab:Hid (IS z S w S w2):=N.out.trans s
 clear m s
 go_wp2_with fail
 refine (zP C D o j z S q 1 sDefault _ Z.out (by decide)).mono ?_
 rintro e w3 ⟨rfl,m,s⟩
 rw[h3] at m ⊢
 have Q:=zc m
 have L:Hid (IS z S w S w3):=ab.out.trans s
 clear m s
 go_wp2_with fail
 refine (zer C D o j z S (adv q) 1 zbp cSemi _ Q.out (by decide) (by decide)).mono ?_
 cases E:stmtI C 1 zbp cSemi (adv q) with
 |error p=>
  rintro e w4 ⟨rfl,X⟩
  have HB:Hid (Below j w w4):=(Y.out.back L.out).trans X
  have HX:Hid (zat C q= .error p):=bdE HY.out E
  unfold Pan
  go_wp2
  refine⟨rfl,?_⟩
  rw[HX.out]
  exact⟨rfl,HB.out⟩
 |ok a4=>
  rintro e w4 ⟨rfl,S4,m,s⟩
  have M:=zc m
  have J:Hid (IS z S w S4 w4):=L.out.trans s
  clear m s
  have I:=zc (bdO HY.out E)
  have K:=(ziT E (by decide)).2
  go_wp2_with fail
  refine (zfF C D o j z S4 a4 ⟨1,sDefault,zbp,sNone⟩ _ M.out K).mono ?_
  cases H:zm C ⟨1,sDefault,zbp,sNone⟩ a4 with
  |error p=>
   rintro e w5 ⟨rfl,X⟩
   have HB:Hid (Below j w w5):=(Y.out.back J.out).trans X
   have HX:Hid (zat C q= .error p):=I.out.trans H
   unfold Pan
   go_wp2
   refine⟨rfl,?_⟩
   rw[HX.out]
   exact⟨rfl,HB.out⟩
  |ok a5=>
   rintro e w5 ⟨rfl,S5,m,s⟩
   have U:=zc m
   have O:Hid (IS z S w S5 w5):=J.out.trans s
   clear m s
   have V:=zc (I.out.trans H)
   go_wp2
   go_end0
   rw[V.out]
   exact⟨rfl,S5,U.out,O.out⟩
theorem ztg (C:Cx) (D o j z:Nat) (S:Sv) (q:PS) (w:World) (h:IM C D o j z S q w) (hC:zb0 C) (h1:isT C q.pos 4 zF=false) (h2:isT C q.pos 4 zp=false) (h3:isT C q.pos 1 sDefault=false) (h4:isT C q.pos 1 sLet=true):
  Calls Tryz.prog 91 #[.pointer (some ⟨z,0,none⟩)] w (zT C D o j z (zat C q) id (fun _=>.tuple #[]) S w):=by
 have Z:=zc h
 have HY:Hid (zat C q=bd (letJ C 1 (adv q)) fun a=>zm C ⟨1,(zf C (q.pos+1)).text,(zf C (q.pos+1)).text,sNone⟩ a):=by show _=_;rw[zat,h1,h2,h3,h4];rfl
 clear h
 go_enter Tryz.func91,Tryz.ntmps91
 go_wp2_with fail
 refine (zP C D o j z S q 4 zF _ Z.out (by decide)).mono ?_
 rintro e w1 ⟨rfl,m,s⟩
 rw[h1] at m ⊢
 have ac:=zc m
 have Q:=zc s
 clear m s
 go_wp2_with fail
 refine (zP C D o j z S q 4 zp _ ac.out (by decide)).mono ?_
 rintro e w2 ⟨rfl,m,s⟩
 rw[h2] at m ⊢
 have aa:=zc m
 have ae:Hid (IS z S w S w2):=Q.out.trans s
 clear m s
 go_wp2_with fail
 refine (zP C D o j z S q 1 sDefault _ aa.out (by decide)).mono ?_
 rintro e w3 ⟨rfl,m,s⟩
 rw[h3] at m ⊢
 have V:=zc m
 have af:Hid (IS z S w S w3):=ae.out.trans s
 clear m s
 go_wp2_with fail
 refine (zP C D o j z S q 1 sLet _ V.out (by decide)).mono ?_
 rintro e w4 ⟨rfl,m,s⟩
 rw[h4] at m ⊢
 have N:=zc m
 have J:Hid (IS z S w S w4):=af.out.trans s
 clear m s
 go_wp2_with fail
 refine (zhV C D o j z S (adv q) _ N.out).mono ?_
 cases E:letJ C 1 (adv q) with
 |error p=>
  rintro e w5 ⟨rfl,Y⟩
  have HB:Hid (Below j w w5):=(Z.out.back J.out).trans Y
  have HX:Hid (zat C q= .error p):=bdE HY.out E
  unfold Pan
  go_wp2
  refine⟨rfl,?_⟩
  rw[HX.out]
  exact⟨rfl,HB.out⟩
 |ok a5=>
  rintro e w5 ⟨rfl,S5,m,s⟩
  have X:=zc m
  have H:Hid (IS z S w S5 w5):=J.out.trans s
  clear m s
  have I:=zc (bdO HY.out E)
  obtain⟨⟨l,e,L⟩,M⟩:=ztb E
  have U:=zc L
  clear L
  go_wp2_with fail
  refine (zmb C D o j z S5 a5 l _ _ (zf C (q.pos+1)).text _ X.out U.out (hC _) M).mono ?_
  cases K:zm C ⟨1,(zf C (q.pos+1)).text,(zf C (q.pos+1)).text,sNone⟩ a5 with
  |error p=>
   rintro e w6 ⟨rfl,Y⟩
   have HB:Hid (Below j w w6):=(Z.out.back H.out).trans Y
   have HX:Hid (zat C q= .error p):=I.out.trans K
   unfold Pan
   go_wp2
   refine⟨rfl,?_⟩
   rw[HX.out]
   exact⟨rfl,HB.out⟩
  |ok a6=>
   rintro e w6 ⟨rfl,S6,m,s⟩
   have ad:=zc m
   have ab:Hid (IS z S w S6 w6):=H.out.trans s
   clear m s
   have O:=zc (I.out.trans K)
   go_wp2
   go_end0
   rw[O.out]
   exact⟨rfl,S6,ad.out,ab.out⟩
theorem zth (C:Cx) (D o j z:Nat) (S:Sv) (q:PS) (w:World) (h:IM C D o j z S q w) (hC:zb0 C) (h1:isT C q.pos 4 zF=false) (h2:isT C q.pos 4 zp=false) (h3:isT C q.pos 1 sDefault=false) (h4:isT C q.pos 1 sLet=false) (h5:isT C q.pos 1 sFunction=true):
  Calls Tryz.prog 91 #[.pointer (some ⟨z,0,none⟩)] w (zT C D o j z (zat C q) id (fun _=>.tuple #[]) S w):=by
 have HH:=zc h
 have HY:Hid (zat C q=bd (fnI C (adv q)) fun a=>zm C ⟨1,(zf C (q.pos+1)).text,(zf C (q.pos+1)).text,sNone⟩ a):=by show _=_;rw[zat,h1,h2,h3,h4,h5];rfl
 clear h
 go_enter Tryz.func91,Tryz.ntmps91
 go_wp2_with fail
 refine (zP C D o j z S q 4 zF _ HH.out (by decide)).mono ?_
 rintro e w1 ⟨rfl,m,s⟩
 rw[h1] at m ⊢
 have ad:=zc m
 have Q:=zc s
 clear m s
 go_wp2_with fail
 refine (zP C D o j z S q 4 zp _ ad.out (by decide)).mono ?_
 rintro e w2 ⟨rfl,m,s⟩
 rw[h2] at m ⊢
 have aa:=zc m
 have ag:Hid (IS z S w S w2):=Q.out.trans s
 clear m s
 go_wp2_with fail
 refine (zP C D o j z S q 1 sDefault _ aa.out (by decide)).mono ?_
 rintro e w3 ⟨rfl,m,s⟩
 rw[h3] at m ⊢
 have X:=zc m
 have ah:Hid (IS z S w S w3):=ag.out.trans s
 clear m s
 go_wp2_with fail
 refine (zP C D o j z S q 1 sLet _ X.out (by decide)).mono ?_
 rintro e w4 ⟨rfl,m,s⟩
 rw[h4] at m ⊢
 have N:=zc m
 have ac:Hid (IS z S w S w4):=ah.out.trans s
 clear m s
 go_wp2_with fail
 refine (zP C D o j z S q 1 sFunction _ N.out (by decide)).mono ?_
 rintro e w5 ⟨rfl,m,s⟩
 rw[h5] at m ⊢
 have Y:=zc m
 have I:Hid (IS z S w S w5):=ac.out.trans s
 clear m s
 go_wp2_with fail
 refine (zhW C D o j z S (adv q) _ Y.out).mono ?_
 cases E:fnI C (adv q) with
 |error p=>
  rintro e w6 ⟨rfl,Z⟩
  have HB:Hid (Below j w w6):=(HH.out.back I.out).trans Z
  have HX:Hid (zat C q= .error p):=bdE HY.out E
  unfold Pan
  go_wp2
  refine⟨rfl,?_⟩
  rw[HX.out]
  exact⟨rfl,HB.out⟩
 |ok a6=>
  rintro e w6 ⟨rfl,S6,m,s⟩
  have ae:=zc m
  have J:Hid (IS z S w S6 w6):=I.out.trans s
  clear m s
  have H:=zc (bdO HY.out E)
  obtain⟨⟨l,e,L⟩,M⟩:=ztc E
  have U:=zc L
  clear L
  go_wp2_with fail
  refine (zmb C D o j z S6 a6 l _ _ (zf C (q.pos+1)).text _ ae.out U.out (hC _) M).mono ?_
  cases K:zm C ⟨1,(zf C (q.pos+1)).text,(zf C (q.pos+1)).text,sNone⟩ a6 with
  |error p=>
   rintro e O ⟨rfl,Z⟩
   have HB:Hid (Below j w O):=(HH.out.back J.out).trans Z
   have HX:Hid (zat C q= .error p):=H.out.trans K
   unfold Pan
   go_wp2
   refine⟨rfl,?_⟩
   rw[HX.out]
   exact⟨rfl,HB.out⟩
  |ok a7=>
   rintro e O ⟨rfl,S7,m,s⟩
   have V:=zc m
   have ab:Hid (IS z S w S7 O):=J.out.trans s
   clear m s
   have af:=zc (H.out.trans K)
   go_wp2
   go_end0
   rw[af.out]
   exact⟨rfl,S7,V.out,ab.out⟩
theorem zti (C:Cx) (D o j z:Nat) (S:Sv) (q:PS) (w:World) (h:IM C D o j z S q w) (U:isT C q.pos 4 zF=false) (V:isT C q.pos 4 zp=false) (h3:isT C q.pos 1 sDefault=false) (Y:isT C q.pos 1 sLet=false) (Z:isT C q.pos 1 sFunction=false):
  Calls Tryz.prog 91 #[.pointer (some ⟨z,0,none⟩)] w (zT C D o j z (zat C q) id (fun _=>.tuple #[]) S w):=by
 have X:=zc h
 have HY:Hid (zat C q= .error (zu C q.pos)):=by show _=_;rw[zat,U,V,h3,Y,Z];rfl
 clear h
 go_enter Tryz.func91,Tryz.ntmps91
 go_wp2_with fail
 refine (zP C D o j z S q 4 zF _ X.out (by decide)).mono ?_
 rintro e w1 ⟨rfl,m,s⟩
 rw[U] at m ⊢
 have N:=zc m
 have I:=zc s
 clear m s
 go_wp2_with fail
 refine (zP C D o j z S q 4 zp _ N.out (by decide)).mono ?_
 rintro e w2 ⟨rfl,m,s⟩
 rw[V] at m ⊢
 have L:=zc m
 have O:Hid (IS z S w S w2):=I.out.trans s
 clear m s
 go_wp2_with fail
 refine (zP C D o j z S q 1 sDefault _ L.out (by decide)).mono ?_
 rintro e w3 ⟨rfl,m,s⟩
 rw[h3] at m ⊢
 have K:=zc m
 have Q:Hid (IS z S w S w3):=O.out.trans s
 clear m s
 go_wp2_with fail
 refine (zP C D o j z S q 1 sLet _ K.out (by decide)).mono ?_
 rintro e w4 ⟨rfl,m,s⟩
 rw[Y] at m ⊢
 have H:=zc m
 have M:Hid (IS z S w S w4):=Q.out.trans s
 clear m s
 go_wp2_with fail
 refine (zP C D o j z S q 1 sFunction _ H.out (by decide)).mono ?_
 rintro e w5 ⟨rfl,m,s⟩
 rw[Z] at m ⊢
 have E:=zc m
 have J:Hid (IS z S w S w5):=M.out.trans s
 clear m s
 go_wp2_with fail
 refine (zeT C D o j z S q _ E.out).mono ?_
 rintro e wz ⟨rfl,hb⟩
 have HB:Hid (Below j w wz):=(X.out.back J.out).trans (hb.mono E.out.mem.base)
 have HX:Hid (zat C q= .error (zu C q.pos)):=HY.out
 unfold Pan
 go_wp2
 refine⟨rfl,?_⟩
 rw[HX.out]
 exact⟨rfl,HB.out⟩
theorem ztj (C:Cx) (D o j z:Nat) (S:Sv) (q:PS) (w:World) (h:IM C D o j z S q w) (J:zb0 C):
  Calls Tryz.prog 91 #[.pointer (some ⟨z,0,none⟩)] w (zT C D o j z (zat C q) id (fun _=>.tuple #[]) S w):=by
 cases E:isT C q.pos 4 zF with
 |true=>exact ztd C D o j z S q w h J E
 |false=>
  cases H:isT C q.pos 4 zp with
  |true=>exact zte C D o j z S q w h J E H
  |false=>
   cases I:isT C q.pos 1 sDefault with
   |true=>exact ztf C D o j z S q w h E H I
   |false=>
    cases K:isT C q.pos 1 sLet with
    |true=>exact ztg C D o j z S q w h J E H I K
    |false=>
     cases L:isT C q.pos 1 sFunction with
     |true=>exact zth C D o j z S q w h J E H I K L
     |false=>exact zti C D o j z S q w h E H I K L
end Go.Proofs.YthfeoomfiafldaaGreat
