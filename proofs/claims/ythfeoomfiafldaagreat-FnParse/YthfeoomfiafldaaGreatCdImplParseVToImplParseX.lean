/-
  What ContainsFunc over Exps answers,and a row of Exps whose elements are written: the walks.
  What exportNames of impl's parser answers: the walks. (It writes into the row that it is handed: so what is told is told from a world on in which that row was not yet there.)
  What exportItem of impl's parser answers: the walks.
-/
import Derived.Laws.OwnMore
import Derived.Test.YthfeoomfiafldaaGreatCdImplParseU
namespace Go.Proofs.YthfeoomfiafldaaGreat
set_option maxRecDepth 100000
set_option maxHeartbeats 3200000
open Go.RowKit Go.PlainAid Go.Sort
theorem zlW {α:Type} (f:α→List Value) (m:Nat) (o: ∀x,(f x).length=m): ∀(l:List α) (j i:Nat) (x y:α) (v:Value),l[j]? =some x→i<m→f y=(f x).set i v→(l.flatMap f).set (j*m+i) v=(l.set j y).flatMap f:=by
 intro l
 induction l with
 |nil=>intro j i x y v h;simp at h
 |cons z l H=>
  intro j i x y v h E D
  match j with
  |0=>
   simp only[List.getElem?_cons_zero,Option.some.injEq] at h
   subst h
   rw[List.flatMap_cons,Nat.zero_mul,Nat.zero_add,List.set_append_left _ _ (by rw[o];exact E),List.set_cons_zero,List.flatMap_cons,D]
  |j+1=>
   simp only[List.getElem?_cons_succ] at h
   rw[List.flatMap_cons,List.set_append_right _ _ (by rw[o,Nat.succ_mul];omega),o,List.set_cons_succ,List.flatMap_cons,←H j i x y v h E D]
   congr 2
   rw[Nat.succ_mul]
   omega
def mxE (s:ByteArray) (l:List Ep) (j:Nat):List Ep:=(l.take j).map (zaj s)++(l.drop j).map zD
theorem zlX (s:ByteArray) (l:List Ep) (j:Nat):(mxE s l j).length=l.length:=by simp[mxE];omega
theorem zlY {s:ByteArray} {l:List Ep} {j:Nat} {x:Ep} (h:l[j]? =some x):(mxE s l j)[j]? =some (zD x):=by
 obtain⟨o,rfl⟩:=List.getElem?_eq_some_iff.1 h
 have z:((l.take j).map (zaj s)).length=j:=by simp;omega
 rw[mxE,List.getElem?_append_right (by omega),z,Nat.sub_self,List.drop_eq_getElem_cons o]
 rfl
theorem zsQ {s:ByteArray} {l:List Ep} {j:Nat} {x:Ep} (h:l[j]? =some x):(mxE s l j).set j (zaj s x)=mxE s l (j+1):=by
 obtain⟨o,rfl⟩:=List.getElem?_eq_some_iff.1 h
 have z:((l.take j).map (zaj s)).length=j:=by simp;omega
 rw[mxE,List.set_append_right _ _ (by omega),z,Nat.sub_self,List.drop_eq_getElem_cons o,List.map_cons,List.set_cons_zero,mxE,List.take_succ_eq_append_getElem o,List.map_append,List.append_assoc]
 rfl
theorem zsR (s:ByteArray) (l:List Ep):mxE s l 0=l.map zD:=by simp[mxE]
theorem zsS (s:ByteArray) (l:List Ep):mxE s l l.length=l.map (zaj s):=by simp[mxE]
theorem zsT (x:Ep) (w:World):
  Calls Tryz.prog 139 #[epV x] w fun e j=>e= .returned (.bool (x.loc.toList==[100,101,102,97,117,108,116]))∧Below w.heap.size w j:=by
 unfold epV
 cases o:(x.loc.toList==[100,101,102,97,117,108,116]) with
 |true=>
  go_enter Tryz.func139,Tryz.ntmps139
  go_wp2
  go_ret
  exact⟨rfl,(Below.refl _ _).alloc (Nat.le_refl _) _⟩
 |false=>
  go_enter Tryz.func139,Tryz.ntmps139
  go_wp2
  go_ret
  exact⟨rfl,(Below.refl _ _).alloc (Nat.le_refl _) _⟩
theorem zsU {l:List Ep} {j:Nat} {x:Ep} (h:l[j]? =some x):za2 (l.drop j)=((x.loc.toList==[100,101,102,97,117,108,116])||za2 (l.drop (j+1))):=by
 obtain⟨o,rfl⟩:=List.getElem?_eq_some_iff.1 h
 rw[List.drop_eq_getElem_cons o]
 simp only[za2,List.any_cons]
theorem zsV (z g:Nat) (r:Rw) (l:List Ep) (w:World) (h:OwnR w z 77 4 r l.length (l.flatMap fun e=>epL (zD e))) (hl:l.length≤4000) (hg:r.a=some ⟨g,0,none⟩):
  Calls Tryz.prog 147 #[.slice (some ⟨g,0,none⟩) l.length r.cap,.func (.func 139) #[] #[]] w fun e w'=>(∃v:Int,e= .returned (.int .i64 v)∧decide (0≤v)=za2 l)∧Below w.heap.size w w':=by
 have V:=zc h
 have N:=zc hg
 clear h hg
 go_enter Tryz.func147,Tryz.ntmps147
 go_wp2
 go_loopg [8] (l.length+1) (fun k i wr=>∃j:Nat,i= .int .i64 j∧j+k=l.length+1∧za2 (l.drop j)=za2 l∧Below w.heap.size w wr)
 case atStart=>exact⟨0,rfl,by omega,by simp,Below.refl _ _⟩
 case round=>
  obtain⟨j,rfl,hj,Z,hb⟩:=hrel
  have O:=zc Z
  have L:=zc hb
  clear Z hb
  by_cases U:j<l.length
  ·have H:(j:Int)<(l.length:Int):=by omega
   obtain⟨x,M⟩:=zgd U
   have Q:=zc (V.out.keep fun k g=>L.out.block k (V.out.typed g).2.1)
   obtain⟨g',J,o⟩:=OwnR.elem (f:=fun e=>epL (zD e)) (m:=4) (fun _=>rfl) Q.out M
   have eg:g'=g:=by have:=J.symm.trans N.out;simpa using this
   subst eg
   have k0:=o 0 (by omega)
   have k1:=o 1 (by omega)
   have k2:=o 2 (by omega)
   have k3:=o 3 (by omega)
   simp only[epL,zD,Nat.add_zero,List.getElem?_cons_zero,List.getElem?_cons_succ] at k0 k1 k2 k3
   have X:=zc (zsU M)
   clear o J M
   obtain⟨K,D⟩: ∃K,K=j+1:=⟨_,rfl⟩
   have ej:(j:Int)+1=(K:Int):=by omega
   have Y:=zc D
   clear D
   go_wp2_with fail
   refine (zsT (zD x) _).mono ?_
   rintro e w1 ⟨rfl,I⟩
   have E:Hid (Below w.heap.size w w1):=L.out.trans (I.mono L.out.size)
   clear I
   rw[show (zD x).loc=x.loc from rfl]
   cases ex:(x.loc.toList==[100,101,102,97,117,108,116]) with
   |true=>
    go_wp2
    go_ret
    refine⟨⟨_,rfl,?_⟩,E.out⟩
    rw[←O.out,X.out,ex]
    simp
   |false=>
    go_wp2
    go_roundg (gk-1)
    case rel=>
     refine⟨K,rfl,by have:=Y.out;omega,?_,E.out⟩
     rw[←O.out,X.out,ex,Y.out]
     simp
    case measure=>omega
  ·have H: ¬(j:Int)<(l.length:Int):=by omega
   go_wp2
   go_ret
   refine⟨⟨_,rfl,?_⟩,L.out⟩
   rw[←O.out,List.drop_eq_nil_of_le (by omega)]
   rfl
theorem zlZ (j g:Nat) (r:Rw) (l:List Ep) (w:World) (h:OwnR w j 77 4 r l.length (l.flatMap fun e=>epL (zD e))) (L:l.length≤4000) (D:r.a=some ⟨g,0,none⟩):
  Calls Tryz.prog 140 #[.slice (some ⟨g,0,none⟩) l.length r.cap,.func (.func 139) #[] #[]] w fun e H=>e= .returned (.bool (za2 l))∧Below w.heap.size w H:=by
 have I:=zc h
 have o:=zc D
 clear h D
 go_enter Tryz.func140,Tryz.ntmps140
 go_wp2_with fail
 refine (zsV j g r l _ I.out L o.out).mono ?_
 rintro e M ⟨⟨v,rfl,z⟩,E⟩
 have J:=zc z
 have K:=zc E
 clear z E
 go_wp2
 go_ret
 exact⟨zq J.out,K.out⟩
def zaB (C:Cx) (l:List Ep) (q:PS):PR:=
 if isT C q.pos 1 zH||za2 l then bd (zd C 1 zH q) fun a=>bd (zy C a) fun b=>bd (zd C 4 cSemi b.1) fun c=>zK (fun e=>zm C (zaj b.2 e)) l (.ok c)
 else bd (zd C 4 cSemi q) fun c=>zK (fun e=>zm C (zD e)) l (.ok c)
theorem zma (X:Ep→Ep) (l:List Ep):(l.map X).flatMap epL=l.flatMap fun e=>epL (X e):=by rw[List.flatMap_map]
theorem zsW (C:Cx) (J z o D b0 g:Nat) (r:Rw) (S E:Sv) (q0 q:PS) (l:List Ep) (w wc:World) (hh:IM C J z o D S q0 w) (h:IM C J z o D E q wc) (h0:IS D S w E wc) (hl:l.length≤4000) (hf:Fr 77 4 wc b0 r l.length (l.flatMap (fun e=>epL (zD e))) E) (hg:r.a=some ⟨g,0,none⟩) (hi:isT C q.pos 1 zH=false) (ha:za2 l=false):
  Calls Tryz.prog 117 #[.pointer (some ⟨D,0,none⟩),.slice (some ⟨g,0,none⟩) l.length r.cap] wc (zT C J z o D (zaB C l q) id (fun _=>.tuple #[]) S w):=by
 have HH:=zc hh
 have HC:=zc h
 have H0:=zc h0
 have HF:=zc hf
 have HG:=zc hg
 have HY:Hid (zaB C l q=bd (zd C 4 cSemi q) fun c=>zK (fun e=>zm C (zD e)) l (.ok c)):=by show _=_;rw[zaB,hi,ha];rfl
 clear hh h h0 hf hg
 go_enter Tryz.func117,Tryz.ntmps117
 go_wp2_with fail
 refine (zco C J z o D E q 1 zH _ HC.out).mono ?_
 rintro e w1 ⟨rfl,H⟩
 rw[hi]
 have an:Hid (IM C J z o D E q w1):=HC.out.later H
 have al:Hid (IS D S w E w1):=(H0.out.trans (IS.below H))
 have ac:IS D E wc E w1:=IS.below H
 clear H
 have aa:Hid (Fr 77 4 w1 b0 r l.length (l.flatMap (fun e=>epL (zD e))) E):=HF.out.step HC.out (by decide) ac
 clear ac
 go_wp2_with fail
 refine (zlZ b0 g r l _ aa.out.1 hl HG.out).mono ?_
 rintro e w2 ⟨rfl,H⟩
 rw[ha]
 have aj:Hid (Fr 77 4 w2 b0 r l.length (l.flatMap (fun e=>epL (zD e))) E):=aa.out.later H
 have Z:Hid (IM C J z o D E q w2):=an.out.later H
 have ae:Hid (IS D S w E w2):=(al.out.trans (IS.below H))
 clear H
 go_wp2_with fail
 refine (zcw C J z o D E q 59 _ Z.out).mono ?_
 cases N:zd C 4 cSemi q with
 |error p=>
  rintro e w3 ⟨rfl,H⟩
  have HB:Hid (Below o w w3):=(HH.out.back ae.out).trans H
  have HX:Hid (zaB C l q= .error p):=bdE HY.out N
  unfold Pan
  go_wp2
  refine⟨rfl,?_⟩
  rw[HX.out]
  exact⟨rfl,HB.out⟩
 |ok a3=>
  rintro e w3 ⟨rfl,S3,m,s⟩
  have ap:Hid (Fr 77 4 w3 b0 r l.length (l.flatMap (fun e=>epL (zD e))) S3):=aj.out.step Z.out (by decide) s
  have aq:=zc m
  have ao:Hid (IS D S w S3 w3):=ae.out.trans s
  clear m s
  have ag:=zc (bdO HY.out N)
  have ad:0<a3.pos:=by rw[(zbh N).1];exact Nat.succ_pos _
  go_wp2
  go_loopg [39] l.length (fun k i wr=>∃(j:Nat) (K:Sv) (L:PS),i= .int .i64 j∧j+k=l.length∧zaB C l q=zK (fun e=>zm C (zD e)) (l.drop j) (.ok L)∧0<L.pos∧IM C J z o D K L wr∧IS D S w K wr∧Fr 77 4 wr b0 r l.length (l.flatMap fun e=>epL (zD e)) K)
  case atStart=>exact⟨0,S3,a3,rfl,by omega,ag.out,ad,aq.out,ao.out,ap.out⟩
  case round=>
   obtain⟨j,K,L,rfl,hj,hy,V,m',s',f'⟩:=hrel
   have Y:=zc hy
   have M:Hid (IM C J z o D K L wr):=m'
   have O:Hid (IS D S w K wr):=s'
   have ab:Hid (Fr 77 4 wr b0 r l.length (l.flatMap fun e=>epL (zD e)) K):=f'
   clear hy m' s' f'
   by_cases ai:j<l.length
   ·have U:(j:Int)<(l.length:Int):=by omega
    obtain⟨x,hx⟩:=zgd ai
    obtain⟨g',X,I⟩:=OwnR.elem (f:=fun e=>epL (zD e)) (m:=4) (fun _=>rfl) ab.out.1 hx
    have eg:g'=g:=by have:=X.symm.trans HG.out;simpa using this
    subst eg
    have k0:=I 0 (by omega)
    have k1:=I 1 (by omega)
    have k2:=I 2 (by omega)
    have k3:=I 3 (by omega)
    simp only[epL,zD,Nat.add_zero,List.getElem?_cons_zero,List.getElem?_cons_succ] at k0 k1 k2 k3
    have HZ:=zc (Y.out.trans (ziR (fun e=>zm C (zD e)) hx L))
    clear I X hx
    obtain⟨j1,Q⟩: ∃j1,j1=j+1:=⟨_,rfl⟩
    have ej:(j:Int)+1=(j1:Int):=by omega
    rw[←Q] at HZ
    have au:=M.out.lt
    have HJ:=zc Q
    clear Q
    go_wp2_with fail
    refine (zfF C J z o D K L (zD x) _ (M.out.alloc _) V).mono ?_
    cases hn:zm C (zD x) L with
    |error p=>
     rintro e wy ⟨rfl,H⟩
     have HB:Hid (Below o w wy):=(HH.out.back (O.out.alloc _)).trans H
     have HX:Hid (zaB C l q= .error p):=by show _=_;rw[HZ.out,hn];exact zhk _ _ _
     unfold Pan
     go_wp2
     refine⟨rfl,?_⟩
     rw[HX.out]
     exact⟨rfl,HB.out⟩
    |ok ay=>
     rintro e wy ⟨rfl,Sy,m,s⟩
     have ah:=zc m
     have ar:Hid (IS D S w Sy wy):=(O.out.alloc _).trans s
     have af:Hid (Fr 77 4 wy b0 r l.length (l.flatMap fun e=>epL (zD e)) Sy):=(ab.out.later ((Below.refl _ _).alloc (Nat.le_refl _) _)).step (M.out.alloc _) (by decide) s
     have ak:Hid (zaB C l q=zK (fun e=>zm C (zD e)) (l.drop j1) (.ok ay)):=by show _=_;rw[HZ.out,hn]
     have am:Hid (0<ay.pos):=by show 0<ay.pos;rw[zlU hn];exact V
     clear m s
     go_wp2
     go_roundg (gk-1)
     case rel=>exact⟨j1,Sy,ay,rfl,by have:=HJ.out;omega,ak.out,am.out,ah.out,ar.out,af.out⟩
     case measure=>omega
   ·have U: ¬(j:Int)<(l.length:Int):=by omega
    have HZ:Hid (zaB C l q= .ok L):=by show _=_;rw[Y.out,List.drop_eq_nil_of_le (by omega)];rfl
    go_wp2
    go_end0
    rw[HZ.out]
    exact⟨rfl,K,M.out,O.out⟩
theorem zsX (C:Cx) (H o j D b0 g:Nat) (r:Rw) (S z:Sv) (q0 q:PS) (l:List Ep) (w wc:World) (Y:IM C H o j D S q0 w) (h:IM C H o j D z q wc) (h0:IS D S w z wc) (hl:l.length≤4000) (Z:Fr 77 4 wc b0 r l.length (l.flatMap (fun e=>epL (zD e))) z) (hg:r.a=some ⟨g,0,none⟩) (L:isT C q.pos 1 zH=false) (X:za2 l=true):
  Calls Tryz.prog 117 #[.pointer (some ⟨D,0,none⟩),.slice (some ⟨g,0,none⟩) l.length r.cap] wc (zT C H o j D (zaB C l q) id (fun _=>.tuple #[]) S w):=by
 have HH:=zc Y
 have M:=zc h
 have H0:=zc h0
 have HF:=zc Z
 have HG:=zc hg
 have HY:Hid (zaB C l q= .error (zu C q.pos)):=by show _=_;rw[zaB,L,X,if_pos (by decide),zhN L];rfl
 clear Y h h0 Z hg
 go_enter Tryz.func117,Tryz.ntmps117
 go_wp2_with fail
 refine (zco C H o j D z q 1 zH _ M.out).mono ?_
 rintro e K ⟨rfl,E⟩
 rw[L]
 have V:Hid (IM C H o j D z q K):=M.out.later E
 have U:Hid (IS D S w z K):=(H0.out.trans (IS.below E))
 have I:IS D z wc z K:=IS.below E
 clear E
 have J:Hid (Fr 77 4 K b0 r l.length (l.flatMap (fun e=>epL (zD e))) z):=HF.out.step M.out (by decide) I
 clear I
 go_wp2_with fail
 refine (zlZ b0 g r l _ J.out.1 hl HG.out).mono ?_
 rintro e N ⟨rfl,E⟩
 rw[X]
 have aa:Hid (Fr 77 4 N b0 r l.length (l.flatMap (fun e=>epL (zD e))) z):=J.out.later E
 have Q:Hid (IM C H o j D z q N):=V.out.later E
 have O:Hid (IS D S w z N):=(U.out.trans (IS.below E))
 clear E
 go_wp2_with fail
 refine (zeU C H o j D z q zH _ Q.out).mono ?_
 rw[zhN L]
 rintro e w3 ⟨rfl,E⟩
 have HB:Hid (Below j w w3):=(HH.out.back O.out).trans E
 have HX:Hid (zaB C l q= .error (zu C q.pos)):=HY.out
 unfold Pan
 go_wp2
 refine⟨rfl,?_⟩
 rw[HX.out]
 exact⟨rfl,HB.out⟩
theorem zsY (C:Cx) (K z o D b0 g:Nat) (r:Rw) (S Y:Sv) (q0 q:PS) (l:List Ep) (w wc:World) (hh:IM C K z o D S q0 w) (h:IM C K z o D Y q wc) (h0:IS D S w Y wc) (hC:zb0 C) (hl:l.length≤4000) (hf:Fr 77 4 wc b0 r l.length (l.flatMap (fun e=>epL (zD e))) Y) (hg:r.a=some ⟨g,0,none⟩) (an:w.heap.size≤g) (hi:isT C q.pos 1 zH=true):
  Calls Tryz.prog 117 #[.pointer (some ⟨D,0,none⟩),.slice (some ⟨g,0,none⟩) l.length r.cap] wc (zT C K z o D (zaB C l q) id (fun _=>.tuple #[]) S w):=by
 have HH:=zc hh
 have HC:=zc h
 have H0:=zc h0
 have HF:=zc hf
 have HG:=zc hg
 have ak:=zc an
 have HY:Hid (zaB C l q=bd (zd C 1 zH q) fun a=>bd (zy C a) fun b=>bd (zd C 4 cSemi b.1) fun c=>zK (fun e=>zm C (zaj b.2 e)) l (.ok c)):=by show _=_;rw[zaB,hi];rfl
 clear hh h h0 hf hg an
 go_enter Tryz.func117,Tryz.ntmps117
 go_wp2_with fail
 refine (zco C K z o D Y q 1 zH _ HC.out).mono ?_
 rintro e w1 ⟨rfl,Q⟩
 rw[hi]
 have au:Hid (IM C K z o D Y q w1):=HC.out.later Q
 have ar:Hid (IS D S w Y w1):=(H0.out.trans (IS.below Q))
 have av:IS D Y wc Y w1:=IS.below Q
 clear Q
 have aJ:Hid (Fr 77 4 w1 b0 r l.length (l.flatMap (fun e=>epL (zD e))) Y):=HF.out.step HC.out (by decide) av
 clear av
 go_wp2_with fail
 refine (zeU C K z o D Y q zH _ au.out).mono ?_
 cases aw:zd C 1 zH q with
 |error p=>
  rintro e w2 ⟨rfl,Q⟩
  have HB:Hid (Below o w w2):=(HH.out.back ar.out).trans Q
  have Z:Hid (zaB C l q= .error p):=bdE HY.out aw
  unfold Pan
  go_wp2
  refine⟨rfl,?_⟩
  rw[Z.out]
  exact⟨rfl,HB.out⟩
 |ok a2=>
  rintro e w2 ⟨rfl,S2,m,s⟩
  have aL:Hid (Fr 77 4 w2 b0 r l.length (l.flatMap (fun e=>epL (zD e))) S2):=aJ.out.step au.out (by decide) s
  have am:=zc m
  have az:Hid (IS D S w S2 w2):=ar.out.trans s
  clear m s
  have aj:=zc (bdO HY.out aw)
  go_wp2_with fail
  refine (zgA C K z o D S2 a2 _ am.out hC).mono ?_
  cases ai:zy C a2 with
  |error p=>
   rintro e w3 ⟨rfl,Q⟩
   have HB:Hid (Below o w w3):=(HH.out.back az.out).trans Q
   have Z:Hid (zaB C l q= .error p):=bdE aj.out ai
   unfold Pan
   go_wp2
   refine⟨rfl,?_⟩
   rw[Z.out]
   exact⟨rfl,HB.out⟩
  |ok E=>
   rintro e w3 ⟨rfl,O,m,s⟩
   have ab:Hid (Fr 77 4 w3 b0 r l.length (l.flatMap (fun e=>epL (zD e))) O):=aL.out.step am.out (by decide) s
   have af:=zc m
   have aO:Hid (IS D S w O w3):=az.out.trans s
   clear m s
   have ag:=zc (bdO aj.out ai)
   have ae:Hid (Fr 77 4 w3 b0 r l.length ((mxE E.2 l 0).flatMap epL) O):=by show Fr _ _ _ _ _ _ _ _;rw[zsR,zma];exact ab.out
   have ad:g≠D:=ab.out.ngp af.out (by decide) (by rw[Rw.blk,HG.out];rfl)
   have ao:g≠K:=ab.out.ngt af.out (by decide) (by rw[Rw.blk,HG.out];rfl)
   have X:Hid (¬O.has g):=ab.out.2 g (by rw[Rw.blk,HG.out];rfl)
   have aq:=zc ad
   have aA:=zc ao
   clear ad ao
   go_wp2
   go_loopg [22] l.length (fun k i wr=>∃(j:Nat),i= .int .i64 j∧j+k=l.length∧IM C K z o D O E.1 wr∧IS D S w O wr∧Fr 77 4 wr b0 r l.length ((mxE E.2 l j).flatMap epL) O)
   case atStart=>exact⟨0,rfl,by omega,af.out,aO.out,ae.out⟩
   case round=>
    obtain⟨j,rfl,hj,m',s',f'⟩:=hrel
    have I:Hid (IM C K z o D O E.1 wr):=m'
    have J:Hid (IS D S w O wr):=s'
    have L:Hid (Fr 77 4 wr b0 r l.length ((mxE E.2 l j).flatMap epL) O):=f'
    clear m' s' f'
    by_cases aa:j<l.length
    ·have U:(j:Int)<(l.length:Int):=by omega
     obtain⟨x,hx⟩:=zgd aa
     have Z:=zc hx
     have N:=L.out.1
     have ho:OwnR wr b0 77 4 r (mxE E.2 l j).length ((mxE E.2 l j).flatMap epL):=by rw[zlX];exact N
     obtain⟨g',V,H⟩:=OwnR.elem (f:=epL) (m:=4) (fun _=>rfl) ho (zlY hx)
     have eg:g'=g:=by have:=V.symm.trans HG.out;simpa using this
     subst eg
     have k0:=H 0 (by omega)
     have k3:=H 3 (by omega)
     simp only[epL,zD,Nat.add_zero,List.getElem?_cons_zero,List.getElem?_cons_succ] at k0 k3
     unfold OwnR at N
     rw[HG.out] at N
     have aQ:=N.frozenAt
     have aK:=zc N
     clear H V hx N ho
     obtain⟨j1,M⟩: ∃j1,j1=j+1:=⟨_,rfl⟩
     have ej:(j:Int)+1=(j1:Int):=by omega
     have HJ:=zc M
     clear M
     go_wp2
     go_roundg (gk-1)
     case rel=>
      refine⟨j1,rfl,by have:=HJ.out;omega,(I.out.set aq.out aA.out X.out _ _).set aq.out aA.out X.out _ _,(J.out.new ak.out _ _).new ak.out _ _,?_,L.out.2⟩
      have aH:=(aK.out.stored (j*4+0) (.int .i64 2)).1
      have ap:=(aH.stored (j*4+3) (.string E.2)).1
      rw[zlW epL 4 (fun _=>rfl) _ j 0 (zD x) ⟨2,x.name,x.loc,sNone⟩ (.int .i64 2) (zlY Z.out) (by omega) rfl,zlW epL 4 (fun _=>rfl) ((mxE E.2 l j).set j ⟨2,x.name,x.loc,sNone⟩) j 3 ⟨2,x.name,x.loc,sNone⟩ (zaj E.2 x) (.string E.2) (List.getElem?_set_self (by rw[zlX];exact aa)) (by omega) rfl,List.set_set,zsQ Z.out,←HJ.out] at ap
      unfold OwnR
      rw[HG.out]
      exact ap
     case measure=>omega
    ·have U: ¬(j:Int)<(l.length:Int):=by omega
     have aC:j=l.length:=by omega
     subst aC
     have aF:Hid (Fr 77 4 wr b0 r l.length (l.flatMap fun e=>epL (zaj E.2 e)) O):=by show Fr _ _ _ _ _ _ _ _;rw[←zma,←zsS E.2 l];exact L.out
     go_wp2_with fail
     refine (zcw C K z o D O E.1 59 _ I.out).mono ?_
     cases ac:zd C 4 cSemi E.1 with
     |error p=>
      rintro e w4 ⟨rfl,Q⟩
      have HB:Hid (Below o w w4):=(HH.out.back J.out).trans Q
      have Z:Hid (zaB C l q= .error p):=bdE ag.out ac
      unfold Pan
      go_wp2
      refine⟨rfl,?_⟩
      rw[Z.out]
      exact⟨rfl,HB.out⟩
     |ok a4=>
      rintro e w4 ⟨rfl,S4,m,s⟩
      have ae:Hid (Fr 77 4 w4 b0 r l.length (l.flatMap fun e=>epL (zaj E.2 e)) S4):=aF.out.step I.out (by decide) s
      have aD:=zc m
      have aE:Hid (IS D S w S4 w4):=J.out.trans s
      clear m s
      have aG:=zc (bdO ag.out ac)
      have ax:0<a4.pos:=by rw[(zbh ac).1];exact Nat.succ_pos _
      go_wp2
      go_loopg [39] l.length (fun k i wr=>∃(j:Nat) (S':Sv) (q':PS),i= .int .i64 j∧j+k=l.length∧zaB C l q=zK (fun e=>zm C (zaj E.2 e)) (l.drop j) (.ok q')∧0<q'.pos∧IM C K z o D S' q' wr∧IS D S w S' wr∧Fr 77 4 wr b0 r l.length (l.flatMap fun e=>epL (zaj E.2 e)) S')
      case atStart=>exact⟨0,S4,a4,rfl,by omega,aG.out,ax,aD.out,aE.out,ae.out⟩
      case round=>
       obtain⟨j,S',q',rfl,hj,hy,ah,m',s',f'⟩:=hrel
       have al:=zc hy
       have I:Hid (IM C K z o D S' q' wr):=m'
       have J:Hid (IS D S w S' wr):=s'
       have L:Hid (Fr 77 4 wr b0 r l.length (l.flatMap fun e=>epL (zaj E.2 e)) S'):=f'
       clear hy m' s' f'
       by_cases aa:j<l.length
       ·have U:(j:Int)<(l.length:Int):=by omega
        obtain⟨x,hx⟩:=zgd aa
        obtain⟨g',V,H⟩:=OwnR.elem (f:=fun e=>epL (zaj E.2 e)) (m:=4) (fun _=>rfl) L.out.1 hx
        have eg:g'=g:=by have:=V.symm.trans HG.out;simpa using this
        subst eg
        have k0:=H 0 (by omega)
        have k1:=H 1 (by omega)
        have k2:=H 2 (by omega)
        have k3:=H 3 (by omega)
        simp only[epL,zaj,Nat.add_zero,List.getElem?_cons_zero,List.getElem?_cons_succ] at k0 k1 k2 k3
        have HZ:=zc (al.out.trans (ziR (fun e=>zm C (zaj E.2 e)) hx q'))
        clear H V hx
        obtain⟨j1,M⟩: ∃j1,j1=j+1:=⟨_,rfl⟩
        have ej:(j:Int)+1=(j1:Int):=by omega
        rw[←M] at HZ
        have ad:=I.out.lt
        have HJ:=zc M
        clear M
        go_wp2_with fail
        refine (zfF C K z o D S' q' (zaj E.2 x) _ (I.out.alloc _) ah).mono ?_
        cases hn:zm C (zaj E.2 x) q' with
        |error p=>
         rintro e wy ⟨rfl,Q⟩
         have HB:Hid (Below o w wy):=(HH.out.back (J.out.alloc _)).trans Q
         have Z:Hid (zaB C l q= .error p):=by show _=_;rw[HZ.out,hn];exact zhk _ _ _
         unfold Pan
         go_wp2
         refine⟨rfl,?_⟩
         rw[Z.out]
         exact⟨rfl,HB.out⟩
        |ok ay=>
         rintro e wy ⟨rfl,Sy,m,s⟩
         have aI:=zc m
         have aP:Hid (IS D S w Sy wy):=(J.out.alloc _).trans s
         have aB:Hid (Fr 77 4 wy b0 r l.length (l.flatMap fun e=>epL (zaj E.2 e)) Sy):=(L.out.later ((Below.refl _ _).alloc (Nat.le_refl _) _)).step (I.out.alloc _) (by decide) s
         have aM:Hid (zaB C l q=zK (fun e=>zm C (zaj E.2 e)) (l.drop j1) (.ok ay)):=by show _=_;rw[HZ.out,hn]
         have aN:Hid (0<ay.pos):=by show 0<ay.pos;rw[zlU hn];exact ah
         clear m s
         go_wp2
         go_roundg (gk-1)
         case rel=>exact⟨j1,Sy,ay,rfl,by have:=HJ.out;omega,aM.out,aN.out,aI.out,aP.out,aB.out⟩
         case measure=>omega
       ·have U: ¬(j:Int)<(l.length:Int):=by omega
        have HZ:Hid (zaB C l q= .ok q'):=by show _=_;rw[al.out,List.drop_eq_nil_of_le (by omega)];rfl
        go_wp2
        go_end0
        rw[HZ.out]
        exact⟨rfl,S',I.out,J.out⟩
theorem zsZ (C:Cx) (E o j z b0:Nat) (r:Rw) (S D:Sv) (J q:PS) (l:List Ep) (w wc:World) (Q:IM C E o j z S J w) (h:IM C E o j z D q wc) (N:IS z S w D wc) (X:zb0 C) (U:l.length≤4000) (L:l.length≠0) (I:Fr 77 4 wc b0 r l.length (l.flatMap (fun e=>epL (zD e))) D) (O:w.heap.size≤b0):
  Calls Tryz.prog 117 #[.pointer (some ⟨z,0,none⟩),.slice r.a l.length r.cap] wc (zT C E o j z (zaB C l q) id (fun _=>.tuple #[]) S w):=by
 rcases I.1.nil_or with ⟨_,_,e⟩|⟨g,H⟩
 ·exact absurd e L
 ·have K:w.heap.size≤g:=Nat.le_trans O (I.1.typed (show r.blk=some g by rw[Rw.blk,H];rfl)).1
  rw[H]
  cases M:isT C q.pos 1 zH with
  |true=>exact zsY C E o j z b0 g r S D J q l w wc Q h N X U I H K M
  |false=>
   cases V:za2 l with
   |true=>exact zsX C E o j z b0 g r S D J q l w wc Q h N U I H M V
   |false=>exact zsW C E o j z b0 g r S D J q l w wc Q h N U I H M V
theorem zta {C:Cx} {k:Int} {n:ByteArray} {q b:PS} (h:zE C k n q= .ok b):b={q with st:=q.st++[⟨k,n,(q.ex.length:Int)-1⟩]}:=by
 unfold zE at h
 split at h
 ·cases h
 ·cases h
  rfl
theorem ziT {C:Cx} {k:Int} {n s:ByteArray} {q b:PS} (h:stmtI C k n s q= .ok b) (H:0<s.size):(∃l e,b.st=l++[⟨k,n,e⟩])∧0<b.pos:=by
 obtain⟨a,I,E⟩:=ze h
 obtain⟨c,o,j⟩:=ze E
 have D:=zjX _ o
 have z:=zta j
 subst z
 refine⟨⟨_,_,rfl⟩,?_⟩
 rw[D]
 show 0<a.pos+s.size
 omega
theorem ztb {C:Cx} {k:Int} {q b:PS} (h:letJ C k q= .ok b):(∃l e,b.st=l++[⟨k,(zf C q.pos).text,e⟩])∧0<b.pos:=by
 obtain⟨a,j,o⟩:=ze h
 obtain⟨c,D,z⟩:=ze o
 have:=ziT z (by decide)
 rw[(zaX j).1] at this
 exact this
theorem ztc {C:Cx} {q b:PS} (h:fnI C q= .ok b):(∃l e,b.st=l++[⟨2,(zf C q.pos).text,e⟩])∧0<b.pos:=by
 obtain⟨a,z,D⟩:=ze h
 obtain⟨c,E,j⟩:=ze D
 obtain⟨d,H,o⟩:=ze j
 have:=ziT o (by decide)
 rw[(zaX z).1] at this
 exact this
theorem zmb (C:Cx) (D o j z:Nat) (S:Sv) (q:PS) (l:List Sm) (k e:Int) (n:ByteArray) (w:World) (h:IM C D o j z S q w) (H:q.st=l++[⟨k,n,e⟩]) (E:n.size≤281474976710656) (I:0<q.pos):
  Calls Tryz.prog 120 #[.pointer (some ⟨z,0,none⟩)] w (zT C D o j z (zm C ⟨1,n,n,sNone⟩ q) id (fun _=>.tuple #[]) S w):=zoU C D o j z S q l ⟨k,n,e⟩ w h H E I
def zat (C:Cx) (q:PS):PR:=
 if isT C q.pos 4 zF then bd (zay C true (adv q) []) fun a=>zaB C a.2 a.1
 else if isT C q.pos 4 zp then bd (zd C 1 zH (adv q)) fun a=>bd (zy C a) fun b=>bd (zd C 4 cSemi b.1) fun c=>zm C ⟨3,sNone,sNone,b.2⟩ c
 else if isT C q.pos 1 sDefault then bd (stmtI C 1 zbp cSemi (adv q)) fun a=>zm C ⟨1,sDefault,zbp,sNone⟩ a
 else if isT C q.pos 1 sLet then bd (letJ C 1 (adv q)) fun a=>zm C ⟨1,(zf C (q.pos+1)).text,(zf C (q.pos+1)).text,sNone⟩ a
 else if isT C q.pos 1 sFunction then bd (fnI C (adv q)) fun a=>zm C ⟨1,(zf C (q.pos+1)).text,(zf C (q.pos+1)).text,sNone⟩ a
 else .error (zu C q.pos)
theorem ztd (C:Cx) (K o j z:Nat) (S:Sv) (q:PS) (w:World) (h:IM C K o j z S q w) (hC:zb0 C) (h1:isT C q.pos 4 zF=true):
  Calls Tryz.prog 91 #[.pointer (some ⟨z,0,none⟩)] w (zT C K o j z (zat C q) id (fun _=>.tuple #[]) S w):=by
 have HH:=zc h
 have HY:Hid (zat C q=bd (zay C true (adv q) []) fun a=>zaB C a.2 a.1):=by show _=_;rw[zat,h1];rfl
 clear h
 go_enter Tryz.func91,Tryz.ntmps91
 go_wp2_with fail
 refine (zP C K o j z S q 4 zF _ HH.out (by decide)).mono ?_
 rintro e w1 ⟨rfl,m,s⟩
 rw[h1] at m ⊢
 have Y:=zc m
 have D:=zc s
 clear m s
 go_wp2_with fail
 refine (zsP C K o j z S (adv q) _ Y.out).mono ?_
 cases J:zay C true (adv q) [] with
 |error p=>
  rintro e U ⟨rfl,Z⟩
  have V:Hid (Below j w U):=(HH.out.back D.out).trans Z
  have H:Hid (zat C q= .error p):=bdE HY.out J
  unfold Pan
  go_wp2
  refine⟨rfl,?_⟩
  rw[H.out]
  exact⟨rfl,V.out⟩
 |ok L=>
  rintro e U ⟨r,S3,rfl,m,s,f,l0,l1⟩
  have Q:=zc m
  have M:Hid (IS z S w S3 U):=D.out.trans s
  have N:=zc f
  clear m s f
  have I:=zc (bdO HY.out J)
  go_wp2_with fail
  refine (zsZ C K o j z _ r S S3 q L.1 L.2 w _ HH.out Q.out M.out hC l1 (by omega) N.out D.out.size).mono ?_
  cases E:zaB C L.2 L.1 with
  |error p=>
   rintro e w4 ⟨rfl,Z⟩
   have V:=zc Z
   have H:=zc (I.out.trans E)
   unfold Pan
   go_wp2
   refine⟨rfl,?_⟩
   rw[H.out]
   exact⟨rfl,V.out⟩
  |ok a4=>
   rintro e w4 ⟨rfl,S4,m,s⟩
   have X:=zc m
   have O:=zc s
   clear m s
   have H:=zc (I.out.trans E)
   go_wp2
   go_end0
   rw[H.out]
   exact⟨rfl,S4,X.out,O.out⟩
theorem zte (C:Cx) (D o j z:Nat) (S:Sv) (q:PS) (w:World) (h:IM C D o j z S q w) (hC:zb0 C) (h1:isT C q.pos 4 zF=false) (h2:isT C q.pos 4 zp=true):
  Calls Tryz.prog 91 #[.pointer (some ⟨z,0,none⟩)] w (zT C D o j z (zat C q) id (fun _=>.tuple #[]) S w):=by
 have HH:=zc h
 have HY:Hid (zat C q=bd (zd C 1 zH (adv q)) fun a=>bd (zy C a) fun b=>bd (zd C 4 cSemi b.1) fun c=>zm C ⟨3,sNone,sNone,b.2⟩ c):=by show _=_;rw[zat,h1,h2];rfl
 clear h
 go_enter Tryz.func91,Tryz.ntmps91
 go_wp2_with fail
 refine (zP C D o j z S q 4 zF _ HH.out (by decide)).mono ?_
 rintro e w1 ⟨rfl,m,s⟩
 rw[h1] at m ⊢
 have ai:=zc m
 have ag:=zc s
 clear m s
 go_wp2_with fail
 refine (zP C D o j z S q 4 zp _ ai.out (by decide)).mono ?_
 rintro e w2 ⟨rfl,m,s⟩
 rw[h2] at m ⊢
 have ae:=zc m
 have U:Hid (IS z S w S w2):=ag.out.trans s
 clear m s
 go_wp2_with fail
 refine (zeU C D o j z S (adv q) zH _ ae.out).mono ?_
 cases X:zd C 1 zH (adv q) with
 |error p=>
  rintro e w3 ⟨rfl,J⟩
  have I:Hid (Below j w w3):=(HH.out.back U.out).trans J
  have H:Hid (zat C q= .error p):=bdE HY.out X
  unfold Pan
  go_wp2
  refine⟨rfl,?_⟩
  rw[H.out]
  exact⟨rfl,I.out⟩
 |ok a3=>
  rintro e w3 ⟨rfl,S3,m,s⟩
  have ac:=zc m
  have M:Hid (IS z S w S3 w3):=U.out.trans s
  clear m s
  have Q:=zc (bdO HY.out X)
  go_wp2_with fail
  refine (zgA C D o j z S3 a3 _ ac.out hC).mono ?_
  cases K:zy C a3 with
  |error p=>
   rintro e w4 ⟨rfl,J⟩
   have I:Hid (Below j w w4):=(HH.out.back M.out).trans J
   have H:Hid (zat C q= .error p):=bdE Q.out K
   unfold Pan
   go_wp2
   refine⟨rfl,?_⟩
   rw[H.out]
   exact⟨rfl,I.out⟩
  |ok a4=>
   rintro e w4 ⟨rfl,S4,m,s⟩
   have ah:=zc m
   have O:Hid (IS z S w S4 w4):=M.out.trans s
   clear m s
   have L:=zc (bdO Q.out K)
   go_wp2_with fail
   refine (zcw C D o j z S4 a4.1 59 _ ah.out).mono ?_
   cases E:zd C 4 cSemi a4.1 with
   |error p=>
    rintro e w5 ⟨rfl,J⟩
    have I:Hid (Below j w w5):=(HH.out.back O.out).trans J
    have H:Hid (zat C q= .error p):=bdE L.out E
    unfold Pan
    go_wp2
    refine⟨rfl,?_⟩
    rw[H.out]
    exact⟨rfl,I.out⟩
   |ok a5=>
    rintro e w5 ⟨rfl,S5,m,s⟩
    have af:=zc m
    have V:Hid (IS z S w S5 w5):=O.out.trans s
    clear m s
    have Y:=zc (bdO L.out E)
    have N:0<a5.pos:=by rw[(zbh E).1];exact Nat.succ_pos _
    go_wp2_with fail
    refine (zfF C D o j z S5 a5 ⟨3,sNone,sNone,a4.2⟩ _ af.out N).mono ?_
    cases Z:zm C ⟨3,sNone,sNone,a4.2⟩ a5 with
    |error p=>
     rintro e w6 ⟨rfl,J⟩
     have I:Hid (Below j w w6):=(HH.out.back V.out).trans J
     have H:Hid (zat C q= .error p):=Y.out.trans Z
     unfold Pan
     go_wp2
     refine⟨rfl,?_⟩
     rw[H.out]
     exact⟨rfl,I.out⟩
    |ok a6=>
     rintro e w6 ⟨rfl,S6,m,s⟩
     have aa:=zc m
     have ab:Hid (IS z S w S6 w6):=V.out.trans s
     clear m s
     have ad:=zc (Y.out.trans Z)
     go_wp2
     go_end0
     rw[ad.out]
     exact⟨rfl,S6,aa.out,ab.out⟩
theorem ztf (C:Cx) (E o j z:Nat) (S:Sv) (q:PS) (w:World) (h:IM C E o j z S q w) (h1:isT C q.pos 4 zF=false) (h2:isT C q.pos 4 zp=false) (h3:isT C q.pos 1 sDefault=true):
  Calls Tryz.prog 91 #[.pointer (some ⟨z,0,none⟩)] w (zT C E o j z (zat C q) id (fun _=>.tuple #[]) S w):=by
 have HH:=zc h
 have HY:Hid (zat C q=bd (stmtI C 1 zbp cSemi (adv q)) fun a=>zm C ⟨1,sDefault,zbp,sNone⟩ a):=by show _=_;rw[zat,h1,h2,h3];rfl
 clear h
 go_enter Tryz.func91,Tryz.ntmps91
 go_wp2_with fail
 refine (zP C E o j z S q 4 zF _ HH.out (by decide)).mono ?_
 rintro e w1 ⟨rfl,m,s⟩
 rw[h1] at m ⊢
 have ad:=zc m
 have ab:=zc s
 clear m s
 go_wp2_with fail
 refine (zP C E o j z S q 4 zp _ ad.out (by decide)).mono ?_
 rintro e w2 ⟨rfl,m,s⟩
 rw[h2] at m ⊢
 have Y:=zc m
 have U:Hid (IS z S w S w2):=ab.out.trans s
 clear m s
 go_wp2_with fail
 refine (zP C E o j z S q 1 sDefault _ Y.out (by decide)).mono ?_
 rintro e w3 ⟨rfl,m,s⟩
 rw[h3] at m ⊢
 have N:=zc m
 have J:Hid (IS z S w S w3):=U.out.trans s
 clear m s
 go_wp2_with fail
 refine (zer C E o j z S (adv q) 1 zbp cSemi _ N.out (by decide) (by decide)).mono ?_
 cases D:stmtI C 1 zbp cSemi (adv q) with
 |error p=>
  rintro e M ⟨rfl,hb⟩
  have Q:Hid (Below j w M):=(HH.out.back J.out).trans hb
  have O:Hid (zat C q= .error p):=bdE HY.out D
  unfold Pan
  go_wp2
  refine⟨rfl,?_⟩
  rw[O.out]
  exact⟨rfl,Q.out⟩
 |ok a4=>
  rintro e M ⟨rfl,S4,m,s⟩
  have ac:=zc m
  have L:Hid (IS z S w S4 M):=J.out.trans s
  clear m s
  have H:=zc (bdO HY.out D)
  have K:=(ziT D (by decide)).2
  go_wp2_with fail
  refine (zfF C E o j z S4 a4 ⟨1,sDefault,zbp,sNone⟩ _ ac.out K).mono ?_
  cases I:zm C ⟨1,sDefault,zbp,sNone⟩ a4 with
  |error p=>
   rintro e V ⟨rfl,hb⟩
   have Q:Hid (Below j w V):=(HH.out.back L.out).trans hb
   have O:Hid (zat C q= .error p):=H.out.trans I
   unfold Pan
   go_wp2
   refine⟨rfl,?_⟩
   rw[O.out]
   exact⟨rfl,Q.out⟩
  |ok a5=>
   rintro e V ⟨rfl,S5,m,s⟩
   have Z:=zc m
   have X:Hid (IS z S w S5 V):=L.out.trans s
   clear m s
   have aa:=zc (H.out.trans I)
   go_wp2
   go_end0
   rw[aa.out]
   exact⟨rfl,S5,Z.out,X.out⟩
theorem ztg (C:Cx) (D o j z:Nat) (S:Sv) (q:PS) (w:World) (h:IM C D o j z S q w) (hC:zb0 C) (h1:isT C q.pos 4 zF=false) (h2:isT C q.pos 4 zp=false) (h3:isT C q.pos 1 sDefault=false) (h4:isT C q.pos 1 sLet=true):
  Calls Tryz.prog 91 #[.pointer (some ⟨z,0,none⟩)] w (zT C D o j z (zat C q) id (fun _=>.tuple #[]) S w):=by
 have HH:=zc h
 have HY:Hid (zat C q=bd (letJ C 1 (adv q)) fun a=>zm C ⟨1,(zf C (q.pos+1)).text,(zf C (q.pos+1)).text,sNone⟩ a):=by show _=_;rw[zat,h1,h2,h3,h4];rfl
 clear h
 go_enter Tryz.func91,Tryz.ntmps91
 go_wp2_with fail
 refine (zP C D o j z S q 4 zF _ HH.out (by decide)).mono ?_
 rintro e w1 ⟨rfl,m,s⟩
 rw[h1] at m ⊢
 have af:=zc m
 have ad:=zc s
 clear m s
 go_wp2_with fail
 refine (zP C D o j z S q 4 zp _ af.out (by decide)).mono ?_
 rintro e w2 ⟨rfl,m,s⟩
 rw[h2] at m ⊢
 have ab:=zc m
 have aa:Hid (IS z S w S w2):=ad.out.trans s
 clear m s
 go_wp2_with fail
 refine (zP C D o j z S q 1 sDefault _ ab.out (by decide)).mono ?_
 rintro e w3 ⟨rfl,m,s⟩
 rw[h3] at m ⊢
 have V:=zc m
 have N:Hid (IS z S w S w3):=aa.out.trans s
 clear m s
 go_wp2_with fail
 refine (zP C D o j z S q 1 sLet _ V.out (by decide)).mono ?_
 rintro e w4 ⟨rfl,m,s⟩
 rw[h4] at m ⊢
 have ae:=zc m
 have I:Hid (IS z S w S w4):=N.out.trans s
 clear m s
 go_wp2_with fail
 refine (zhV C D o j z S (adv q) _ ae.out).mono ?_
 cases E:letJ C 1 (adv q) with
 |error p=>
  rintro e w5 ⟨rfl,hb⟩
  have Z:Hid (Below j w w5):=(HH.out.back I.out).trans hb
  have X:Hid (zat C q= .error p):=bdE HY.out E
  unfold Pan
  go_wp2
  refine⟨rfl,?_⟩
  rw[X.out]
  exact⟨rfl,Z.out⟩
 |ok a5=>
  rintro e w5 ⟨rfl,S5,m,s⟩
  have ac:=zc m
  have J:Hid (IS z S w S5 w5):=I.out.trans s
  clear m s
  have L:=zc (bdO HY.out E)
  obtain⟨⟨l,e,K⟩,H⟩:=ztb E
  have Q:=zc K
  clear K
  go_wp2_with fail
  refine (zmb C D o j z S5 a5 l _ _ (zf C (q.pos+1)).text _ ac.out Q.out (hC _) H).mono ?_
  cases M:zm C ⟨1,(zf C (q.pos+1)).text,(zf C (q.pos+1)).text,sNone⟩ a5 with
  |error p=>
   rintro e w6 ⟨rfl,hb⟩
   have Z:Hid (Below j w w6):=(HH.out.back J.out).trans hb
   have X:Hid (zat C q= .error p):=L.out.trans M
   unfold Pan
   go_wp2
   refine⟨rfl,?_⟩
   rw[X.out]
   exact⟨rfl,Z.out⟩
  |ok a6=>
   rintro e w6 ⟨rfl,S6,m,s⟩
   have O:=zc m
   have U:Hid (IS z S w S6 w6):=J.out.trans s
   clear m s
   have Y:=zc (L.out.trans M)
   go_wp2
   go_end0
   rw[Y.out]
   exact⟨rfl,S6,O.out,U.out⟩
theorem zth (C:Cx) (D o j z:Nat) (S:Sv) (q:PS) (w:World) (h:IM C D o j z S q w) (hC:zb0 C) (h1:isT C q.pos 4 zF=false) (h2:isT C q.pos 4 zp=false) (h3:isT C q.pos 1 sDefault=false) (h4:isT C q.pos 1 sLet=false) (h5:isT C q.pos 1 sFunction=true):
  Calls Tryz.prog 91 #[.pointer (some ⟨z,0,none⟩)] w (zT C D o j z (zat C q) id (fun _=>.tuple #[]) S w):=by
 have HH:=zc h
 have HY:Hid (zat C q=bd (fnI C (adv q)) fun a=>zm C ⟨1,(zf C (q.pos+1)).text,(zf C (q.pos+1)).text,sNone⟩ a):=by show _=_;rw[zat,h1,h2,h3,h4,h5];rfl
 clear h
 go_enter Tryz.func91,Tryz.ntmps91
 go_wp2_with fail
 refine (zP C D o j z S q 4 zF _ HH.out (by decide)).mono ?_
 rintro e w1 ⟨rfl,m,s⟩
 rw[h1] at m ⊢
 have ag:=zc m
 have ae:=zc s
 clear m s
 go_wp2_with fail
 refine (zP C D o j z S q 4 zp _ ag.out (by decide)).mono ?_
 rintro e w2 ⟨rfl,m,s⟩
 rw[h2] at m ⊢
 have ac:=zc m
 have aa:Hid (IS z S w S w2):=ae.out.trans s
 clear m s
 go_wp2_with fail
 refine (zP C D o j z S q 1 sDefault _ ac.out (by decide)).mono ?_
 rintro e w3 ⟨rfl,m,s⟩
 rw[h3] at m ⊢
 have X:=zc m
 have N:Hid (IS z S w S w3):=aa.out.trans s
 clear m s
 go_wp2_with fail
 refine (zP C D o j z S q 1 sLet _ X.out (by decide)).mono ?_
 rintro e w4 ⟨rfl,m,s⟩
 rw[h4] at m ⊢
 have af:=zc m
 have V:Hid (IS z S w S w4):=N.out.trans s
 clear m s
 go_wp2_with fail
 refine (zP C D o j z S q 1 sFunction _ af.out (by decide)).mono ?_
 rintro e w5 ⟨rfl,m,s⟩
 rw[h5] at m ⊢
 have ad:=zc m
 have L:Hid (IS z S w S w5):=V.out.trans s
 clear m s
 go_wp2_with fail
 refine (zhW C D o j z S (adv q) _ ad.out).mono ?_
 cases E:fnI C (adv q) with
 |error p=>
  rintro e w6 ⟨rfl,hb⟩
  have HB:Hid (Below j w w6):=(HH.out.back L.out).trans hb
  have Y:Hid (zat C q= .error p):=bdE HY.out E
  unfold Pan
  go_wp2
  refine⟨rfl,?_⟩
  rw[Y.out]
  exact⟨rfl,HB.out⟩
 |ok a6=>
  rintro e w6 ⟨rfl,S6,m,s⟩
  have O:=zc m
  have H:Hid (IS z S w S6 w6):=L.out.trans s
  clear m s
  have K:=zc (bdO HY.out E)
  obtain⟨⟨l,e,M⟩,I⟩:=ztc E
  have Q:=zc M
  clear M
  go_wp2_with fail
  refine (zmb C D o j z S6 a6 l _ _ (zf C (q.pos+1)).text _ O.out Q.out (hC _) I).mono ?_
  cases J:zm C ⟨1,(zf C (q.pos+1)).text,(zf C (q.pos+1)).text,sNone⟩ a6 with
  |error p=>
   rintro e w7 ⟨rfl,hb⟩
   have HB:Hid (Below j w w7):=(HH.out.back H.out).trans hb
   have Y:Hid (zat C q= .error p):=K.out.trans J
   unfold Pan
   go_wp2
   refine⟨rfl,?_⟩
   rw[Y.out]
   exact⟨rfl,HB.out⟩
  |ok a7=>
   rintro e w7 ⟨rfl,S7,m,s⟩
   have ab:=zc m
   have U:Hid (IS z S w S7 w7):=H.out.trans s
   clear m s
   have Z:=zc (K.out.trans J)
   go_wp2
   go_end0
   rw[Z.out]
   exact⟨rfl,S7,ab.out,U.out⟩
theorem zti (C:Cx) (D o j z:Nat) (S:Sv) (q:PS) (w:World) (h:IM C D o j z S q w) (U:isT C q.pos 4 zF=false) (Z:isT C q.pos 4 zp=false) (V:isT C q.pos 1 sDefault=false) (Y:isT C q.pos 1 sLet=false) (X:isT C q.pos 1 sFunction=false):
  Calls Tryz.prog 91 #[.pointer (some ⟨z,0,none⟩)] w (zT C D o j z (zat C q) id (fun _=>.tuple #[]) S w):=by
 have HH:=zc h
 have HY:Hid (zat C q= .error (zu C q.pos)):=by show _=_;rw[zat,U,Z,V,Y,X];rfl
 clear h
 go_enter Tryz.func91,Tryz.ntmps91
 go_wp2_with fail
 refine (zP C D o j z S q 4 zF _ HH.out (by decide)).mono ?_
 rintro e w1 ⟨rfl,m,s⟩
 rw[U] at m ⊢
 have Q:=zc m
 have N:=zc s
 clear m s
 go_wp2_with fail
 refine (zP C D o j z S q 4 zp _ Q.out (by decide)).mono ?_
 rintro e w2 ⟨rfl,m,s⟩
 rw[Z] at m ⊢
 have M:=zc m
 have K:Hid (IS z S w S w2):=N.out.trans s
 clear m s
 go_wp2_with fail
 refine (zP C D o j z S q 1 sDefault _ M.out (by decide)).mono ?_
 rintro e w3 ⟨rfl,m,s⟩
 rw[V] at m ⊢
 have J:=zc m
 have H:Hid (IS z S w S w3):=K.out.trans s
 clear m s
 go_wp2_with fail
 refine (zP C D o j z S q 1 sLet _ J.out (by decide)).mono ?_
 rintro e w4 ⟨rfl,m,s⟩
 rw[Y] at m ⊢
 have O:=zc m
 have I:Hid (IS z S w S w4):=H.out.trans s
 clear m s
 go_wp2_with fail
 refine (zP C D o j z S q 1 sFunction _ O.out (by decide)).mono ?_
 rintro e w5 ⟨rfl,m,s⟩
 rw[X] at m ⊢
 have E:=zc m
 have L:Hid (IS z S w S w5):=I.out.trans s
 clear m s
 go_wp2_with fail
 refine (zeT C D o j z S q _ E.out).mono ?_
 rintro e wz ⟨rfl,hb⟩
 have HB:Hid (Below j w wz):=(HH.out.back L.out).trans (hb.mono E.out.mem.base)
 have HX:Hid (zat C q= .error (zu C q.pos)):=HY.out
 unfold Pan
 go_wp2
 refine⟨rfl,?_⟩
 rw[HX.out]
 exact⟨rfl,HB.out⟩
theorem ztj (C:Cx) (D o j z:Nat) (S:Sv) (q:PS) (w:World) (h:IM C D o j z S q w) (I:zb0 C):
  Calls Tryz.prog 91 #[.pointer (some ⟨z,0,none⟩)] w (zT C D o j z (zat C q) id (fun _=>.tuple #[]) S w):=by
 cases E:isT C q.pos 4 zF with
 |true=>exact ztd C D o j z S q w h I E
 |false=>
  cases H:isT C q.pos 4 zp with
  |true=>exact zte C D o j z S q w h I E H
  |false=>
   cases J:isT C q.pos 1 sDefault with
   |true=>exact ztf C D o j z S q w h E H J
   |false=>
    cases K:isT C q.pos 1 sLet with
    |true=>exact ztg C D o j z S q w h I E H J K
    |false=>
     cases L:isT C q.pos 1 sFunction with
     |true=>exact zth C D o j z S q w h I E H J K L
     |false=>exact zti C D o j z S q w h E H J K L
end Go.Proofs.YthfeoomfiafldaaGreat
