/-
  What ContainsFunc over Exps answers,and a row of Exps whose elements are written: the walks.
  What exportNames of impl's parser answers: the walks. (It writes into the row that it is handed: so what is told is told from a world on in which that row was not yet there.)
  What exportItem of impl's parser answers: the walks.
-/
import Derived.Laws.OwnMore
import Derived.Test.YticdggnnpjachaaGreatCcImplParseU
namespace Go.Proofs.YticdggnnpjachaaGreat
set_option maxRecDepth 100000
set_option maxHeartbeats 3200000
open Go.RowKit Go.PlainAid Go.Sort
theorem zi0 {α:Type} (f:α→List Value) (m:Nat) (n: ∀x,(f x).length=m): ∀(l:List α) (j i:Nat) (x y:α) (v:Value),l[j]? =some x→i<m→f y=(f x).set i v→(l.flatMap f).set (j*m+i) v=(l.set j y).flatMap f:=by
 intro l
 induction l with
 |nil=>intro j i x y v h;simp at h
 |cons z l w=>
  intro j i x y v h o q
  match j with
  |0=>
   simp only[List.getElem?_cons_zero,Option.some.injEq] at h
   subst h
   rw[List.flatMap_cons,Nat.zero_mul,Nat.zero_add,List.set_append_left _ _ (by rw[n];exact o),List.set_cons_zero,List.flatMap_cons,q]
  |j+1=>
   simp only[List.getElem?_cons_succ] at h
   rw[List.flatMap_cons,List.set_append_right _ _ (by rw[n,Nat.succ_mul];omega),n,List.set_cons_succ,List.flatMap_cons,←w j i x y v h o q]
   congr 2
   rw[Nat.succ_mul]
   omega
def mxE (s:ByteArray) (l:List Ep) (j:Nat):List Ep:=(l.take j).map (zal s)++(l.drop j).map zz
theorem zi1 (s:ByteArray) (l:List Ep) (j:Nat):(mxE s l j).length=l.length:=by simp[mxE];omega
theorem zi2 {s:ByteArray} {l:List Ep} {j:Nat} {x:Ep} (h:l[j]? =some x):(mxE s l j)[j]? =some (zz x):=by
 obtain⟨o,rfl⟩:=List.getElem?_eq_some_iff.1 h
 have n:((l.take j).map (zal s)).length=j:=by simp;omega
 rw[mxE,List.getElem?_append_right (by omega),n,Nat.sub_self,List.drop_eq_getElem_cons o]
 rfl
theorem zmY {s:ByteArray} {l:List Ep} {j:Nat} {x:Ep} (h:l[j]? =some x):(mxE s l j).set j (zal s x)=mxE s l (j+1):=by
 obtain⟨n,rfl⟩:=List.getElem?_eq_some_iff.1 h
 have o:((l.take j).map (zal s)).length=j:=by simp;omega
 rw[mxE,List.set_append_right _ _ (by omega),o,Nat.sub_self,List.drop_eq_getElem_cons n,List.map_cons,List.set_cons_zero,mxE,List.take_succ_eq_append_getElem n,List.map_append,List.append_assoc]
 rfl
theorem zmZ (s:ByteArray) (l:List Ep):mxE s l 0=l.map zz:=by simp[mxE]
theorem zna (s:ByteArray) (l:List Ep):mxE s l l.length=l.map (zal s):=by simp[mxE]
theorem znb (x:Ep) (w:World):
  Calls Tryz.prog 198 #[epV x] w fun e h=>e= .returned (.bool (x.loc.toList==[100,101,102,97,117,108,116]))∧Below w.heap.size w h:=by
 unfold epV
 cases j:(x.loc.toList==[100,101,102,97,117,108,116]) with
 |true=>
  go_enter Tryz.func198,Tryz.ntmps198
  go_wp2
  go_ret
  exact⟨rfl,(Below.refl _ _).alloc (Nat.le_refl _) _⟩
 |false=>
  go_enter Tryz.func198,Tryz.ntmps198
  go_wp2
  go_ret
  exact⟨rfl,(Below.refl _ _).alloc (Nat.le_refl _) _⟩
theorem znc {l:List Ep} {j:Nat} {x:Ep} (h:l[j]? =some x):za5 (l.drop j)=((x.loc.toList==[100,101,102,97,117,108,116])||za5 (l.drop (j+1))):=by
 obtain⟨n,rfl⟩:=List.getElem?_eq_some_iff.1 h
 rw[List.drop_eq_getElem_cons n]
 simp only[za5,List.any_cons]
theorem znd (A g:Nat) (r:Rw) (l:List Ep) (w:World) (h:OwnR w A 102 4 r l.length (l.flatMap fun e=>epL (zz e))) (hl:l.length≤4000) (V:r.a=some ⟨g,0,none⟩):
  Calls Tryz.prog 205 #[.slice (some ⟨g,0,none⟩) l.length r.cap,.func (.func 198) #[] #[]] w fun e w'=>(∃v:Int,e= .returned (.int .i64 v)∧decide (0≤v)=za5 l)∧Below w.heap.size w w':=by
 have U:=zc h
 have K:=zc V
 clear h V
 go_enter Tryz.func205,Tryz.ntmps205
 go_wp2
 go_loopg [8] (l.length+1) (fun k i wr=>∃j:Nat,i= .int .i64 j∧j+k=l.length+1∧za5 (l.drop j)=za5 l∧Below w.heap.size w wr)
 case atStart=>exact⟨0,rfl,by omega,by simp,Below.refl _ _⟩
 case round=>
  obtain⟨j,rfl,hj,O,X⟩:=hrel
  have M:=zc O
  have H:=zc X
  clear O X
  by_cases L:j<l.length
  ·have z:(j:Int)<(l.length:Int):=by omega
   obtain⟨x,J⟩:=ze1 L
   have N:=zc (U.out.keep fun k g=>H.out.block k (U.out.typed g).2.1)
   obtain⟨g',q,n⟩:=OwnR.elem (f:=fun e=>epL (zz e)) (m:=4) (fun _=>rfl) N.out J
   have eg:g'=g:=by have:=q.symm.trans K.out;simpa using this
   subst eg
   have k0:=n 0 (by omega)
   have k1:=n 1 (by omega)
   have k2:=n 2 (by omega)
   have k3:=n 3 (by omega)
   simp only[epL,zz,Nat.add_zero,List.getElem?_cons_zero,List.getElem?_cons_succ] at k0 k1 k2 k3
   have Z:=zc (znc J)
   clear n q J
   obtain⟨I,E⟩: ∃I,I=j+1:=⟨_,rfl⟩
   have ej:(j:Int)+1=(I:Int):=by omega
   have HJ:=zc E
   clear E
   go_wp2_with fail
   refine (znb (zz x) _).mono ?_
   rintro e w1 ⟨rfl,o⟩
   have D:Hid (Below w.heap.size w w1):=H.out.trans (o.mono H.out.size)
   clear o
   rw[show (zz x).loc=x.loc from rfl]
   cases Y:(x.loc.toList==[100,101,102,97,117,108,116]) with
   |true=>
    go_wp2
    go_ret
    refine⟨⟨_,rfl,?_⟩,D.out⟩
    rw[←M.out,Z.out,Y]
    simp
   |false=>
    go_wp2
    go_roundg (gk-1)
    case rel=>
     refine⟨I,rfl,by have:=HJ.out;omega,?_,D.out⟩
     rw[←M.out,Z.out,Y,HJ.out]
     simp
    case measure=>omega
  ·have z: ¬(j:Int)<(l.length:Int):=by omega
   go_wp2
   go_ret
   refine⟨⟨_,rfl,?_⟩,H.out⟩
   rw[←M.out,List.drop_eq_nil_of_le (by omega)]
   rfl
theorem zi3 (j g:Nat) (r:Rw) (l:List Ep) (w:World) (h:OwnR w j 102 4 r l.length (l.flatMap fun e=>epL (zz e))) (H:l.length≤4000) (q:r.a=some ⟨g,0,none⟩):
  Calls Tryz.prog 199 #[.slice (some ⟨g,0,none⟩) l.length r.cap,.func (.func 198) #[] #[]] w fun e D=>e= .returned (.bool (za5 l))∧Below w.heap.size w D:=by
 have A:=zc h
 have n:=zc q
 clear h q
 go_enter Tryz.func199,Tryz.ntmps199
 go_wp2_with fail
 refine (znd j g r l _ A.out H n.out).mono ?_
 rintro e J ⟨⟨v,rfl,o⟩,z⟩
 have E:=zc o
 have I:=zc z
 clear o z
 go_wp2
 go_ret
 exact⟨zl E.out,I.out⟩
def za2 (C:Cx) (l:List Ep) (q:PS):PR:=
 if isT C q.pos 1 zP||za5 l then bd (zd C 1 zP q) fun a=>bd (zG C a) fun b=>bd (zd C 4 cSemi b.1) fun c=>zR (fun e=>zn C (zal b.2 e)) l (.ok c)
 else bd (zd C 4 cSemi q) fun c=>zR (fun e=>zn C (zz e)) l (.ok c)
theorem zi4 (X:Ep→Ep) (l:List Ep):(l.map X).flatMap epL=l.flatMap fun e=>epL (X e):=by rw[List.flatMap_map]
theorem zne (C:Cx) (H o n z b0 g:Nat) (r:Rw) (S A:Sv) (q0 q:PS) (l:List Ep) (w wc:World) (hh:IM C H o n z S q0 w) (h:IM C H o n z A q wc) (h0:IS z S w A wc) (hl:l.length≤4000) (hf:Fr 102 4 wc b0 r l.length (l.flatMap (fun e=>epL (zz e))) A) (hg:r.a=some ⟨g,0,none⟩) (hi:isT C q.pos 1 zP=false) (ha:za5 l=false):
  Calls Tryz.prog 176 #[.pointer (some ⟨z,0,none⟩),.slice (some ⟨g,0,none⟩) l.length r.cap] wc (zN C H o n z (za2 C l q) id (fun _=>.tuple #[]) S w):=by
 have HH:=zc hh
 have HC:=zc h
 have H0:=zc h0
 have HF:=zc hf
 have HG:=zc hg
 have HY:Hid (za2 C l q=bd (zd C 4 cSemi q) fun c=>zR (fun e=>zn C (zz e)) l (.ok c)):=by show _=_;rw[za2,hi,ha];rfl
 clear hh h h0 hf hg
 go_enter Tryz.func176,Tryz.ntmps176
 go_wp2_with fail
 refine (zbI C H o n z A q 1 zP _ HC.out).mono ?_
 rintro e w1 ⟨rfl,D⟩
 rw[hi]
 have aj:Hid (IM C H o n z A q w1):=HC.out.later D
 have ap:Hid (IS z S w A w1):=(H0.out.trans (IS.below D))
 have ae:IS z A wc A w1:=IS.below D
 clear D
 have ab:Hid (Fr 102 4 w1 b0 r l.length (l.flatMap (fun e=>epL (zz e))) A):=HF.out.step HC.out (by decide) ae
 clear ae
 go_wp2_with fail
 refine (zi3 b0 g r l _ ab.out.1 hl HG.out).mono ?_
 rintro e w2 ⟨rfl,D⟩
 rw[ha]
 have aq:Hid (Fr 102 4 w2 b0 r l.length (l.flatMap (fun e=>epL (zz e))) A):=ab.out.later D
 have ac:Hid (IM C H o n z A q w2):=aj.out.later D
 have Y:Hid (IS z S w A w2):=(ap.out.trans (IS.below D))
 clear D
 go_wp2_with fail
 refine (zbQ C H o n z A q 59 _ ac.out).mono ?_
 cases L:zd C 4 cSemi q with
 |error p=>
  rintro e w3 ⟨rfl,D⟩
  have HB:Hid (Below n w w3):=(HH.out.back Y.out).trans D
  have HX:Hid (za2 C l q= .error p):=bdE HY.out L
  unfold Pan
  go_wp2
  refine⟨rfl,?_⟩
  rw[HX.out]
  exact⟨rfl,HB.out⟩
 |ok a3=>
  rintro e w3 ⟨rfl,S3,m,s⟩
  have am:Hid (Fr 102 4 w3 b0 r l.length (l.flatMap (fun e=>epL (zz e))) S3):=aq.out.step ac.out (by decide) s
  have al:=zc m
  have af:Hid (IS z S w S3 w3):=Y.out.trans s
  clear m s
  have ar:=zc (bdO HY.out L)
  have Z:0<a3.pos:=by rw[(zb0 L).1];exact Nat.succ_pos _
  go_wp2
  go_loopg [39] l.length (fun k i wr=>∃(j:Nat) (J:Sv) (K:PS),i= .int .i64 j∧j+k=l.length∧za2 C l q=zR (fun e=>zn C (zz e)) (l.drop j) (.ok K)∧0<K.pos∧IM C H o n z J K wr∧IS z S w J wr∧Fr 102 4 wr b0 r l.length (l.flatMap fun e=>epL (zz e)) J)
  case atStart=>exact⟨0,S3,a3,rfl,by omega,ar.out,Z,al.out,af.out,am.out⟩
  case round=>
   obtain⟨j,J,K,rfl,hj,hy,aa,m',s',f'⟩:=hrel
   have X:=zc hy
   have I:Hid (IM C H o n z J K wr):=m'
   have M:Hid (IS z S w J wr):=s'
   have U:Hid (Fr 102 4 wr b0 r l.length (l.flatMap fun e=>epL (zz e)) J):=f'
   clear hy m' s' f'
   by_cases ah:j<l.length
   ·have ad:(j:Int)<(l.length:Int):=by omega
    obtain⟨x,hx⟩:=ze1 ah
    obtain⟨g',O,E⟩:=OwnR.elem (f:=fun e=>epL (zz e)) (m:=4) (fun _=>rfl) U.out.1 hx
    have eg:g'=g:=by have:=O.symm.trans HG.out;simpa using this
    subst eg
    have k0:=E 0 (by omega)
    have k1:=E 1 (by omega)
    have k2:=E 2 (by omega)
    have k3:=E 3 (by omega)
    simp only[epL,zz,Nat.add_zero,List.getElem?_cons_zero,List.getElem?_cons_succ] at k0 k1 k2 k3
    have HZ:=zc (X.out.trans (zgi (fun e=>zn C (zz e)) hx K))
    clear E O hx
    obtain⟨V,N⟩: ∃V,V=j+1:=⟨_,rfl⟩
    have ej:(j:Int)+1=(V:Int):=by omega
    rw[←N] at HZ
    have as:=I.out.lt
    have HJ:=zc N
    clear N
    go_wp2_with fail
    refine (zet C H o n z J K (zz x) _ (I.out.alloc _) aa).mono ?_
    cases hn:zn C (zz x) K with
    |error p=>
     rintro e wy ⟨rfl,D⟩
     have HB:Hid (Below n w wy):=(HH.out.back (M.out.alloc _)).trans D
     have HX:Hid (za2 C l q= .error p):=by show _=_;rw[HZ.out,hn];exact zfr _ _ _
     unfold Pan
     go_wp2
     refine⟨rfl,?_⟩
     rw[HX.out]
     exact⟨rfl,HB.out⟩
    |ok ay=>
     rintro e wy ⟨rfl,Sy,m,s⟩
     have ai:=zc m
     have ak:Hid (IS z S w Sy wy):=(M.out.alloc _).trans s
     have ao:Hid (Fr 102 4 wy b0 r l.length (l.flatMap fun e=>epL (zz e)) Sy):=(U.out.later ((Below.refl _ _).alloc (Nat.le_refl _) _)).step (I.out.alloc _) (by decide) s
     have ag:Hid (za2 C l q=zR (fun e=>zn C (zz e)) (l.drop V) (.ok ay)):=by show _=_;rw[HZ.out,hn]
     have an:Hid (0<ay.pos):=by show 0<ay.pos;rw[ziy hn];exact aa
     clear m s
     go_wp2
     go_roundg (gk-1)
     case rel=>exact⟨V,Sy,ay,rfl,by have:=HJ.out;omega,ag.out,an.out,ai.out,ak.out,ao.out⟩
     case measure=>omega
   ·have ad: ¬(j:Int)<(l.length:Int):=by omega
    have HZ:Hid (za2 C l q= .ok K):=by show _=_;rw[X.out,List.drop_eq_nil_of_le (by omega)];rfl
    go_wp2
    go_end0
    rw[HZ.out]
    exact⟨rfl,J,I.out,M.out⟩
theorem znf (C:Cx) (D n j z b0 g:Nat) (r:Rw) (S o:Sv) (q0 q:PS) (l:List Ep) (w wc:World) (hh:IM C D n j z S q0 w) (h:IM C D n j z o q wc) (V:IS z S w o wc) (hl:l.length≤4000) (Y:Fr 102 4 wc b0 r l.length (l.flatMap (fun e=>epL (zz e))) o) (X:r.a=some ⟨g,0,none⟩) (J:isT C q.pos 1 zP=false) (Z:za5 l=true):
  Calls Tryz.prog 176 #[.pointer (some ⟨z,0,none⟩),.slice (some ⟨g,0,none⟩) l.length r.cap] wc (zN C D n j z (za2 C l q) id (fun _=>.tuple #[]) S w):=by
 have HH:=zc hh
 have L:=zc h
 have H0:=zc V
 have HF:=zc Y
 have HG:=zc X
 have HY:Hid (za2 C l q= .error (zq C q.pos)):=by show _=_;rw[za2,J,Z,if_pos (by decide),zfN J];rfl
 clear hh h V Y X
 go_enter Tryz.func176,Tryz.ntmps176
 go_wp2_with fail
 refine (zbI C D n j z o q 1 zP _ L.out).mono ?_
 rintro e I ⟨rfl,A⟩
 rw[J]
 have O:Hid (IM C D n j z o q I):=L.out.later A
 have K:Hid (IS z S w o I):=(H0.out.trans (IS.below A))
 have H:IS z o wc o I:=IS.below A
 clear A
 have E:Hid (Fr 102 4 I b0 r l.length (l.flatMap (fun e=>epL (zz e))) o):=HF.out.step L.out (by decide) H
 clear H
 go_wp2_with fail
 refine (zi3 b0 g r l _ E.out.1 hl HG.out).mono ?_
 rintro e U ⟨rfl,A⟩
 rw[Z]
 have aa:Hid (Fr 102 4 U b0 r l.length (l.flatMap (fun e=>epL (zz e))) o):=E.out.later A
 have N:Hid (IM C D n j z o q U):=O.out.later A
 have M:Hid (IS z S w o U):=(K.out.trans (IS.below A))
 clear A
 go_wp2_with fail
 refine (zdH C D n j z o q zP _ N.out).mono ?_
 rw[zfN J]
 rintro e w3 ⟨rfl,A⟩
 have HB:Hid (Below j w w3):=(HH.out.back M.out).trans A
 have HX:Hid (za2 C l q= .error (zq C q.pos)):=HY.out
 unfold Pan
 go_wp2
 refine⟨rfl,?_⟩
 rw[HX.out]
 exact⟨rfl,HB.out⟩
theorem zng (C:Cx) (I o n z b0 g:Nat) (r:Rw) (S Z:Sv) (q0 q:PS) (l:List Ep) (w wc:World) (hh:IM C I o n z S q0 w) (h:IM C I o n z Z q wc) (h0:IS z S w Z wc) (hC:zaV C) (hl:l.length≤4000) (hf:Fr 102 4 wc b0 r l.length (l.flatMap (fun e=>epL (zz e))) Z) (hg:r.a=some ⟨g,0,none⟩) (ap:w.heap.size≤g) (hi:isT C q.pos 1 zP=true):
  Calls Tryz.prog 176 #[.pointer (some ⟨z,0,none⟩),.slice (some ⟨g,0,none⟩) l.length r.cap] wc (zN C I o n z (za2 C l q) id (fun _=>.tuple #[]) S w):=by
 have HH:=zc hh
 have HC:=zc h
 have H0:=zc h0
 have HF:=zc hf
 have HG:=zc hg
 have al:=zc ap
 have HY:Hid (za2 C l q=bd (zd C 1 zP q) fun a=>bd (zG C a) fun b=>bd (zd C 4 cSemi b.1) fun c=>zR (fun e=>zn C (zal b.2 e)) l (.ok c)):=by show _=_;rw[za2,hi];rfl
 clear hh h h0 hf hg ap
 go_enter Tryz.func176,Tryz.ntmps176
 go_wp2_with fail
 refine (zbI C I o n z Z q 1 zP _ HC.out).mono ?_
 rintro e w1 ⟨rfl,N⟩
 rw[hi]
 have aj:Hid (IM C I o n z Z q w1):=HC.out.later N
 have au:Hid (IS z S w Z w1):=(H0.out.trans (IS.below N))
 have ax:IS z Z wc Z w1:=IS.below N
 clear N
 have aK:Hid (Fr 102 4 w1 b0 r l.length (l.flatMap (fun e=>epL (zz e))) Z):=HF.out.step HC.out (by decide) ax
 clear ax
 go_wp2_with fail
 refine (zdH C I o n z Z q zP _ aj.out).mono ?_
 cases ag:zd C 1 zP q with
 |error p=>
  rintro e w2 ⟨rfl,N⟩
  have HB:Hid (Below n w w2):=(HH.out.back au.out).trans N
  have Y:Hid (za2 C l q= .error p):=bdE HY.out ag
  unfold Pan
  go_wp2
  refine⟨rfl,?_⟩
  rw[Y.out]
  exact⟨rfl,HB.out⟩
 |ok a2=>
  rintro e w2 ⟨rfl,S2,m,s⟩
  have aL:Hid (Fr 102 4 w2 b0 r l.length (l.flatMap (fun e=>epL (zz e))) S2):=aK.out.step aj.out (by decide) s
  have aw:=zc m
  have aq:Hid (IS z S w S2 w2):=au.out.trans s
  clear m s
  have ak:=zc (bdO HY.out ag)
  go_wp2_with fail
  refine (zfa C I o n z S2 a2 _ aw.out hC).mono ?_
  cases ah:zG C a2 with
  |error p=>
   rintro e w3 ⟨rfl,N⟩
   have HB:Hid (Below n w w3):=(HH.out.back aq.out).trans N
   have Y:Hid (za2 C l q= .error p):=bdE ak.out ah
   unfold Pan
   go_wp2
   refine⟨rfl,?_⟩
   rw[Y.out]
   exact⟨rfl,HB.out⟩
  |ok A=>
   rintro e w3 ⟨rfl,M,m,s⟩
   have ab:Hid (Fr 102 4 w3 b0 r l.length (l.flatMap (fun e=>epL (zz e))) M):=aL.out.step aw.out (by decide) s
   have ac:=zc m
   have aB:Hid (IS z S w M w3):=aq.out.trans s
   clear m s
   have az:=zc (bdO ak.out ah)
   have ad:Hid (Fr 102 4 w3 b0 r l.length ((mxE A.2 l 0).flatMap epL) M):=by show Fr _ _ _ _ _ _ _ _;rw[zmZ,zi4];exact ab.out
   have ae:g≠z:=ab.out.ngp ac.out (by decide) (by rw[Rw.blk,HG.out];rfl)
   have ai:g≠I:=ab.out.ngt ac.out (by decide) (by rw[Rw.blk,HG.out];rfl)
   have U:Hid (¬M.has g):=ab.out.2 g (by rw[Rw.blk,HG.out];rfl)
   have av:=zc ae
   have ao:=zc ai
   clear ae ai
   go_wp2
   go_loopg [22] l.length (fun k i wr=>∃(j:Nat),i= .int .i64 j∧j+k=l.length∧IM C I o n z M A.1 wr∧IS z S w M wr∧Fr 102 4 wr b0 r l.length ((mxE A.2 l j).flatMap epL) M)
   case atStart=>exact⟨0,rfl,by omega,ac.out,aB.out,ad.out⟩
   case round=>
    obtain⟨j,rfl,hj,m',s',f'⟩:=hrel
    have E:Hid (IM C I o n z M A.1 wr):=m'
    have H:Hid (IS z S w M wr):=s'
    have J:Hid (Fr 102 4 wr b0 r l.length ((mxE A.2 l j).flatMap epL) M):=f'
    clear m' s' f'
    by_cases aa:j<l.length
    ·have V:(j:Int)<(l.length:Int):=by omega
     obtain⟨x,hx⟩:=ze1 aa
     have Y:=zc hx
     have K:=J.out.1
     have ho:OwnR wr b0 102 4 r (mxE A.2 l j).length ((mxE A.2 l j).flatMap epL):=by rw[zi1];exact K
     obtain⟨g',O,D⟩:=OwnR.elem (f:=epL) (m:=4) (fun _=>rfl) ho (zi2 hx)
     have eg:g'=g:=by have:=O.symm.trans HG.out;simpa using this
     subst eg
     have k0:=D 0 (by omega)
     have k3:=D 3 (by omega)
     simp only[epL,zz,Nat.add_zero,List.getElem?_cons_zero,List.getElem?_cons_succ] at k0 k3
     unfold OwnR at K
     rw[HG.out] at K
     have aP:=K.frozenAt
     have aO:=zc K
     clear D O hx K ho
     obtain⟨X,L⟩: ∃X,X=j+1:=⟨_,rfl⟩
     have ej:(j:Int)+1=(X:Int):=by omega
     have HJ:=zc L
     clear L
     go_wp2
     go_roundg (gk-1)
     case rel=>
      refine⟨X,rfl,by have:=HJ.out;omega,(E.out.set av.out ao.out U.out _ _).set av.out ao.out U.out _ _,(H.out.new al.out _ _).new al.out _ _,?_,J.out.2⟩
      have aG:=(aO.out.stored (j*4+0) (.int .i64 2)).1
      have am:=(aG.stored (j*4+3) (.string A.2)).1
      rw[zi0 epL 4 (fun _=>rfl) _ j 0 (zz x) ⟨2,x.name,x.loc,sNone⟩ (.int .i64 2) (zi2 Y.out) (by omega) rfl,zi0 epL 4 (fun _=>rfl) ((mxE A.2 l j).set j ⟨2,x.name,x.loc,sNone⟩) j 3 ⟨2,x.name,x.loc,sNone⟩ (zal A.2 x) (.string A.2) (List.getElem?_set_self (by rw[zi1];exact aa)) (by omega) rfl,List.set_set,zmY Y.out,←HJ.out] at am
      unfold OwnR
      rw[HG.out]
      exact am
     case measure=>omega
    ·have V: ¬(j:Int)<(l.length:Int):=by omega
     have aN:j=l.length:=by omega
     subst aN
     have aM:Hid (Fr 102 4 wr b0 r l.length (l.flatMap fun e=>epL (zal A.2 e)) M):=by show Fr _ _ _ _ _ _ _ _;rw[←zi4,←zna A.2 l];exact J.out
     go_wp2_with fail
     refine (zbQ C I o n z M A.1 59 _ E.out).mono ?_
     cases af:zd C 4 cSemi A.1 with
     |error p=>
      rintro e w4 ⟨rfl,N⟩
      have HB:Hid (Below n w w4):=(HH.out.back H.out).trans N
      have Y:Hid (za2 C l q= .error p):=bdE az.out af
      unfold Pan
      go_wp2
      refine⟨rfl,?_⟩
      rw[Y.out]
      exact⟨rfl,HB.out⟩
     |ok a4=>
      rintro e w4 ⟨rfl,S4,m,s⟩
      have ad:Hid (Fr 102 4 w4 b0 r l.length (l.flatMap fun e=>epL (zal A.2 e)) S4):=aM.out.step E.out (by decide) s
      have aI:=zc m
      have aA:Hid (IS z S w S4 w4):=H.out.trans s
      clear m s
      have aF:=zc (bdO az.out af)
      have ar:0<a4.pos:=by rw[(zb0 af).1];exact Nat.succ_pos _
      go_wp2
      go_loopg [39] l.length (fun k i wr=>∃(j:Nat) (S':Sv) (q':PS),i= .int .i64 j∧j+k=l.length∧za2 C l q=zR (fun e=>zn C (zal A.2 e)) (l.drop j) (.ok q')∧0<q'.pos∧IM C I o n z S' q' wr∧IS z S w S' wr∧Fr 102 4 wr b0 r l.length (l.flatMap fun e=>epL (zal A.2 e)) S')
      case atStart=>exact⟨0,S4,a4,rfl,by omega,aF.out,ar,aI.out,aA.out,ad.out⟩
      case round=>
       obtain⟨j,S',q',rfl,hj,hy,as,m',s',f'⟩:=hrel
       have an:=zc hy
       have E:Hid (IM C I o n z S' q' wr):=m'
       have H:Hid (IS z S w S' wr):=s'
       have J:Hid (Fr 102 4 wr b0 r l.length (l.flatMap fun e=>epL (zal A.2 e)) S'):=f'
       clear hy m' s' f'
       by_cases aa:j<l.length
       ·have V:(j:Int)<(l.length:Int):=by omega
        obtain⟨x,hx⟩:=ze1 aa
        obtain⟨g',O,D⟩:=OwnR.elem (f:=fun e=>epL (zal A.2 e)) (m:=4) (fun _=>rfl) J.out.1 hx
        have eg:g'=g:=by have:=O.symm.trans HG.out;simpa using this
        subst eg
        have k0:=D 0 (by omega)
        have k1:=D 1 (by omega)
        have k2:=D 2 (by omega)
        have k3:=D 3 (by omega)
        simp only[epL,zal,Nat.add_zero,List.getElem?_cons_zero,List.getElem?_cons_succ] at k0 k1 k2 k3
        have HZ:=zc (an.out.trans (zgi (fun e=>zn C (zal A.2 e)) hx q'))
        clear D O hx
        obtain⟨X,L⟩: ∃X,X=j+1:=⟨_,rfl⟩
        have ej:(j:Int)+1=(X:Int):=by omega
        rw[←L] at HZ
        have ae:=E.out.lt
        have HJ:=zc L
        clear L
        go_wp2_with fail
        refine (zet C I o n z S' q' (zal A.2 x) _ (E.out.alloc _) as).mono ?_
        cases hn:zn C (zal A.2 x) q' with
        |error p=>
         rintro e wy ⟨rfl,N⟩
         have HB:Hid (Below n w wy):=(HH.out.back (H.out.alloc _)).trans N
         have Y:Hid (za2 C l q= .error p):=by show _=_;rw[HZ.out,hn];exact zfr _ _ _
         unfold Pan
         go_wp2
         refine⟨rfl,?_⟩
         rw[Y.out]
         exact⟨rfl,HB.out⟩
        |ok ay=>
         rintro e wy ⟨rfl,Sy,m,s⟩
         have aD:=zc m
         have aE:Hid (IS z S w Sy wy):=(H.out.alloc _).trans s
         have aJ:Hid (Fr 102 4 wy b0 r l.length (l.flatMap fun e=>epL (zal A.2 e)) Sy):=(J.out.later ((Below.refl _ _).alloc (Nat.le_refl _) _)).step (E.out.alloc _) (by decide) s
         have aC:Hid (za2 C l q=zR (fun e=>zn C (zal A.2 e)) (l.drop X) (.ok ay)):=by show _=_;rw[HZ.out,hn]
         have aH:Hid (0<ay.pos):=by show 0<ay.pos;rw[ziy hn];exact as
         clear m s
         go_wp2
         go_roundg (gk-1)
         case rel=>exact⟨X,Sy,ay,rfl,by have:=HJ.out;omega,aC.out,aH.out,aD.out,aE.out,aJ.out⟩
         case measure=>omega
       ·have V: ¬(j:Int)<(l.length:Int):=by omega
        have HZ:Hid (za2 C l q= .ok q'):=by show _=_;rw[an.out,List.drop_eq_nil_of_le (by omega)];rfl
        go_wp2
        go_end0
        rw[HZ.out]
        exact⟨rfl,S',E.out,H.out⟩
theorem znh (C:Cx) (A n j o b0:Nat) (r:Rw) (S z:Sv) (H q:PS) (l:List Ep) (w wc:World) (N:IM C A n j o S H w) (h:IM C A n j o z q wc) (I:IS o S w z wc) (V:zaV C) (M:l.length≤4000) (L:l.length≠0) (E:Fr 102 4 wc b0 r l.length (l.flatMap (fun e=>epL (zz e))) z) (J:w.heap.size≤b0):
  Calls Tryz.prog 176 #[.pointer (some ⟨o,0,none⟩),.slice r.a l.length r.cap] wc (zN C A n j o (za2 C l q) id (fun _=>.tuple #[]) S w):=by
 rcases E.1.nil_or with ⟨_,_,e⟩|⟨g,D⟩
 ·exact absurd e L
 ·have K:w.heap.size≤g:=Nat.le_trans J (E.1.typed (show r.blk=some g by rw[Rw.blk,D];rfl)).1
  rw[D]
  cases O:isT C q.pos 1 zP with
  |true=>exact zng C A n j o b0 g r S z H q l w wc N h I V M E D K O
  |false=>
   cases U:za5 l with
   |true=>exact znf C A n j o b0 g r S z H q l w wc N h I M E D O U
   |false=>exact zne C A n j o b0 g r S z H q l w wc N h I M E D O U
theorem zni {C:Cx} {k:Int} {n:ByteArray} {q b:PS} (h:zX C k n q= .ok b):b={q with st:=q.st++[⟨k,n,(q.ex.length:Int)-1⟩]}:=by
 unfold zX at h
 split at h
 ·cases h
 ·cases h
  rfl
theorem zgk {C:Cx} {k:Int} {n s:ByteArray} {q b:PS} (h:stmtI C k n s q= .ok b) (E:0<s.size):(∃l e,b.st=l++[⟨k,n,e⟩])∧0<b.pos:=by
 obtain⟨a,D,A⟩:=zi h
 obtain⟨c,w,o⟩:=zi A
 have z:=zhr _ w
 have j:=zni o
 subst j
 refine⟨⟨_,_,rfl⟩,?_⟩
 rw[z]
 show 0<a.pos+s.size
 omega
theorem znj {C:Cx} {k:Int} {q b:PS} (h:letJ C k q= .ok b):(∃l e,b.st=l++[⟨k,(ze C q.pos).text,e⟩])∧0<b.pos:=by
 obtain⟨a,j,n⟩:=zi h
 obtain⟨c,w,o⟩:=zi n
 have:=zgk o (by decide)
 rw[(zbe j).1] at this
 exact this
theorem znk {C:Cx} {q b:PS} (h:fnI C q= .ok b):(∃l e,b.st=l++[⟨2,(ze C q.pos).text,e⟩])∧0<b.pos:=by
 obtain⟨a,j,w⟩:=zi h
 obtain⟨c,A,n⟩:=zi w
 obtain⟨d,z,o⟩:=zi n
 have:=zgk o (by decide)
 rw[(zbe j).1] at this
 exact this
theorem zi5 (C:Cx) (D o j z:Nat) (S:Sv) (q:PS) (l:List Sm) (k e:Int) (n:ByteArray) (w:World) (h:IM C D o j z S q w) (H:q.st=l++[⟨k,n,e⟩]) (A:n.size≤281474976710656) (E:0<q.pos):
  Calls Tryz.prog 179 #[.pointer (some ⟨z,0,none⟩)] w (zN C D o j z (zn C ⟨1,n,n,sNone⟩ q) id (fun _=>.tuple #[]) S w):=zkZ C D o j z S q l ⟨k,n,e⟩ w h H A E
def zan (C:Cx) (q:PS):PR:=
 if isT C q.pos 4 zF then bd (zav C true (adv q) []) fun a=>za2 C a.2 a.1
 else if isT C q.pos 4 zv then bd (zd C 1 zP (adv q)) fun a=>bd (zG C a) fun b=>bd (zd C 4 cSemi b.1) fun c=>zn C ⟨3,sNone,sNone,b.2⟩ c
 else if isT C q.pos 1 sDefault then bd (stmtI C 1 zbG cSemi (adv q)) fun a=>zn C ⟨1,sDefault,zbG,sNone⟩ a
 else if isT C q.pos 1 zA then bd (letJ C 1 (adv q)) fun a=>zn C ⟨1,(ze C (q.pos+1)).text,(ze C (q.pos+1)).text,sNone⟩ a
 else if isT C q.pos 1 zO then bd (fnI C (adv q)) fun a=>zn C ⟨1,(ze C (q.pos+1)).text,(ze C (q.pos+1)).text,sNone⟩ a
 else .error (zq C q.pos)
theorem znl (C:Cx) (I n j z:Nat) (S:Sv) (q:PS) (w:World) (h:IM C I n j z S q w) (hC:zaV C) (h1:isT C q.pos 4 zF=true):
  Calls Tryz.prog 150 #[.pointer (some ⟨z,0,none⟩)] w (zN C I n j z (zan C q) id (fun _=>.tuple #[]) S w):=by
 have X:=zc h
 have HY:Hid (zan C q=bd (zav C true (adv q) []) fun a=>za2 C a.2 a.1):=by show _=_;rw[zan,h1];rfl
 clear h
 go_enter Tryz.func150,Tryz.ntmps150
 go_wp2_with fail
 refine (zH C I n j z S q 4 zF _ X.out (by decide)).mono ?_
 rintro e w1 ⟨rfl,m,s⟩
 rw[h1] at m ⊢
 have Y:=zc m
 have o:=zc s
 clear m s
 go_wp2_with fail
 refine (zmX C I n j z S (adv q) _ Y.out).mono ?_
 cases A:zav C true (adv q) [] with
 |error p=>
  rintro e N ⟨rfl,O⟩
  have V:Hid (Below j w N):=(X.out.back o.out).trans O
  have D:Hid (zan C q= .error p):=bdE HY.out A
  unfold Pan
  go_wp2
  refine⟨rfl,?_⟩
  rw[D.out]
  exact⟨rfl,V.out⟩
 |ok J=>
  rintro e N ⟨r,S3,rfl,m,s,f,l0,l1⟩
  have K:=zc m
  have U:Hid (IS z S w S3 N):=o.out.trans s
  have M:=zc f
  clear m s f
  have H:=zc (bdO HY.out A)
  go_wp2_with fail
  refine (znh C I n j z _ r S S3 q J.1 J.2 w _ X.out K.out U.out hC l1 (by omega) M.out o.out.size).mono ?_
  cases E:za2 C J.2 J.1 with
  |error p=>
   rintro e w4 ⟨rfl,O⟩
   have V:=zc O
   have D:=zc (H.out.trans E)
   unfold Pan
   go_wp2
   refine⟨rfl,?_⟩
   rw[D.out]
   exact⟨rfl,V.out⟩
  |ok a4=>
   rintro e w4 ⟨rfl,S4,m,s⟩
   have Z:=zc m
   have L:=zc s
   clear m s
   have D:=zc (H.out.trans E)
   go_wp2
   go_end0
   rw[D.out]
   exact⟨rfl,S4,Z.out,L.out⟩
theorem znm (C:Cx) (z n j o:Nat) (S:Sv) (q:PS) (w:World) (h:IM C z n j o S q w) (hC:zaV C) (h1:isT C q.pos 4 zF=false) (h2:isT C q.pos 4 zv=true):
  Calls Tryz.prog 150 #[.pointer (some ⟨o,0,none⟩)] w (zN C z n j o (zan C q) id (fun _=>.tuple #[]) S w):=by
 have U:=zc h
 have HY:Hid (zan C q=bd (zd C 1 zP (adv q)) fun a=>bd (zG C a) fun b=>bd (zd C 4 cSemi b.1) fun c=>zn C ⟨3,sNone,sNone,b.2⟩ c):=by show _=_;rw[zan,h1,h2];rfl
 clear h
 go_enter Tryz.func150,Tryz.ntmps150
 go_wp2_with fail
 refine (zH C z n j o S q 4 zF _ U.out (by decide)).mono ?_
 rintro e w1 ⟨rfl,m,s⟩
 rw[h1] at m ⊢
 have ah:=zc m
 have ab:=zc s
 clear m s
 go_wp2_with fail
 refine (zH C z n j o S q 4 zv _ ah.out (by decide)).mono ?_
 rintro e w2 ⟨rfl,m,s⟩
 rw[h2] at m ⊢
 have af:=zc m
 have L:Hid (IS o S w S w2):=ab.out.trans s
 clear m s
 go_wp2_with fail
 refine (zdH C z n j o S (adv q) zP _ af.out).mono ?_
 cases O:zd C 1 zP (adv q) with
 |error p=>
  rintro e w3 ⟨rfl,D⟩
  have E:Hid (Below j w w3):=(U.out.back L.out).trans D
  have H:Hid (zan C q= .error p):=bdE HY.out O
  unfold Pan
  go_wp2
  refine⟨rfl,?_⟩
  rw[H.out]
  exact⟨rfl,E.out⟩
 |ok a3=>
  rintro e w3 ⟨rfl,S3,m,s⟩
  have ac:=zc m
  have N:Hid (IS o S w S3 w3):=L.out.trans s
  clear m s
  have X:=zc (bdO HY.out O)
  go_wp2_with fail
  refine (zfa C z n j o S3 a3 _ ac.out hC).mono ?_
  cases V:zG C a3 with
  |error p=>
   rintro e w4 ⟨rfl,D⟩
   have E:Hid (Below j w w4):=(U.out.back N.out).trans D
   have H:Hid (zan C q= .error p):=bdE X.out V
   unfold Pan
   go_wp2
   refine⟨rfl,?_⟩
   rw[H.out]
   exact⟨rfl,E.out⟩
  |ok a4=>
   rintro e w4 ⟨rfl,S4,m,s⟩
   have ai:=zc m
   have I:Hid (IS o S w S4 w4):=N.out.trans s
   clear m s
   have K:=zc (bdO X.out V)
   go_wp2_with fail
   refine (zbQ C z n j o S4 a4.1 59 _ ai.out).mono ?_
   cases A:zd C 4 cSemi a4.1 with
   |error p=>
    rintro e w5 ⟨rfl,D⟩
    have E:Hid (Below j w w5):=(U.out.back I.out).trans D
    have H:Hid (zan C q= .error p):=bdE K.out A
    unfold Pan
    go_wp2
    refine⟨rfl,?_⟩
    rw[H.out]
    exact⟨rfl,E.out⟩
   |ok a5=>
    rintro e w5 ⟨rfl,S5,m,s⟩
    have ad:=zc m
    have J:Hid (IS o S w S5 w5):=I.out.trans s
    clear m s
    have Z:=zc (bdO K.out A)
    have M:0<a5.pos:=by rw[(zb0 A).1];exact Nat.succ_pos _
    go_wp2_with fail
    refine (zet C z n j o S5 a5 ⟨3,sNone,sNone,a4.2⟩ _ ad.out M).mono ?_
    cases Y:zn C ⟨3,sNone,sNone,a4.2⟩ a5 with
    |error p=>
     rintro e w6 ⟨rfl,D⟩
     have E:Hid (Below j w w6):=(U.out.back J.out).trans D
     have H:Hid (zan C q= .error p):=Z.out.trans Y
     unfold Pan
     go_wp2
     refine⟨rfl,?_⟩
     rw[H.out]
     exact⟨rfl,E.out⟩
    |ok a6=>
     rintro e w6 ⟨rfl,S6,m,s⟩
     have ae:=zc m
     have ag:Hid (IS o S w S6 w6):=J.out.trans s
     clear m s
     have aa:=zc (Z.out.trans Y)
     go_wp2
     go_end0
     rw[aa.out]
     exact⟨rfl,S6,ae.out,ag.out⟩
theorem znn (C:Cx) (z n j o:Nat) (S:Sv) (q:PS) (w:World) (h:IM C z n j o S q w) (h1:isT C q.pos 4 zF=false) (h2:isT C q.pos 4 zv=false) (h3:isT C q.pos 1 sDefault=true):
  Calls Tryz.prog 150 #[.pointer (some ⟨o,0,none⟩)] w (zN C z n j o (zan C q) id (fun _=>.tuple #[]) S w):=by
 have Z:=zc h
 have HY:Hid (zan C q=bd (stmtI C 1 zbG cSemi (adv q)) fun a=>zn C ⟨1,sDefault,zbG,sNone⟩ a):=by show _=_;rw[zan,h1,h2,h3];rfl
 clear h
 go_enter Tryz.func150,Tryz.ntmps150
 go_wp2_with fail
 refine (zH C z n j o S q 4 zF _ Z.out (by decide)).mono ?_
 rintro e w1 ⟨rfl,m,s⟩
 rw[h1] at m ⊢
 have ab:=zc m
 have K:=zc s
 clear m s
 go_wp2_with fail
 refine (zH C z n j o S q 4 zv _ ab.out (by decide)).mono ?_
 rintro e w2 ⟨rfl,m,s⟩
 rw[h2] at m ⊢
 have aa:=zc m
 have V:Hid (IS o S w S w2):=K.out.trans s
 clear m s
 go_wp2_with fail
 refine (zH C z n j o S q 1 sDefault _ aa.out (by decide)).mono ?_
 rintro e w3 ⟨rfl,m,s⟩
 rw[h3] at m ⊢
 have L:=zc m
 have J:Hid (IS o S w S w3):=V.out.trans s
 clear m s
 go_wp2_with fail
 refine (zdo C z n j o S (adv q) 1 zbG cSemi _ L.out (by decide) (by decide)).mono ?_
 cases A:stmtI C 1 zbG cSemi (adv q) with
 |error p=>
  rintro e U ⟨rfl,X⟩
  have Y:Hid (Below j w U):=(Z.out.back J.out).trans X
  have HX:Hid (zan C q= .error p):=bdE HY.out A
  unfold Pan
  go_wp2
  refine⟨rfl,?_⟩
  rw[HX.out]
  exact⟨rfl,Y.out⟩
 |ok a4=>
  rintro e U ⟨rfl,S4,m,s⟩
  have ac:=zc m
  have E:Hid (IS o S w S4 U):=J.out.trans s
  clear m s
  have H:=zc (bdO HY.out A)
  have I:=(zgk A (by decide)).2
  go_wp2_with fail
  refine (zet C z n j o S4 a4 ⟨1,sDefault,zbG,sNone⟩ _ ac.out I).mono ?_
  cases D:zn C ⟨1,sDefault,zbG,sNone⟩ a4 with
  |error p=>
   rintro e N ⟨rfl,X⟩
   have Y:Hid (Below j w N):=(Z.out.back E.out).trans X
   have HX:Hid (zan C q= .error p):=H.out.trans D
   unfold Pan
   go_wp2
   refine⟨rfl,?_⟩
   rw[HX.out]
   exact⟨rfl,Y.out⟩
  |ok a5=>
   rintro e N ⟨rfl,S5,m,s⟩
   have M:=zc m
   have O:Hid (IS o S w S5 N):=E.out.trans s
   clear m s
   have ad:=zc (H.out.trans D)
   go_wp2
   go_end0
   rw[ad.out]
   exact⟨rfl,S5,M.out,O.out⟩
theorem zno (C:Cx) (z n j o:Nat) (S:Sv) (q:PS) (w:World) (h:IM C z n j o S q w) (hC:zaV C) (h1:isT C q.pos 4 zF=false) (h2:isT C q.pos 4 zv=false) (h3:isT C q.pos 1 sDefault=false) (h4:isT C q.pos 1 zA=true):
  Calls Tryz.prog 150 #[.pointer (some ⟨o,0,none⟩)] w (zN C z n j o (zan C q) id (fun _=>.tuple #[]) S w):=by
 have HH:=zc h
 have HY:Hid (zan C q=bd (letJ C 1 (adv q)) fun a=>zn C ⟨1,(ze C (q.pos+1)).text,(ze C (q.pos+1)).text,sNone⟩ a):=by show _=_;rw[zan,h1,h2,h3,h4];rfl
 clear h
 go_enter Tryz.func150,Tryz.ntmps150
 go_wp2_with fail
 refine (zH C z n j o S q 4 zF _ HH.out (by decide)).mono ?_
 rintro e w1 ⟨rfl,m,s⟩
 rw[h1] at m ⊢
 have ad:=zc m
 have M:=zc s
 clear m s
 go_wp2_with fail
 refine (zH C z n j o S q 4 zv _ ad.out (by decide)).mono ?_
 rintro e w2 ⟨rfl,m,s⟩
 rw[h2] at m ⊢
 have ab:=zc m
 have Y:Hid (IS o S w S w2):=M.out.trans s
 clear m s
 go_wp2_with fail
 refine (zH C z n j o S q 1 sDefault _ ab.out (by decide)).mono ?_
 rintro e w3 ⟨rfl,m,s⟩
 rw[h3] at m ⊢
 have N:=zc m
 have aa:Hid (IS o S w S w3):=Y.out.trans s
 clear m s
 go_wp2_with fail
 refine (zH C z n j o S q 1 zA _ N.out (by decide)).mono ?_
 rintro e w4 ⟨rfl,m,s⟩
 rw[h4] at m ⊢
 have ae:=zc m
 have D:Hid (IS o S w S w4):=aa.out.trans s
 clear m s
 go_wp2_with fail
 refine (zfV C z n j o S (adv q) _ ae.out).mono ?_
 cases A:letJ C 1 (adv q) with
 |error p=>
  rintro e V ⟨rfl,Z⟩
  have HB:Hid (Below j w V):=(HH.out.back D.out).trans Z
  have HX:Hid (zan C q= .error p):=bdE HY.out A
  unfold Pan
  go_wp2
  refine⟨rfl,?_⟩
  rw[HX.out]
  exact⟨rfl,HB.out⟩
 |ok a5=>
  rintro e V ⟨rfl,S5,m,s⟩
  have O:=zc m
  have E:Hid (IS o S w S5 V):=D.out.trans s
  clear m s
  have K:=zc (bdO HY.out A)
  obtain⟨⟨l,e,I⟩,H⟩:=znj A
  have U:=zc I
  clear I
  go_wp2_with fail
  refine (zi5 C z n j o S5 a5 l _ _ (ze C (q.pos+1)).text _ O.out U.out (hC _) H).mono ?_
  cases J:zn C ⟨1,(ze C (q.pos+1)).text,(ze C (q.pos+1)).text,sNone⟩ a5 with
  |error p=>
   rintro e w6 ⟨rfl,Z⟩
   have HB:Hid (Below j w w6):=(HH.out.back E.out).trans Z
   have HX:Hid (zan C q= .error p):=K.out.trans J
   unfold Pan
   go_wp2
   refine⟨rfl,?_⟩
   rw[HX.out]
   exact⟨rfl,HB.out⟩
  |ok a6=>
   rintro e w6 ⟨rfl,S6,m,s⟩
   have X:=zc m
   have ac:Hid (IS o S w S6 w6):=E.out.trans s
   clear m s
   have L:=zc (K.out.trans J)
   go_wp2
   go_end0
   rw[L.out]
   exact⟨rfl,S6,X.out,ac.out⟩
theorem znp (C:Cx) (z n j o:Nat) (S:Sv) (q:PS) (w:World) (h:IM C z n j o S q w) (hC:zaV C) (h1:isT C q.pos 4 zF=false) (h2:isT C q.pos 4 zv=false) (h3:isT C q.pos 1 sDefault=false) (h4:isT C q.pos 1 zA=false) (h5:isT C q.pos 1 zO=true):
  Calls Tryz.prog 150 #[.pointer (some ⟨o,0,none⟩)] w (zN C z n j o (zan C q) id (fun _=>.tuple #[]) S w):=by
 have HH:=zc h
 have HY:Hid (zan C q=bd (fnI C (adv q)) fun a=>zn C ⟨1,(ze C (q.pos+1)).text,(ze C (q.pos+1)).text,sNone⟩ a):=by show _=_;rw[zan,h1,h2,h3,h4,h5];rfl
 clear h
 go_enter Tryz.func150,Tryz.ntmps150
 go_wp2_with fail
 refine (zH C z n j o S q 4 zF _ HH.out (by decide)).mono ?_
 rintro e w1 ⟨rfl,m,s⟩
 rw[h1] at m ⊢
 have ad:=zc m
 have L:=zc s
 clear m s
 go_wp2_with fail
 refine (zH C z n j o S q 4 zv _ ad.out (by decide)).mono ?_
 rintro e w2 ⟨rfl,m,s⟩
 rw[h2] at m ⊢
 have ac:=zc m
 have Y:Hid (IS o S w S w2):=L.out.trans s
 clear m s
 go_wp2_with fail
 refine (zH C z n j o S q 1 sDefault _ ac.out (by decide)).mono ?_
 rintro e w3 ⟨rfl,m,s⟩
 rw[h3] at m ⊢
 have M:=zc m
 have aa:Hid (IS o S w S w3):=Y.out.trans s
 clear m s
 go_wp2_with fail
 refine (zH C z n j o S q 1 zA _ M.out (by decide)).mono ?_
 rintro e w4 ⟨rfl,m,s⟩
 rw[h4] at m ⊢
 have af:=zc m
 have U:Hid (IS o S w S w4):=aa.out.trans s
 clear m s
 go_wp2_with fail
 refine (zH C z n j o S q 1 zO _ af.out (by decide)).mono ?_
 rintro e w5 ⟨rfl,m,s⟩
 rw[h5] at m ⊢
 have O:=zc m
 have H:Hid (IS o S w S w5):=U.out.trans s
 clear m s
 go_wp2_with fail
 refine (zfW C z n j o S (adv q) _ O.out).mono ?_
 cases A:fnI C (adv q) with
 |error p=>
  rintro e w6 ⟨rfl,Z⟩
  have HB:Hid (Below j w w6):=(HH.out.back H.out).trans Z
  have HX:Hid (zan C q= .error p):=bdE HY.out A
  unfold Pan
  go_wp2
  refine⟨rfl,?_⟩
  rw[HX.out]
  exact⟨rfl,HB.out⟩
 |ok a6=>
  rintro e w6 ⟨rfl,S6,m,s⟩
  have X:=zc m
  have J:Hid (IS o S w S6 w6):=H.out.trans s
  clear m s
  have D:=zc (bdO HY.out A)
  obtain⟨⟨l,e,K⟩,I⟩:=znk A
  have V:=zc K
  clear K
  go_wp2_with fail
  refine (zi5 C z n j o S6 a6 l _ _ (ze C (q.pos+1)).text _ X.out V.out (hC _) I).mono ?_
  cases E:zn C ⟨1,(ze C (q.pos+1)).text,(ze C (q.pos+1)).text,sNone⟩ a6 with
  |error p=>
   rintro e w7 ⟨rfl,Z⟩
   have HB:Hid (Below j w w7):=(HH.out.back J.out).trans Z
   have HX:Hid (zan C q= .error p):=D.out.trans E
   unfold Pan
   go_wp2
   refine⟨rfl,?_⟩
   rw[HX.out]
   exact⟨rfl,HB.out⟩
  |ok a7=>
   rintro e w7 ⟨rfl,S7,m,s⟩
   have N:=zc m
   have ae:Hid (IS o S w S7 w7):=J.out.trans s
   clear m s
   have ab:=zc (D.out.trans E)
   go_wp2
   go_end0
   rw[ab.out]
   exact⟨rfl,S7,N.out,ae.out⟩
theorem znq (C:Cx) (z n j o:Nat) (S:Sv) (q:PS) (w:World) (h:IM C z n j o S q w) (X:isT C q.pos 4 zF=false) (Z:isT C q.pos 4 zv=false) (V:isT C q.pos 1 sDefault=false) (U:isT C q.pos 1 zA=false) (O:isT C q.pos 1 zO=false):
  Calls Tryz.prog 150 #[.pointer (some ⟨o,0,none⟩)] w (zN C z n j o (zan C q) id (fun _=>.tuple #[]) S w):=by
 have Y:=zc h
 have HY:Hid (zan C q= .error (zq C q.pos)):=by show _=_;rw[zan,X,Z,V,U,O];rfl
 clear h
 go_enter Tryz.func150,Tryz.ntmps150
 go_wp2_with fail
 refine (zH C z n j o S q 4 zF _ Y.out (by decide)).mono ?_
 rintro e w1 ⟨rfl,m,s⟩
 rw[X] at m ⊢
 have M:=zc m
 have D:=zc s
 clear m s
 go_wp2_with fail
 refine (zH C z n j o S q 4 zv _ M.out (by decide)).mono ?_
 rintro e w2 ⟨rfl,m,s⟩
 rw[Z] at m ⊢
 have L:=zc m
 have J:Hid (IS o S w S w2):=D.out.trans s
 clear m s
 go_wp2_with fail
 refine (zH C z n j o S q 1 sDefault _ L.out (by decide)).mono ?_
 rintro e w3 ⟨rfl,m,s⟩
 rw[V] at m ⊢
 have E:=zc m
 have K:Hid (IS o S w S w3):=J.out.trans s
 clear m s
 go_wp2_with fail
 refine (zH C z n j o S q 1 zA _ E.out (by decide)).mono ?_
 rintro e w4 ⟨rfl,m,s⟩
 rw[U] at m ⊢
 have N:=zc m
 have H:Hid (IS o S w S w4):=K.out.trans s
 clear m s
 go_wp2_with fail
 refine (zH C z n j o S q 1 zO _ N.out (by decide)).mono ?_
 rintro e w5 ⟨rfl,m,s⟩
 rw[O] at m ⊢
 have A:=zc m
 have I:Hid (IS o S w S w5):=H.out.trans s
 clear m s
 go_wp2_with fail
 refine (zdG C z n j o S q _ A.out).mono ?_
 rintro e wz ⟨rfl,hb⟩
 have HB:Hid (Below j w wz):=(Y.out.back I.out).trans (hb.mono A.out.mem.base)
 have HX:Hid (zan C q= .error (zq C q.pos)):=HY.out
 unfold Pan
 go_wp2
 refine⟨rfl,?_⟩
 rw[HX.out]
 exact⟨rfl,HB.out⟩
theorem znr (C:Cx) (z n j o:Nat) (S:Sv) (q:PS) (w:World) (h:IM C z n j o S q w) (E:zaV C):
  Calls Tryz.prog 150 #[.pointer (some ⟨o,0,none⟩)] w (zN C z n j o (zan C q) id (fun _=>.tuple #[]) S w):=by
 cases A:isT C q.pos 4 zF with
 |true=>exact znl C z n j o S q w h E A
 |false=>
  cases D:isT C q.pos 4 zv with
  |true=>exact znm C z n j o S q w h E A D
  |false=>
   cases H:isT C q.pos 1 sDefault with
   |true=>exact znn C z n j o S q w h A D H
   |false=>
    cases I:isT C q.pos 1 zA with
    |true=>exact zno C z n j o S q w h E A D H I
    |false=>
     cases J:isT C q.pos 1 zO with
     |true=>exact znp C z n j o S q w h E A D H I J
     |false=>exact znq C z n j o S q w h A D H I J
end Go.Proofs.YticdggnnpjachaaGreat
