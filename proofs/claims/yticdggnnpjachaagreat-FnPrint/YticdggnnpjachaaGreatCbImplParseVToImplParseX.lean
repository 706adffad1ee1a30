/-
  What ContainsFunc over Exps answers,and a row of Exps whose elements are written: the walks.
  What exportNames of impl's parser answers: the walks. (It writes into the row that it is handed: so what is told is told from a world on in which that row was not yet there.)
  What exportItem of impl's parser answers: the walks.
-/
import Derived.Laws.OwnMore
import Derived.Test.YticdggnnpjachaaGreatCbImplParseU
namespace Go.Proofs.YticdggnnpjachaaGreat
set_option maxRecDepth 100000
set_option maxHeartbeats 3200000
open Go.RowKit Go.PlainAid Go.Sort
theorem zjH {α:Type} (f:α→List Value) (m:Nat) (n: ∀x,(f x).length=m): ∀(l:List α) (j i:Nat) (x y:α) (v:Value),l[j]? =some x→i<m→f y=(f x).set i v→(l.flatMap f).set (j*m+i) v=(l.set j y).flatMap f:=by
 intro l
 induction l with
 |nil=>intro j i x y v h;simp at h
 |cons z l A=>
  intro j i x y v h o q
  match j with
  |0=>
   simp only[List.getElem?_cons_zero,Option.some.injEq] at h
   subst h
   rw[List.flatMap_cons,Nat.zero_mul,Nat.zero_add,List.set_append_left _ _ (by rw[n];exact o),List.set_cons_zero,List.flatMap_cons,q]
  |j+1=>
   simp only[List.getElem?_cons_succ] at h
   rw[List.flatMap_cons,List.set_append_right _ _ (by rw[n,Nat.succ_mul];omega),n,List.set_cons_succ,List.flatMap_cons,←A j i x y v h o q]
   congr 2
   rw[Nat.succ_mul]
   omega
def mxE (s:ByteArray) (l:List Ep) (j:Nat):List Ep:=(l.take j).map (zai s)++(l.drop j).map zA
theorem zjI (s:ByteArray) (l:List Ep) (j:Nat):(mxE s l j).length=l.length:=by simp[mxE];omega
theorem zjJ {s:ByteArray} {l:List Ep} {j:Nat} {x:Ep} (h:l[j]? =some x):(mxE s l j)[j]? =some (zA x):=by
 obtain⟨n,rfl⟩:=List.getElem?_eq_some_iff.1 h
 have o:((l.take j).map (zai s)).length=j:=by simp;omega
 rw[mxE,List.getElem?_append_right (by omega),o,Nat.sub_self,List.drop_eq_getElem_cons n]
 rfl
theorem zpR {s:ByteArray} {l:List Ep} {j:Nat} {x:Ep} (h:l[j]? =some x):(mxE s l j).set j (zai s x)=mxE s l (j+1):=by
 obtain⟨n,rfl⟩:=List.getElem?_eq_some_iff.1 h
 have o:((l.take j).map (zai s)).length=j:=by simp;omega
 rw[mxE,List.set_append_right _ _ (by omega),o,Nat.sub_self,List.drop_eq_getElem_cons n,List.map_cons,List.set_cons_zero,mxE,List.take_succ_eq_append_getElem n,List.map_append,List.append_assoc]
 rfl
theorem zpS (s:ByteArray) (l:List Ep):mxE s l 0=l.map zA:=by simp[mxE]
theorem zpT (s:ByteArray) (l:List Ep):mxE s l l.length=l.map (zai s):=by simp[mxE]
theorem zpU (x:Ep) (w:World):
  Calls Tryz.prog 198 #[epV x] w fun e j=>e= .returned (.bool (x.loc.toList==[100,101,102,97,117,108,116]))∧Below w.heap.size w j:=by
 unfold epV
 cases n:(x.loc.toList==[100,101,102,97,117,108,116]) with
 |true=>
  go_enter Tryz.func198,Tryz.ntmps198
  go_wp2
  go_ret
  exact⟨rfl,(Below.refl _ _).alloc (Nat.le_refl _) _⟩
 |false=>
  go_enter Tryz.func198,Tryz.ntmps198
  go_wp2
  go_ret
  exact⟨rfl,(Below.refl _ _).alloc (Nat.le_refl _) _⟩
theorem zpV {l:List Ep} {j:Nat} {x:Ep} (h:l[j]? =some x):za8 (l.drop j)=((x.loc.toList==[100,101,102,97,117,108,116])||za8 (l.drop (j+1))):=by
 obtain⟨n,rfl⟩:=List.getElem?_eq_some_iff.1 h
 rw[List.drop_eq_getElem_cons n]
 simp only[za8,List.any_cons]
theorem zpW (z g:Nat) (r:Rw) (l:List Ep) (w:World) (h:OwnR w z 102 4 r l.length (l.flatMap fun e=>epL (zA e))) (hl:l.length≤4000) (Q:r.a=some ⟨g,0,none⟩):
  Calls Tryz.prog 205 #[.slice (some ⟨g,0,none⟩) l.length r.cap,.func (.func 198) #[] #[]] w fun e w'=>(∃v:Int,e= .returned (.int .i64 v)∧decide (0≤v)=za8 l)∧Below w.heap.size w w':=by
 have Z:=zc h
 have L:=zc Q
 clear h Q
 go_enter Tryz.func205,Tryz.ntmps205
 go_wp2
 go_loopg [8] (l.length+1) (fun k i wr=>∃j:Nat,i= .int .i64 j∧j+k=l.length+1∧za8 (l.drop j)=za8 l∧Below w.heap.size w wr)
 case atStart=>exact⟨0,rfl,by omega,by simp,Below.refl _ _⟩
 case round=>
  obtain⟨j,rfl,hj,U,V⟩:=hrel
  have N:=zc U
  have I:=zc V
  clear U V
  by_cases K:j<l.length
  ·have q:(j:Int)<(l.length:Int):=by omega
   obtain⟨x,M⟩:=zfd K
   have J:=zc (Z.out.keep fun k g=>I.out.block k (Z.out.typed g).2.1)
   obtain⟨g',o,n⟩:=OwnR.elem (f:=fun e=>epL (zA e)) (m:=4) (fun _=>rfl) J.out M
   have eg:g'=g:=by have:=o.symm.trans L.out;simpa using this
   subst eg
   have k0:=n 0 (by omega)
   have k1:=n 1 (by omega)
   have k2:=n 2 (by omega)
   have k3:=n 3 (by omega)
   simp only[epL,zA,Nat.add_zero,List.getElem?_cons_zero,List.getElem?_cons_succ] at k0 k1 k2 k3
   have X:=zc (zpV M)
   clear n o M
   obtain⟨H,A⟩: ∃H,H=j+1:=⟨_,rfl⟩
   have ej:(j:Int)+1=(H:Int):=by omega
   have O:=zc A
   clear A
   go_wp2_with fail
   refine (zpU (zA x) _).mono ?_
   rintro e w1 ⟨rfl,D⟩
   have E:Hid (Below w.heap.size w w1):=I.out.trans (D.mono I.out.size)
   clear D
   rw[show (zA x).loc=x.loc from rfl]
   cases Y:(x.loc.toList==[100,101,102,97,117,108,116]) with
   |true=>
    go_wp2
    go_ret
    refine⟨⟨_,rfl,?_⟩,E.out⟩
    rw[←N.out,X.out,Y]
    simp
   |false=>
    go_wp2
    go_roundg (gk-1)
    case rel=>
     refine⟨H,rfl,by have:=O.out;omega,?_,E.out⟩
     rw[←N.out,X.out,Y,O.out]
     simp
    case measure=>omega
  ·have q: ¬(j:Int)<(l.length:Int):=by omega
   go_wp2
   go_ret
   refine⟨⟨_,rfl,?_⟩,I.out⟩
   rw[←N.out,List.drop_eq_nil_of_le (by omega)]
   rfl
theorem zjK (j g:Nat) (r:Rw) (l:List Ep) (w:World) (h:OwnR w j 102 4 r l.length (l.flatMap fun e=>epL (zA e))) (E:l.length≤4000) (o:r.a=some ⟨g,0,none⟩):
  Calls Tryz.prog 199 #[.slice (some ⟨g,0,none⟩) l.length r.cap,.func (.func 198) #[] #[]] w fun e I=>e= .returned (.bool (za8 l))∧Below w.heap.size w I:=by
 have H:=zc h
 have n:=zc o
 clear h o
 go_enter Tryz.func199,Tryz.ntmps199
 go_wp2_with fail
 refine (zpW j g r l _ H.out E n.out).mono ?_
 rintro e J ⟨⟨v,rfl,q⟩,z⟩
 have D:=zc q
 have A:=zc z
 clear q z
 go_wp2
 go_ret
 exact⟨zm D.out,A.out⟩
def za5 (C:Cx) (l:List Ep) (q:PS):PR:=
 if isT C q.pos 1 zU||za8 l then bd (zd C 1 zU q) fun a=>bd (zH C a) fun b=>bd (zd C 4 cSemi b.1) fun c=>zP (fun e=>zo C (zai b.2 e)) l (.ok c)
 else bd (zd C 4 cSemi q) fun c=>zP (fun e=>zo C (zA e)) l (.ok c)
theorem zjL (X:Ep→Ep) (l:List Ep):(l.map X).flatMap epL=l.flatMap fun e=>epL (X e):=by rw[List.flatMap_map]
theorem zpX (C:Cx) (H o n z b0 g:Nat) (r:Rw) (S A:Sv) (q0 q:PS) (l:List Ep) (w wc:World) (hh:IM C H o n z S q0 w) (h:IM C H o n z A q wc) (h0:IS z S w A wc) (hl:l.length≤4000) (hf:Fr 102 4 wc b0 r l.length (l.flatMap (fun e=>epL (zA e))) A) (hg:r.a=some ⟨g,0,none⟩) (hi:isT C q.pos 1 zU=false) (ha:za8 l=false):
  Calls Tryz.prog 176 #[.pointer (some ⟨z,0,none⟩),.slice (some ⟨g,0,none⟩) l.length r.cap] wc (zQ C H o n z (za5 C l q) id (fun _=>.tuple #[]) S w):=by
 have HH:=zc hh
 have HC:=zc h
 have H0:=zc h0
 have HF:=zc hf
 have HG:=zc hg
 have HY:Hid (za5 C l q=bd (zd C 4 cSemi q) fun c=>zP (fun e=>zo C (zA e)) l (.ok c)):=by show _=_;rw[za5,hi,ha];rfl
 clear hh h h0 hf hg
 go_enter Tryz.func176,Tryz.ntmps176
 go_wp2_with fail
 refine (zbO C H o n z A q 1 zU _ HC.out).mono ?_
 rintro e w1 ⟨rfl,D⟩
 rw[hi]
 have ag:Hid (IM C H o n z A q w1):=HC.out.later D
 have ae:Hid (IS z S w A w1):=(H0.out.trans (IS.below D))
 have V:IS z A wc A w1:=IS.below D
 clear D
 have Y:Hid (Fr 102 4 w1 b0 r l.length (l.flatMap (fun e=>epL (zA e))) A):=HF.out.step HC.out (by decide) V
 clear V
 go_wp2_with fail
 refine (zjK b0 g r l _ Y.out.1 hl HG.out).mono ?_
 rintro e w2 ⟨rfl,D⟩
 rw[ha]
 have ah:Hid (Fr 102 4 w2 b0 r l.length (l.flatMap (fun e=>epL (zA e))) A):=Y.out.later D
 have aa:Hid (IM C H o n z A q w2):=ag.out.later D
 have ac:Hid (IS z S w A w2):=(ae.out.trans (IS.below D))
 clear D
 go_wp2_with fail
 refine (zbX C H o n z A q 59 _ aa.out).mono ?_
 cases N:zd C 4 cSemi q with
 |error p=>
  rintro e w3 ⟨rfl,D⟩
  have HB:Hid (Below n w w3):=(HH.out.back ac.out).trans D
  have HX:Hid (za5 C l q= .error p):=bdE HY.out N
  unfold Pan
  go_wp2
  refine⟨rfl,?_⟩
  rw[HX.out]
  exact⟨rfl,HB.out⟩
 |ok a3=>
  rintro e w3 ⟨rfl,S3,m,s⟩
  have ap:Hid (Fr 102 4 w3 b0 r l.length (l.flatMap (fun e=>epL (zA e))) S3):=ah.out.step aa.out (by decide) s
  have af:=zc m
  have an:Hid (IS z S w S3 w3):=ac.out.trans s
  clear m s
  have ao:=zc (bdO HY.out N)
  have Z:0<a3.pos:=by rw[(zb4 N).1];exact Nat.succ_pos _
  go_wp2
  go_loopg [39] l.length (fun k i wr=>∃(j:Nat) (K:Sv) (J:PS),i= .int .i64 j∧j+k=l.length∧za5 C l q=zP (fun e=>zo C (zA e)) (l.drop j) (.ok J)∧0<J.pos∧IM C H o n z K J wr∧IS z S w K wr∧Fr 102 4 wr b0 r l.length (l.flatMap fun e=>epL (zA e)) K)
  case atStart=>exact⟨0,S3,a3,rfl,by omega,ao.out,Z,af.out,an.out,ap.out⟩
  case round=>
   obtain⟨j,K,J,rfl,hj,hy,Q,m',s',f'⟩:=hrel
   have ad:=zc hy
   have I:Hid (IM C H o n z K J wr):=m'
   have M:Hid (IS z S w K wr):=s'
   have ab:Hid (Fr 102 4 wr b0 r l.length (l.flatMap fun e=>epL (zA e)) K):=f'
   clear hy m' s' f'
   by_cases ak:j<l.length
   ·have U:(j:Int)<(l.length:Int):=by omega
    obtain⟨x,hx⟩:=zfd ak
    obtain⟨g',O,E⟩:=OwnR.elem (f:=fun e=>epL (zA e)) (m:=4) (fun _=>rfl) ab.out.1 hx
    have eg:g'=g:=by have:=O.symm.trans HG.out;simpa using this
    subst eg
    have k0:=E 0 (by omega)
    have k1:=E 1 (by omega)
    have k2:=E 2 (by omega)
    have k3:=E 3 (by omega)
    simp only[epL,zA,Nat.add_zero,List.getElem?_cons_zero,List.getElem?_cons_succ] at k0 k1 k2 k3
    have HZ:=zc (ad.out.trans (zhg (fun e=>zo C (zA e)) hx J))
    clear E O hx
    obtain⟨X,L⟩: ∃X,X=j+1:=⟨_,rfl⟩
    have ej:(j:Int)+1=(X:Int):=by omega
    rw[←L] at HZ
    have ar:=I.out.lt
    have HJ:=zc L
    clear L
    go_wp2_with fail
    refine (zeJ C H o n z K J (zA x) _ (I.out.alloc _) Q).mono ?_
    cases hn:zo C (zA x) J with
    |error p=>
     rintro e wy ⟨rfl,D⟩
     have HB:Hid (Below n w wy):=(HH.out.back (M.out.alloc _)).trans D
     have HX:Hid (za5 C l q= .error p):=by show _=_;rw[HZ.out,hn];exact zfL _ _ _
     unfold Pan
     go_wp2
     refine⟨rfl,?_⟩
     rw[HX.out]
     exact⟨rfl,HB.out⟩
    |ok ay=>
     rintro e wy ⟨rfl,Sy,m,s⟩
     have aj:=zc m
     have aq:Hid (IS z S w Sy wy):=(M.out.alloc _).trans s
     have am:Hid (Fr 102 4 wy b0 r l.length (l.flatMap fun e=>epL (zA e)) Sy):=(ab.out.later ((Below.refl _ _).alloc (Nat.le_refl _) _)).step (I.out.alloc _) (by decide) s
     have ai:Hid (za5 C l q=zP (fun e=>zo C (zA e)) (l.drop X) (.ok ay)):=by show _=_;rw[HZ.out,hn]
     have al:Hid (0<ay.pos):=by show 0<ay.pos;rw[zjF hn];exact Q
     clear m s
     go_wp2
     go_roundg (gk-1)
     case rel=>exact⟨X,Sy,ay,rfl,by have:=HJ.out;omega,ai.out,al.out,aj.out,aq.out,am.out⟩
     case measure=>omega
   ·have U: ¬(j:Int)<(l.length:Int):=by omega
    have HZ:Hid (za5 C l q= .ok J):=by show _=_;rw[ad.out,List.drop_eq_nil_of_le (by omega)];rfl
    go_wp2
    go_end0
    rw[HZ.out]
    exact⟨rfl,K,I.out,M.out⟩
theorem zpY (C:Cx) (D n j z b0 g:Nat) (r:Rw) (S o:Sv) (q0 q:PS) (l:List Ep) (w wc:World) (V:IM C D n j z S q0 w) (h:IM C D n j z o q wc) (X:IS z S w o wc) (hl:l.length≤4000) (Z:Fr 102 4 wc b0 r l.length (l.flatMap (fun e=>epL (zA e))) o) (U:r.a=some ⟨g,0,none⟩) (J:isT C q.pos 1 zU=false) (Y:za8 l=true):
  Calls Tryz.prog 176 #[.pointer (some ⟨z,0,none⟩),.slice (some ⟨g,0,none⟩) l.length r.cap] wc (zQ C D n j z (za5 C l q) id (fun _=>.tuple #[]) S w):=by
 have HH:=zc V
 have L:=zc h
 have H0:=zc X
 have HF:=zc Z
 have HG:=zc U
 have HY:Hid (za5 C l q= .error (zr C q.pos)):=by show _=_;rw[za5,J,Y,if_pos (by decide),zgy J];rfl
 clear V h X Z U
 go_enter Tryz.func176,Tryz.ntmps176
 go_wp2_with fail
 refine (zbO C D n j z o q 1 zU _ L.out).mono ?_
 rintro e I ⟨rfl,A⟩
 rw[J]
 have Q:Hid (IM C D n j z o q I):=L.out.later A
 have K:Hid (IS z S w o I):=(H0.out.trans (IS.below A))
 have E:IS z o wc o I:=IS.below A
 clear A
 have H:Hid (Fr 102 4 I b0 r l.length (l.flatMap (fun e=>epL (zA e))) o):=HF.out.step L.out (by decide) E
 clear E
 go_wp2_with fail
 refine (zjK b0 g r l _ H.out.1 hl HG.out).mono ?_
 rintro e O ⟨rfl,A⟩
 rw[Y]
 have aa:Hid (Fr 102 4 O b0 r l.length (l.flatMap (fun e=>epL (zA e))) o):=H.out.later A
 have N:Hid (IM C D n j z o q O):=Q.out.later A
 have M:Hid (IS z S w o O):=(K.out.trans (IS.below A))
 clear A
 go_wp2_with fail
 refine (zea C D n j z o q zU _ N.out).mono ?_
 rw[zgy J]
 rintro e w3 ⟨rfl,A⟩
 have HB:Hid (Below j w w3):=(HH.out.back M.out).trans A
 have HX:Hid (za5 C l q= .error (zr C q.pos)):=HY.out
 unfold Pan
 go_wp2
 refine⟨rfl,?_⟩
 rw[HX.out]
 exact⟨rfl,HB.out⟩
theorem zpZ (C:Cx) (I o n z b0 g:Nat) (r:Rw) (S Y:Sv) (q0 q:PS) (l:List Ep) (w wc:World) (hh:IM C I o n z S q0 w) (h:IM C I o n z Y q wc) (h0:IS z S w Y wc) (hC:zbf C) (hl:l.length≤4000) (hf:Fr 102 4 wc b0 r l.length (l.flatMap (fun e=>epL (zA e))) Y) (hg:r.a=some ⟨g,0,none⟩) (aw:w.heap.size≤g) (hi:isT C q.pos 1 zU=true):
  Calls Tryz.prog 176 #[.pointer (some ⟨z,0,none⟩),.slice (some ⟨g,0,none⟩) l.length r.cap] wc (zQ C I o n z (za5 C l q) id (fun _=>.tuple #[]) S w):=by
 have HH:=zc hh
 have HC:=zc h
 have H0:=zc h0
 have HF:=zc hf
 have HG:=zc hg
 have au:=zc aw
 have HY:Hid (za5 C l q=bd (zd C 1 zU q) fun a=>bd (zH C a) fun b=>bd (zd C 4 cSemi b.1) fun c=>zP (fun e=>zo C (zai b.2 e)) l (.ok c)):=by show _=_;rw[za5,hi];rfl
 clear hh h h0 hf hg aw
 go_enter Tryz.func176,Tryz.ntmps176
 go_wp2_with fail
 refine (zbO C I o n z Y q 1 zU _ HC.out).mono ?_
 rintro e w1 ⟨rfl,N⟩
 rw[hi]
 have aj:Hid (IM C I o n z Y q w1):=HC.out.later N
 have af:Hid (IS z S w Y w1):=(H0.out.trans (IS.below N))
 have an:IS z Y wc Y w1:=IS.below N
 clear N
 have aK:Hid (Fr 102 4 w1 b0 r l.length (l.flatMap (fun e=>epL (zA e))) Y):=HF.out.step HC.out (by decide) an
 clear an
 go_wp2_with fail
 refine (zea C I o n z Y q zU _ aj.out).mono ?_
 cases ag:zd C 1 zU q with
 |error p=>
  rintro e w2 ⟨rfl,N⟩
  have HB:Hid (Below n w w2):=(HH.out.back af.out).trans N
  have X:Hid (za5 C l q= .error p):=bdE HY.out ag
  unfold Pan
  go_wp2
  refine⟨rfl,?_⟩
  rw[X.out]
  exact⟨rfl,HB.out⟩
 |ok a2=>
  rintro e w2 ⟨rfl,S2,m,s⟩
  have aE:Hid (Fr 102 4 w2 b0 r l.length (l.flatMap (fun e=>epL (zA e))) S2):=aK.out.step aj.out (by decide) s
  have ar:=zc m
  have av:Hid (IS z S w S2 w2):=af.out.trans s
  clear m s
  have aq:=zc (bdO HY.out ag)
  go_wp2_with fail
  refine (zf3 C I o n z S2 a2 _ ar.out hC).mono ?_
  cases ah:zH C a2 with
  |error p=>
   rintro e w3 ⟨rfl,N⟩
   have HB:Hid (Below n w w3):=(HH.out.back av.out).trans N
   have X:Hid (za5 C l q= .error p):=bdE aq.out ah
   unfold Pan
   go_wp2
   refine⟨rfl,?_⟩
   rw[X.out]
   exact⟨rfl,HB.out⟩
  |ok A=>
   rintro e w3 ⟨rfl,M,m,s⟩
   have aa:Hid (Fr 102 4 w3 b0 r l.length (l.flatMap (fun e=>epL (zA e))) M):=aE.out.step ar.out (by decide) s
   have ab:=zc m
   have aN:Hid (IS z S w M w3):=av.out.trans s
   clear m s
   have ax:=zc (bdO aq.out ah)
   have ac:Hid (Fr 102 4 w3 b0 r l.length ((mxE A.2 l 0).flatMap epL) M):=by show Fr _ _ _ _ _ _ _ _;rw[zpS,zjL];exact aa.out
   have ad:g≠z:=aa.out.ngp ab.out (by decide) (by rw[Rw.blk,HG.out];rfl)
   have ao:g≠I:=aa.out.ngt ab.out (by decide) (by rw[Rw.blk,HG.out];rfl)
   have U:Hid (¬M.has g):=aa.out.2 g (by rw[Rw.blk,HG.out];rfl)
   have al:=zc ad
   have am:=zc ao
   clear ad ao
   go_wp2
   go_loopg [22] l.length (fun k i wr=>∃(j:Nat),i= .int .i64 j∧j+k=l.length∧IM C I o n z M A.1 wr∧IS z S w M wr∧Fr 102 4 wr b0 r l.length ((mxE A.2 l j).flatMap epL) M)
   case atStart=>exact⟨0,rfl,by omega,ab.out,aN.out,ac.out⟩
   case round=>
    obtain⟨j,rfl,hj,m',s',f'⟩:=hrel
    have E:Hid (IM C I o n z M A.1 wr):=m'
    have H:Hid (IS z S w M wr):=s'
    have K:Hid (Fr 102 4 wr b0 r l.length ((mxE A.2 l j).flatMap epL) M):=f'
    clear m' s' f'
    by_cases Z:j<l.length
    ·have Q:(j:Int)<(l.length:Int):=by omega
     obtain⟨x,hx⟩:=zfd Z
     have X:=zc hx
     have L:=K.out.1
     have ho:OwnR wr b0 102 4 r (mxE A.2 l j).length ((mxE A.2 l j).flatMap epL):=by rw[zjI];exact L
     obtain⟨g',O,D⟩:=OwnR.elem (f:=epL) (m:=4) (fun _=>rfl) ho (zjJ hx)
     have eg:g'=g:=by have:=O.symm.trans HG.out;simpa using this
     subst eg
     have k0:=D 0 (by omega)
     have k3:=D 3 (by omega)
     simp only[epL,zA,Nat.add_zero,List.getElem?_cons_zero,List.getElem?_cons_succ] at k0 k3
     unfold OwnR at L
     rw[HG.out] at L
     have aP:=L.frozenAt
     have aI:=zc L
     clear D O hx L ho
     obtain⟨V,J⟩: ∃V,V=j+1:=⟨_,rfl⟩
     have ej:(j:Int)+1=(V:Int):=by omega
     have HJ:=zc J
     clear J
     go_wp2
     go_roundg (gk-1)
     case rel=>
      refine⟨V,rfl,by have:=HJ.out;omega,(E.out.set al.out am.out U.out _ _).set al.out am.out U.out _ _,(H.out.new au.out _ _).new au.out _ _,?_,K.out.2⟩
      have aB:=(aI.out.stored (j*4+0) (.int .i64 2)).1
      have ai:=(aB.stored (j*4+3) (.string A.2)).1
      rw[zjH epL 4 (fun _=>rfl) _ j 0 (zA x) ⟨2,x.name,x.loc,sNone⟩ (.int .i64 2) (zjJ X.out) (by omega) rfl,zjH epL 4 (fun _=>rfl) ((mxE A.2 l j).set j ⟨2,x.name,x.loc,sNone⟩) j 3 ⟨2,x.name,x.loc,sNone⟩ (zai A.2 x) (.string A.2) (List.getElem?_set_self (by rw[zjI];exact Z)) (by omega) rfl,List.set_set,zpR X.out,←HJ.out] at ai
      unfold OwnR
      rw[HG.out]
      exact ai
     case measure=>omega
    ·have Q: ¬(j:Int)<(l.length:Int):=by omega
     have aF:j=l.length:=by omega
     subst aF
     have aH:Hid (Fr 102 4 wr b0 r l.length (l.flatMap fun e=>epL (zai A.2 e)) M):=by show Fr _ _ _ _ _ _ _ _;rw[←zjL,←zpT A.2 l];exact K.out
     go_wp2_with fail
     refine (zbX C I o n z M A.1 59 _ E.out).mono ?_
     cases ae:zd C 4 cSemi A.1 with
     |error p=>
      rintro e w4 ⟨rfl,N⟩
      have HB:Hid (Below n w w4):=(HH.out.back H.out).trans N
      have X:Hid (za5 C l q= .error p):=bdE ax.out ae
      unfold Pan
      go_wp2
      refine⟨rfl,?_⟩
      rw[X.out]
      exact⟨rfl,HB.out⟩
     |ok a4=>
      rintro e w4 ⟨rfl,S4,m,s⟩
      have ac:Hid (Fr 102 4 w4 b0 r l.length (l.flatMap fun e=>epL (zai A.2 e)) S4):=aH.out.step E.out (by decide) s
      have aD:=zc m
      have aC:Hid (IS z S w S4 w4):=H.out.trans s
      clear m s
      have aA:=zc (bdO ax.out ae)
      have ap:0<a4.pos:=by rw[(zb4 ae).1];exact Nat.succ_pos _
      go_wp2
      go_loopg [39] l.length (fun k i wr=>∃(j:Nat) (S':Sv) (q':PS),i= .int .i64 j∧j+k=l.length∧za5 C l q=zP (fun e=>zo C (zai A.2 e)) (l.drop j) (.ok q')∧0<q'.pos∧IM C I o n z S' q' wr∧IS z S w S' wr∧Fr 102 4 wr b0 r l.length (l.flatMap fun e=>epL (zai A.2 e)) S')
      case atStart=>exact⟨0,S4,a4,rfl,by omega,aA.out,ap,aD.out,aC.out,ac.out⟩
      case round=>
       obtain⟨j,S',q',rfl,hj,hy,ak,m',s',f'⟩:=hrel
       have az:=zc hy
       have E:Hid (IM C I o n z S' q' wr):=m'
       have H:Hid (IS z S w S' wr):=s'
       have K:Hid (Fr 102 4 wr b0 r l.length (l.flatMap fun e=>epL (zai A.2 e)) S'):=f'
       clear hy m' s' f'
       by_cases Z:j<l.length
       ·have Q:(j:Int)<(l.length:Int):=by omega
        obtain⟨x,hx⟩:=zfd Z
        obtain⟨g',O,D⟩:=OwnR.elem (f:=fun e=>epL (zai A.2 e)) (m:=4) (fun _=>rfl) K.out.1 hx
        have eg:g'=g:=by have:=O.symm.trans HG.out;simpa using this
        subst eg
        have k0:=D 0 (by omega)
        have k1:=D 1 (by omega)
        have k2:=D 2 (by omega)
        have k3:=D 3 (by omega)
        simp only[epL,zai,Nat.add_zero,List.getElem?_cons_zero,List.getElem?_cons_succ] at k0 k1 k2 k3
        have HZ:=zc (az.out.trans (zhg (fun e=>zo C (zai A.2 e)) hx q'))
        clear D O hx
        obtain⟨V,J⟩: ∃V,V=j+1:=⟨_,rfl⟩
        have ej:(j:Int)+1=(V:Int):=by omega
        rw[←J] at HZ
        have ad:=E.out.lt
        have HJ:=zc J
        clear J
        go_wp2_with fail
        refine (zeJ C I o n z S' q' (zai A.2 x) _ (E.out.alloc _) ak).mono ?_
        cases hn:zo C (zai A.2 x) q' with
        |error p=>
         rintro e wy ⟨rfl,N⟩
         have HB:Hid (Below n w wy):=(HH.out.back (H.out.alloc _)).trans N
         have X:Hid (za5 C l q= .error p):=by show _=_;rw[HZ.out,hn];exact zfL _ _ _
         unfold Pan
         go_wp2
         refine⟨rfl,?_⟩
         rw[X.out]
         exact⟨rfl,HB.out⟩
        |ok ay=>
         rintro e wy ⟨rfl,Sy,m,s⟩
         have aJ:=zc m
         have aO:Hid (IS z S w Sy wy):=(H.out.alloc _).trans s
         have aM:Hid (Fr 102 4 wy b0 r l.length (l.flatMap fun e=>epL (zai A.2 e)) Sy):=(K.out.later ((Below.refl _ _).alloc (Nat.le_refl _) _)).step (E.out.alloc _) (by decide) s
         have aG:Hid (za5 C l q=zP (fun e=>zo C (zai A.2 e)) (l.drop V) (.ok ay)):=by show _=_;rw[HZ.out,hn]
         have aL:Hid (0<ay.pos):=by show 0<ay.pos;rw[zjF hn];exact ak
         clear m s
         go_wp2
         go_roundg (gk-1)
         case rel=>exact⟨V,Sy,ay,rfl,by have:=HJ.out;omega,aG.out,aL.out,aJ.out,aO.out,aM.out⟩
         case measure=>omega
       ·have Q: ¬(j:Int)<(l.length:Int):=by omega
        have HZ:Hid (za5 C l q= .ok q'):=by show _=_;rw[az.out,List.drop_eq_nil_of_le (by omega)];rfl
        go_wp2
        go_end0
        rw[HZ.out]
        exact⟨rfl,S',E.out,H.out⟩
theorem zqa (C:Cx) (z n j o b0:Nat) (r:Rw) (S A:Sv) (H q:PS) (l:List Ep) (w wc:World) (I:IM C z n j o S H w) (h:IM C z n j o A q wc) (J:IS o S w A wc) (U:zbf C) (N:l.length≤4000) (L:l.length≠0) (E:Fr 102 4 wc b0 r l.length (l.flatMap (fun e=>epL (zA e))) A) (O:w.heap.size≤b0):
  Calls Tryz.prog 176 #[.pointer (some ⟨o,0,none⟩),.slice r.a l.length r.cap] wc (zQ C z n j o (za5 C l q) id (fun _=>.tuple #[]) S w):=by
 rcases E.1.nil_or with ⟨_,_,e⟩|⟨g,D⟩
 ·exact absurd e L
 ·have M:w.heap.size≤g:=Nat.le_trans O (E.1.typed (show r.blk=some g by rw[Rw.blk,D];rfl)).1
  rw[D]
  cases K:isT C q.pos 1 zU with
  |true=>exact zpZ C z n j o b0 g r S A H q l w wc I h J U N E D M K
  |false=>
   cases Q:za8 l with
   |true=>exact zpY C z n j o b0 g r S A H q l w wc I h J N E D K Q
   |false=>exact zpX C z n j o b0 g r S A H q l w wc I h J N E D K Q
theorem zqb {C:Cx} {k:Int} {n:ByteArray} {q b:PS} (h:zV C k n q= .ok b):b={q with st:=q.st++[⟨k,n,(q.ex.length:Int)-1⟩]}:=by
 unfold zV at h
 split at h
 ·cases h
 ·cases h
  rfl
theorem zhi {C:Cx} {k:Int} {n s:ByteArray} {q b:PS} (h:stmtI C k n s q= .ok b) (E:0<s.size):(∃l e,b.st=l++[⟨k,n,e⟩])∧0<b.pos:=by
 obtain⟨a,H,o⟩:=zf h
 obtain⟨c,j,A⟩:=zf o
 have z:=zih _ j
 have D:=zqb A
 subst D
 refine⟨⟨_,_,rfl⟩,?_⟩
 rw[z]
 show 0<a.pos+s.size
 omega
theorem zqc {C:Cx} {k:Int} {q b:PS} (h:letJ C k q= .ok b):(∃l e,b.st=l++[⟨k,(ze C q.pos).text,e⟩])∧0<b.pos:=by
 obtain⟨a,o,n⟩:=zf h
 obtain⟨c,z,j⟩:=zf n
 have:=zhi j (by decide)
 rw[(zbd o).1] at this
 exact this
theorem zqd {C:Cx} {q b:PS} (h:fnI C q= .ok b):(∃l e,b.st=l++[⟨2,(ze C q.pos).text,e⟩])∧0<b.pos:=by
 obtain⟨a,z,j⟩:=zf h
 obtain⟨c,A,n⟩:=zf j
 obtain⟨d,D,o⟩:=zf n
 have:=zhi o (by decide)
 rw[(zbd z).1] at this
 exact this
theorem zjM (C:Cx) (A o j z:Nat) (S:Sv) (q:PS) (l:List Sm) (k e:Int) (n:ByteArray) (w:World) (h:IM C A o j z S q w) (E:q.st=l++[⟨k,n,e⟩]) (D:n.size≤281474976710656) (H:0<q.pos):
  Calls Tryz.prog 179 #[.pointer (some ⟨z,0,none⟩)] w (zQ C A o j z (zo C ⟨1,n,n,sNone⟩ q) id (fun _=>.tuple #[]) S w):=zmu C A o j z S q l ⟨k,n,e⟩ w h E D H
def zaq (C:Cx) (q:PS):PR:=
 if isT C q.pos 4 zJ then bd (zax C true (adv q) []) fun a=>za5 C a.2 a.1
 else if isT C q.pos 4 zw then bd (zd C 1 zU (adv q)) fun a=>bd (zH C a) fun b=>bd (zd C 4 cSemi b.1) fun c=>zo C ⟨3,sNone,sNone,b.2⟩ c
 else if isT C q.pos 1 sDefault then bd (stmtI C 1 zbN cSemi (adv q)) fun a=>zo C ⟨1,sDefault,zbN,sNone⟩ a
 else if isT C q.pos 1 zC then bd (letJ C 1 (adv q)) fun a=>zo C ⟨1,(ze C (q.pos+1)).text,(ze C (q.pos+1)).text,sNone⟩ a
 else if isT C q.pos 1 zT then bd (fnI C (adv q)) fun a=>zo C ⟨1,(ze C (q.pos+1)).text,(ze C (q.pos+1)).text,sNone⟩ a
 else .error (zr C q.pos)
theorem zqe (C:Cx) (A n j z:Nat) (S:Sv) (q:PS) (w:World) (h:IM C A n j z S q w) (hC:zbf C) (h1:isT C q.pos 4 zJ=true):
  Calls Tryz.prog 150 #[.pointer (some ⟨z,0,none⟩)] w (zQ C A n j z (zaq C q) id (fun _=>.tuple #[]) S w):=by
 have L:=zc h
 have Z:Hid (zaq C q=bd (zax C true (adv q) []) fun a=>za5 C a.2 a.1):=by show _=_;rw[zaq,h1];rfl
 clear h
 go_enter Tryz.func150,Tryz.ntmps150
 go_wp2_with fail
 refine (zK C A n j z S q 4 zJ _ L.out (by decide)).mono ?_
 rintro e w1 ⟨rfl,m,s⟩
 rw[h1] at m ⊢
 have Y:=zc m
 have o:=zc s
 clear m s
 go_wp2_with fail
 refine (zpQ C A n j z S (adv q) _ Y.out).mono ?_
 cases D:zax C true (adv q) [] with
 |error p=>
  rintro e Q ⟨rfl,N⟩
  have M:Hid (Below j w Q):=(L.out.back o.out).trans N
  have I:Hid (zaq C q= .error p):=bdE Z.out D
  unfold Pan
  go_wp2
  refine⟨rfl,?_⟩
  rw[I.out]
  exact⟨rfl,M.out⟩
 |ok J=>
  rintro e Q ⟨r,S3,rfl,m,s,f,l0,l1⟩
  have U:=zc m
  have O:Hid (IS z S w S3 Q):=o.out.trans s
  have V:=zc f
  clear m s f
  have E:=zc (bdO Z.out D)
  go_wp2_with fail
  refine (zqa C A n j z _ r S S3 q J.1 J.2 w _ L.out U.out O.out hC l1 (by omega) V.out o.out.size).mono ?_
  cases H:za5 C J.2 J.1 with
  |error p=>
   rintro e w4 ⟨rfl,N⟩
   have M:=zc N
   have I:=zc (E.out.trans H)
   unfold Pan
   go_wp2
   refine⟨rfl,?_⟩
   rw[I.out]
   exact⟨rfl,M.out⟩
  |ok a4=>
   rintro e w4 ⟨rfl,S4,m,s⟩
   have K:=zc m
   have X:=zc s
   clear m s
   have I:=zc (E.out.trans H)
   go_wp2
   go_end0
   rw[I.out]
   exact⟨rfl,S4,K.out,X.out⟩
theorem zqf (C:Cx) (z n j o:Nat) (S:Sv) (q:PS) (w:World) (h:IM C z n j o S q w) (hC:zbf C) (h1:isT C q.pos 4 zJ=false) (h2:isT C q.pos 4 zw=true):
  Calls Tryz.prog 150 #[.pointer (some ⟨o,0,none⟩)] w (zQ C z n j o (zaq C q) id (fun _=>.tuple #[]) S w):=by
 have K:=zc h
 have HY:Hid (zaq C q=bd (zd C 1 zU (adv q)) fun a=>bd (zH C a) fun b=>bd (zd C 4 cSemi b.1) fun c=>zo C ⟨3,sNone,sNone,b.2⟩ c):=by show _=_;rw[zaq,h1,h2];rfl
 clear h
 go_enter Tryz.func150,Tryz.ntmps150
 go_wp2_with fail
 refine (zK C z n j o S q 4 zJ _ K.out (by decide)).mono ?_
 rintro e w1 ⟨rfl,m,s⟩
 rw[h1] at m ⊢
 have ai:=zc m
 have aa:=zc s
 clear m s
 go_wp2_with fail
 refine (zK C z n j o S q 4 zw _ ai.out (by decide)).mono ?_
 rintro e w2 ⟨rfl,m,s⟩
 rw[h2] at m ⊢
 have ae:=zc m
 have M:Hid (IS o S w S w2):=aa.out.trans s
 clear m s
 go_wp2_with fail
 refine (zea C z n j o S (adv q) zU _ ae.out).mono ?_
 cases Q:zd C 1 zU (adv q) with
 |error p=>
  rintro e w3 ⟨rfl,E⟩
  have D:Hid (Below j w w3):=(K.out.back M.out).trans E
  have H:Hid (zaq C q= .error p):=bdE HY.out Q
  unfold Pan
  go_wp2
  refine⟨rfl,?_⟩
  rw[H.out]
  exact⟨rfl,D.out⟩
 |ok a3=>
  rintro e w3 ⟨rfl,S3,m,s⟩
  have ag:=zc m
  have O:Hid (IS o S w S3 w3):=M.out.trans s
  clear m s
  have U:=zc (bdO HY.out Q)
  go_wp2_with fail
  refine (zf3 C z n j o S3 a3 _ ag.out hC).mono ?_
  cases X:zH C a3 with
  |error p=>
   rintro e w4 ⟨rfl,E⟩
   have D:Hid (Below j w w4):=(K.out.back O.out).trans E
   have H:Hid (zaq C q= .error p):=bdE U.out X
   unfold Pan
   go_wp2
   refine⟨rfl,?_⟩
   rw[H.out]
   exact⟨rfl,D.out⟩
  |ok Z=>
   rintro e w4 ⟨rfl,S4,m,s⟩
   have ab:=zc m
   have V:Hid (IS o S w S4 w4):=O.out.trans s
   clear m s
   have J:=zc (bdO U.out X)
   go_wp2_with fail
   refine (zbX C z n j o S4 Z.1 59 _ ab.out).mono ?_
   cases A:zd C 4 cSemi Z.1 with
   |error p=>
    rintro e w5 ⟨rfl,E⟩
    have D:Hid (Below j w w5):=(K.out.back V.out).trans E
    have H:Hid (zaq C q= .error p):=bdE J.out A
    unfold Pan
    go_wp2
    refine⟨rfl,?_⟩
    rw[H.out]
    exact⟨rfl,D.out⟩
   |ok a5=>
    rintro e w5 ⟨rfl,S5,m,s⟩
    have ad:=zc m
    have L:Hid (IS o S w S5 w5):=V.out.trans s
    clear m s
    have Y:=zc (bdO J.out A)
    have N:0<a5.pos:=by rw[(zb4 A).1];exact Nat.succ_pos _
    go_wp2_with fail
    refine (zeJ C z n j o S5 a5 ⟨3,sNone,sNone,Z.2⟩ _ ad.out N).mono ?_
    cases I:zo C ⟨3,sNone,sNone,Z.2⟩ a5 with
    |error p=>
     rintro e w6 ⟨rfl,E⟩
     have D:Hid (Below j w w6):=(K.out.back L.out).trans E
     have H:Hid (zaq C q= .error p):=Y.out.trans I
     unfold Pan
     go_wp2
     refine⟨rfl,?_⟩
     rw[H.out]
     exact⟨rfl,D.out⟩
    |ok a6=>
     rintro e w6 ⟨rfl,S6,m,s⟩
     have ah:=zc m
     have ac:Hid (IS o S w S6 w6):=L.out.trans s
     clear m s
     have af:=zc (Y.out.trans I)
     go_wp2
     go_end0
     rw[af.out]
     exact⟨rfl,S6,ah.out,ac.out⟩
theorem zqg (C:Cx) (z n j o:Nat) (S:Sv) (q:PS) (w:World) (h:IM C z n j o S q w) (h1:isT C q.pos 4 zJ=false) (h2:isT C q.pos 4 zw=false) (h3:isT C q.pos 1 sDefault=true):
  Calls Tryz.prog 150 #[.pointer (some ⟨o,0,none⟩)] w (zQ C z n j o (zaq C q) id (fun _=>.tuple #[]) S w):=by
 have M:=zc h
 have HY:Hid (zaq C q=bd (stmtI C 1 zbN cSemi (adv q)) fun a=>zo C ⟨1,sDefault,zbN,sNone⟩ a):=by show _=_;rw[zaq,h1,h2,h3];rfl
 clear h
 go_enter Tryz.func150,Tryz.ntmps150
 go_wp2_with fail
 refine (zK C z n j o S q 4 zJ _ M.out (by decide)).mono ?_
 rintro e w1 ⟨rfl,m,s⟩
 rw[h1] at m ⊢
 have ac:=zc m
 have K:=zc s
 clear m s
 go_wp2_with fail
 refine (zK C z n j o S q 4 zw _ ac.out (by decide)).mono ?_
 rintro e w2 ⟨rfl,m,s⟩
 rw[h2] at m ⊢
 have V:=zc m
 have Q:Hid (IS o S w S w2):=K.out.trans s
 clear m s
 go_wp2_with fail
 refine (zK C z n j o S q 1 sDefault _ V.out (by decide)).mono ?_
 rintro e w3 ⟨rfl,m,s⟩
 rw[h3] at m ⊢
 have aa:=zc m
 have I:Hid (IS o S w S w3):=Q.out.trans s
 clear m s
 go_wp2_with fail
 refine (zd8 C z n j o S (adv q) 1 zbN cSemi _ aa.out (by decide) (by decide)).mono ?_
 cases A:stmtI C 1 zbN cSemi (adv q) with
 |error p=>
  rintro e Y ⟨rfl,X⟩
  have O:Hid (Below j w Y):=(M.out.back I.out).trans X
  have HX:Hid (zaq C q= .error p):=bdE HY.out A
  unfold Pan
  go_wp2
  refine⟨rfl,?_⟩
  rw[HX.out]
  exact⟨rfl,O.out⟩
 |ok a4=>
  rintro e Y ⟨rfl,S4,m,s⟩
  have L:=zc m
  have J:Hid (IS o S w S4 Y):=I.out.trans s
  clear m s
  have E:=zc (bdO HY.out A)
  have H:=(zhi A (by decide)).2
  go_wp2_with fail
  refine (zeJ C z n j o S4 a4 ⟨1,sDefault,zbN,sNone⟩ _ L.out H).mono ?_
  cases D:zo C ⟨1,sDefault,zbN,sNone⟩ a4 with
  |error p=>
   rintro e Z ⟨rfl,X⟩
   have O:Hid (Below j w Z):=(M.out.back J.out).trans X
   have HX:Hid (zaq C q= .error p):=E.out.trans D
   unfold Pan
   go_wp2
   refine⟨rfl,?_⟩
   rw[HX.out]
   exact⟨rfl,O.out⟩
  |ok a5=>
   rintro e Z ⟨rfl,S5,m,s⟩
   have U:=zc m
   have N:Hid (IS o S w S5 Z):=J.out.trans s
   clear m s
   have ab:=zc (E.out.trans D)
   go_wp2
   go_end0
   rw[ab.out]
   exact⟨rfl,S5,U.out,N.out⟩
theorem zqh (C:Cx) (z n j o:Nat) (S:Sv) (q:PS) (w:World) (h:IM C z n j o S q w) (hC:zbf C) (h1:isT C q.pos 4 zJ=false) (h2:isT C q.pos 4 zw=false) (h3:isT C q.pos 1 sDefault=false) (h4:isT C q.pos 1 zC=true):
  Calls Tryz.prog 150 #[.pointer (some ⟨o,0,none⟩)] w (zQ C z n j o (zaq C q) id (fun _=>.tuple #[]) S w):=by
 have N:=zc h
 have HY:Hid (zaq C q=bd (letJ C 1 (adv q)) fun a=>zo C ⟨1,(ze C (q.pos+1)).text,(ze C (q.pos+1)).text,sNone⟩ a):=by show _=_;rw[zaq,h1,h2,h3,h4];rfl
 clear h
 go_enter Tryz.func150,Tryz.ntmps150
 go_wp2_with fail
 refine (zK C z n j o S q 4 zJ _ N.out (by decide)).mono ?_
 rintro e w1 ⟨rfl,m,s⟩
 rw[h1] at m ⊢
 have ad:=zc m
 have L:=zc s
 clear m s
 go_wp2_with fail
 refine (zK C z n j o S q 4 zw _ ad.out (by decide)).mono ?_
 rintro e w2 ⟨rfl,m,s⟩
 rw[h2] at m ⊢
 have Y:=zc m
 have V:Hid (IS o S w S w2):=L.out.trans s
 clear m s
 go_wp2_with fail
 refine (zK C z n j o S q 1 sDefault _ Y.out (by decide)).mono ?_
 rintro e w3 ⟨rfl,m,s⟩
 rw[h3] at m ⊢
 have ab:=zc m
 have Z:Hid (IS o S w S w3):=V.out.trans s
 clear m s
 go_wp2_with fail
 refine (zK C z n j o S q 1 zC _ ab.out (by decide)).mono ?_
 rintro e w4 ⟨rfl,m,s⟩
 rw[h4] at m ⊢
 have M:=zc m
 have J:Hid (IS o S w S w4):=Z.out.trans s
 clear m s
 go_wp2_with fail
 refine (zg7 C z n j o S (adv q) _ M.out).mono ?_
 cases A:letJ C 1 (adv q) with
 |error p=>
  rintro e w5 ⟨rfl,hb⟩
  have Q:Hid (Below j w w5):=(N.out.back J.out).trans hb
  have HX:Hid (zaq C q= .error p):=bdE HY.out A
  unfold Pan
  go_wp2
  refine⟨rfl,?_⟩
  rw[HX.out]
  exact⟨rfl,Q.out⟩
 |ok a5=>
  rintro e w5 ⟨rfl,S5,m,s⟩
  have X:=zc m
  have H:Hid (IS o S w S5 w5):=J.out.trans s
  clear m s
  have K:=zc (bdO HY.out A)
  obtain⟨⟨l,e,E⟩,I⟩:=zqc A
  have O:=zc E
  clear E
  go_wp2_with fail
  refine (zjM C z n j o S5 a5 l _ _ (ze C (q.pos+1)).text _ X.out O.out (hC _) I).mono ?_
  cases D:zo C ⟨1,(ze C (q.pos+1)).text,(ze C (q.pos+1)).text,sNone⟩ a5 with
  |error p=>
   rintro e w6 ⟨rfl,hb⟩
   have Q:Hid (Below j w w6):=(N.out.back H.out).trans hb
   have HX:Hid (zaq C q= .error p):=K.out.trans D
   unfold Pan
   go_wp2
   refine⟨rfl,?_⟩
   rw[HX.out]
   exact⟨rfl,Q.out⟩
  |ok a6=>
   rintro e w6 ⟨rfl,S6,m,s⟩
   have ac:=zc m
   have U:Hid (IS o S w S6 w6):=H.out.trans s
   clear m s
   have aa:=zc (K.out.trans D)
   go_wp2
   go_end0
   rw[aa.out]
   exact⟨rfl,S6,ac.out,U.out⟩
theorem zqi (C:Cx) (z n j o:Nat) (S:Sv) (q:PS) (w:World) (h:IM C z n j o S q w) (hC:zbf C) (h1:isT C q.pos 4 zJ=false) (h2:isT C q.pos 4 zw=false) (h3:isT C q.pos 1 sDefault=false) (h4:isT C q.pos 1 zC=false) (h5:isT C q.pos 1 zT=true):
  Calls Tryz.prog 150 #[.pointer (some ⟨o,0,none⟩)] w (zQ C z n j o (zaq C q) id (fun _=>.tuple #[]) S w):=by
 have Q:=zc h
 have HY:Hid (zaq C q=bd (fnI C (adv q)) fun a=>zo C ⟨1,(ze C (q.pos+1)).text,(ze C (q.pos+1)).text,sNone⟩ a):=by show _=_;rw[zaq,h1,h2,h3,h4,h5];rfl
 clear h
 go_enter Tryz.func150,Tryz.ntmps150
 go_wp2_with fail
 refine (zK C z n j o S q 4 zJ _ Q.out (by decide)).mono ?_
 rintro e w1 ⟨rfl,m,s⟩
 rw[h1] at m ⊢
 have af:=zc m
 have L:=zc s
 clear m s
 go_wp2_with fail
 refine (zK C z n j o S q 4 zw _ af.out (by decide)).mono ?_
 rintro e w2 ⟨rfl,m,s⟩
 rw[h2] at m ⊢
 have Z:=zc m
 have X:Hid (IS o S w S w2):=L.out.trans s
 clear m s
 go_wp2_with fail
 refine (zK C z n j o S q 1 sDefault _ Z.out (by decide)).mono ?_
 rintro e w3 ⟨rfl,m,s⟩
 rw[h3] at m ⊢
 have ab:=zc m
 have aa:Hid (IS o S w S w3):=X.out.trans s
 clear m s
 go_wp2_with fail
 refine (zK C z n j o S q 1 zC _ ab.out (by decide)).mono ?_
 rintro e w4 ⟨rfl,m,s⟩
 rw[h4] at m ⊢
 have O:=zc m
 have ad:Hid (IS o S w S w4):=aa.out.trans s
 clear m s
 go_wp2_with fail
 refine (zK C z n j o S q 1 zT _ O.out (by decide)).mono ?_
 rintro e w5 ⟨rfl,m,s⟩
 rw[h5] at m ⊢
 have Y:=zc m
 have H:Hid (IS o S w S w5):=ad.out.trans s
 clear m s
 go_wp2_with fail
 refine (zg8 C z n j o S (adv q) _ Y.out).mono ?_
 cases A:fnI C (adv q) with
 |error p=>
  rintro e w6 ⟨rfl,hb⟩
  have V:Hid (Below j w w6):=(Q.out.back H.out).trans hb
  have HX:Hid (zaq C q= .error p):=bdE HY.out A
  unfold Pan
  go_wp2
  refine⟨rfl,?_⟩
  rw[HX.out]
  exact⟨rfl,V.out⟩
 |ok a6=>
  rintro e w6 ⟨rfl,S6,m,s⟩
  have ae:=zc m
  have I:Hid (IS o S w S6 w6):=H.out.trans s
  clear m s
  have K:=zc (bdO HY.out A)
  obtain⟨⟨l,e,E⟩,J⟩:=zqd A
  have U:=zc E
  clear E
  go_wp2_with fail
  refine (zjM C z n j o S6 a6 l _ _ (ze C (q.pos+1)).text _ ae.out U.out (hC _) J).mono ?_
  cases D:zo C ⟨1,(ze C (q.pos+1)).text,(ze C (q.pos+1)).text,sNone⟩ a6 with
  |error p=>
   rintro e w7 ⟨rfl,hb⟩
   have V:Hid (Below j w w7):=(Q.out.back I.out).trans hb
   have HX:Hid (zaq C q= .error p):=K.out.trans D
   unfold Pan
   go_wp2
   refine⟨rfl,?_⟩
   rw[HX.out]
   exact⟨rfl,V.out⟩
  |ok a7=>
   rintro e w7 ⟨rfl,S7,m,s⟩
   have M:=zc m
   have N:Hid (IS o S w S7 w7):=I.out.trans s
   clear m s
   have ac:=zc (K.out.trans D)
   go_wp2
   go_end0
   rw[ac.out]
   exact⟨rfl,S7,M.out,N.out⟩
theorem zqj (C:Cx) (z n j o:Nat) (S:Sv) (q:PS) (w:World) (h:IM C z n j o S q w) (Y:isT C q.pos 4 zJ=false) (Q:isT C q.pos 4 zw=false) (X:isT C q.pos 1 sDefault=false) (U:isT C q.pos 1 zC=false) (V:isT C q.pos 1 zT=false):
  Calls Tryz.prog 150 #[.pointer (some ⟨o,0,none⟩)] w (zQ C z n j o (zaq C q) id (fun _=>.tuple #[]) S w):=by
 have O:=zc h
 have HY:Hid (zaq C q= .error (zr C q.pos)):=by show _=_;rw[zaq,Y,Q,X,U,V];rfl
 clear h
 go_enter Tryz.func150,Tryz.ntmps150
 go_wp2_with fail
 refine (zK C z n j o S q 4 zJ _ O.out (by decide)).mono ?_
 rintro e w1 ⟨rfl,m,s⟩
 rw[Y] at m ⊢
 have N:=zc m
 have D:=zc s
 clear m s
 go_wp2_with fail
 refine (zK C z n j o S q 4 zw _ N.out (by decide)).mono ?_
 rintro e w2 ⟨rfl,m,s⟩
 rw[Q] at m ⊢
 have J:=zc m
 have I:Hid (IS o S w S w2):=D.out.trans s
 clear m s
 go_wp2_with fail
 refine (zK C z n j o S q 1 sDefault _ J.out (by decide)).mono ?_
 rintro e w3 ⟨rfl,m,s⟩
 rw[X] at m ⊢
 have L:=zc m
 have K:Hid (IS o S w S w3):=I.out.trans s
 clear m s
 go_wp2_with fail
 refine (zK C z n j o S q 1 zC _ L.out (by decide)).mono ?_
 rintro e w4 ⟨rfl,m,s⟩
 rw[U] at m ⊢
 have E:=zc m
 have M:Hid (IS o S w S w4):=K.out.trans s
 clear m s
 go_wp2_with fail
 refine (zK C z n j o S q 1 zT _ E.out (by decide)).mono ?_
 rintro e w5 ⟨rfl,m,s⟩
 rw[V] at m ⊢
 have A:=zc m
 have H:Hid (IS o S w S w5):=M.out.trans s
 clear m s
 go_wp2_with fail
 refine (zdZ C z n j o S q _ A.out).mono ?_
 rintro e Z ⟨rfl,hb⟩
 have HB:Hid (Below j w Z):=(O.out.back H.out).trans (hb.mono A.out.mem.base)
 have HX:Hid (zaq C q= .error (zr C q.pos)):=HY.out
 unfold Pan
 go_wp2
 refine⟨rfl,?_⟩
 rw[HX.out]
 exact⟨rfl,HB.out⟩
theorem zqk (C:Cx) (z n j o:Nat) (S:Sv) (q:PS) (w:World) (h:IM C z n j o S q w) (H:zbf C):
  Calls Tryz.prog 150 #[.pointer (some ⟨o,0,none⟩)] w (zQ C z n j o (zaq C q) id (fun _=>.tuple #[]) S w):=by
 cases A:isT C q.pos 4 zJ with
 |true=>exact zqe C z n j o S q w h H A
 |false=>
  cases D:isT C q.pos 4 zw with
  |true=>exact zqf C z n j o S q w h H A D
  |false=>
   cases E:isT C q.pos 1 sDefault with
   |true=>exact zqg C z n j o S q w h A D E
   |false=>
    cases I:isT C q.pos 1 zC with
    |true=>exact zqh C z n j o S q w h H A D E I
    |false=>
     cases J:isT C q.pos 1 zT with
     |true=>exact zqi C z n j o S q w h H A D E I J
     |false=>exact zqj C z n j o S q w h A D E I J
end Go.Proofs.YticdggnnpjachaaGreat
