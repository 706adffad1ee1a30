/-
  What ContainsFunc over Exps answers,and a row of Exps whose elements are written: the walks.
  What exportNames of impl's parser answers: the walks. (It writes into the row that it is handed: so what is told is told from a world on in which that row was not yet there.)
  What exportItem of impl's parser answers: the walks.
-/
import Derived.Laws.OwnMore
import Derived.Test.YticdggnnpjachaaGreatCbImplParseU
namespace Go.Proofs.YticdggnnpjachaaGreat
set_option maxRecDepth 100000
set_option maxHeartbeats 3200000
open Go.RowKit Go.PlainAid Go.Sort
theorem zjH {α:Type} (f:α→List Value) (m:Nat) (n: ∀x,(f x).length=m): ∀(l:List α) (j i:Nat) (x y:α) (v:Value),l[j]? =some x→i<m→f y=(f x).set i v→(l.flatMap f).set (j*m+i) v=(l.set j y).flatMap f:=by
 intro l
 induction l with
 |nil=>intro j i x y v h;simp at h
 |cons z l A=>
  intro j i x y v h o q
  match j with
  |0=>
   simp only[List.getElem?_cons_zero,Option.some.injEq] at h
   subst h
   rw[List.flatMap_cons,Nat.zero_mul,Nat.zero_add,List.set_append_left _ _ (by rw[n];exact o),List.set_cons_zero,List.flatMap_cons,q]
  |j+1=>
   simp only[List.getElem?_cons_succ] at h
   rw[List.flatMap_cons,List.set_append_right _ _ (by rw[n,Nat.succ_mul];omega),n,List.set_cons_succ,List.flatMap_cons,←A j i x y v h o q]
   congr 2
   rw[Nat.succ_mul]
   omega
def mxE (s:ByteArray) (l:List Ep) (j:Nat):List Ep:=(l.take j).map (zai s)++(l.drop j).map zA
theorem zjI (s:ByteArray) (l:List Ep) (j:Nat):(mxE s l j).length=l.length:=by simp[mxE];omega
theorem zjJ {s:ByteArray} {l:List Ep} {j:Nat} {x:Ep} (h:l[j]? =some x):(mxE s l j)[j]? =some (zA x):=by
 obtain⟨o,rfl⟩:=List.getElem?_eq_some_iff.1 h
 have n:((l.take j).map (zai s)).length=j:=by simp;omega
 rw[mxE,List.getElem?_append_right (by omega),n,Nat.sub_self,List.drop_eq_getElem_cons o]
 rfl
theorem zpR {s:ByteArray} {l:List Ep} {j:Nat} {x:Ep} (h:l[j]? =some x):(mxE s l j).set j (zai s x)=mxE s l (j+1):=by
 obtain⟨n,rfl⟩:=List.getElem?_eq_some_iff.1 h
 have o:((l.take j).map (zai s)).length=j:=by simp;omega
 rw[mxE,List.set_append_right _ _ (by omega),o,Nat.sub_self,List.drop_eq_getElem_cons n,List.map_cons,List.set_cons_zero,mxE,List.take_succ_eq_append_getElem n,List.map_append,List.append_assoc]
 rfl
theorem zpS (s:ByteArray) (l:List Ep):mxE s l 0=l.map zA:=by simp[mxE]
theorem zpT (s:ByteArray) (l:List Ep):mxE s l l.length=l.map (zai s):=by simp[mxE]
theorem zpU (x:Ep) (w:World):
  Calls Tryz.prog 198 #[epV x] w fun e j=>e= .returned (.bool (x.loc.toList==[100,101,102,97,117,108,116]))∧Below w.heap.size w j:=by
 unfold epV
 cases n:(x.loc.toList==[100,101,102,97,117,108,116]) with
 |true=>
  go_enter Tryz.func198,Tryz.ntmps198
  go_wp2
  go_ret
  exact⟨rfl,(Below.refl _ _).alloc (Nat.le_refl _) _⟩
 |false=>
  go_enter Tryz.func198,Tryz.ntmps198
  go_wp2
  go_ret
  exact⟨rfl,(Below.refl _ _).alloc (Nat.le_refl _) _⟩
theorem zpV {l:List Ep} {j:Nat} {x:Ep} (h:l[j]? =some x):za8 (l.drop j)=((x.loc.toList==[100,101,102,97,117,108,116])||za8 (l.drop (j+1))):=by
 obtain⟨n,rfl⟩:=List.getElem?_eq_some_iff.1 h
 rw[List.drop_eq_getElem_cons n]
 simp only[za8,List.any_cons]
theorem zpW (q g:Nat) (r:Rw) (l:List Ep) (w:World) (h:OwnR w q 102 4 r l.length (l.flatMap fun e=>epL (zA e))) (hl:l.length≤4000) (X:r.a=some ⟨g,0,none⟩):
  Calls Tryz.prog 205 #[.slice (some ⟨g,0,none⟩) l.length r.cap,.func (.func 198) #[] #[]] w fun e w'=>(∃v:Int,e= .returned (.int .i64 v)∧decide (0≤v)=za8 l)∧Below w.heap.size w w':=by
 have O:=zc h
 have K:=zc X
 clear h X
 go_enter Tryz.func205,Tryz.ntmps205
 go_wp2
 go_loopg [8] (l.length+1) (fun k i wr=>∃j:Nat,i= .int .i64 j∧j+k=l.length+1∧za8 (l.drop j)=za8 l∧Below w.heap.size w wr)
 case atStart=>exact⟨0,rfl,by omega,by simp,Below.refl _ _⟩
 case round=>
  obtain⟨j,rfl,hj,U,V⟩:=hrel
  have M:=zc U
  have H:=zc V
  clear U V
  by_cases N:j<l.length
  ·have E:(j:Int)<(l.length:Int):=by omega
   obtain⟨x,L⟩:=zfd N
   have J:=zc (O.out.keep fun k g=>H.out.block k (O.out.typed g).2.1)
   obtain⟨g',A,n⟩:=OwnR.elem (f:=fun e=>epL (zA e)) (m:=4) (fun _=>rfl) J.out L
   have eg:g'=g:=by have:=A.symm.trans K.out;simpa using this
   subst eg
   have k0:=n 0 (by omega)
   have k1:=n 1 (by omega)
   have k2:=n 2 (by omega)
   have k3:=n 3 (by omega)
   simp only[epL,zA,Nat.add_zero,List.getElem?_cons_zero,List.getElem?_cons_succ] at k0 k1 k2 k3
   have Y:=zc (zpV L)
   clear n A L
   obtain⟨I,z⟩: ∃I,I=j+1:=⟨_,rfl⟩
   have ej:(j:Int)+1=(I:Int):=by omega
   have Q:=zc z
   clear z
   go_wp2_with fail
   refine (zpU (zA x) _).mono ?_
   rintro e w1 ⟨rfl,D⟩
   have o:Hid (Below w.heap.size w w1):=H.out.trans (D.mono H.out.size)
   clear D
   rw[show (zA x).loc=x.loc from rfl]
   cases Z:(x.loc.toList==[100,101,102,97,117,108,116]) with
   |true=>
    go_wp2
    go_ret
    refine⟨⟨_,rfl,?_⟩,o.out⟩
    rw[←M.out,Y.out,Z]
    simp
   |false=>
    go_wp2
    go_roundg (gk-1)
    case rel=>
     refine⟨I,rfl,by have:=Q.out;omega,?_,o.out⟩
     rw[←M.out,Y.out,Z,Q.out]
     simp
    case measure=>omega
  ·have E: ¬(j:Int)<(l.length:Int):=by omega
   go_wp2
   go_ret
   refine⟨⟨_,rfl,?_⟩,H.out⟩
   rw[←M.out,List.drop_eq_nil_of_le (by omega)]
   rfl
theorem zjK (j g:Nat) (r:Rw) (l:List Ep) (w:World) (h:OwnR w j 102 4 r l.length (l.flatMap fun e=>epL (zA e))) (I:l.length≤4000) (o:r.a=some ⟨g,0,none⟩):
  Calls Tryz.prog 199 #[.slice (some ⟨g,0,none⟩) l.length r.cap,.func (.func 198) #[] #[]] w fun e D=>e= .returned (.bool (za8 l))∧Below w.heap.size w D:=by
 have E:=zc h
 have n:=zc o
 clear h o
 go_enter Tryz.func199,Tryz.ntmps199
 go_wp2_with fail
 refine (zpW j g r l _ E.out I n.out).mono ?_
 rintro e J ⟨⟨v,rfl,q⟩,z⟩
 have A:=zc q
 have H:=zc z
 clear q z
 go_wp2
 go_ret
 exact⟨zm A.out,H.out⟩
def za5 (C:Cx) (l:List Ep) (q:PS):PR:=
 if isT C q.pos 1 zU||za8 l then bd (zd C 1 zU q) fun a=>bd (zH C a) fun b=>bd (zd C 4 cSemi b.1) fun c=>zP (fun e=>zo C (zai b.2 e)) l (.ok c)
 else bd (zd C 4 cSemi q) fun c=>zP (fun e=>zo C (zA e)) l (.ok c)
theorem zjL (X:Ep→Ep) (l:List Ep):(l.map X).flatMap epL=l.flatMap fun e=>epL (X e):=by rw[List.flatMap_map]
theorem zpX (C:Cx) (H o n z b0 g:Nat) (r:Rw) (S D:Sv) (q0 q:PS) (l:List Ep) (w wc:World) (hh:IM C H o n z S q0 w) (h:IM C H o n z D q wc) (h0:IS z S w D wc) (hl:l.length≤4000) (hf:Fr 102 4 wc b0 r l.length (l.flatMap (fun e=>epL (zA e))) D) (hg:r.a=some ⟨g,0,none⟩) (hi:isT C q.pos 1 zU=false) (ha:za8 l=false):
  Calls Tryz.prog 176 #[.pointer (some ⟨z,0,none⟩),.slice (some ⟨g,0,none⟩) l.length r.cap] wc (zQ C H o n z (za5 C l q) id (fun _=>.tuple #[]) S w):=by
 have HH:=zc hh
 have HC:=zc h
 have H0:=zc h0
 have HF:=zc hf
 have HG:=zc hg
 have HY:Hid (za5 C l q=bd (zd C 4 cSemi q) fun c=>zP (fun e=>zo C (zA e)) l (.ok c)):=by show _=_;rw[za5,hi,ha];rfl
 clear hh h h0 hf hg
 go_enter Tryz.func176,Tryz.ntmps176
 go_wp2_with fail
 refine (zbO C H o n z D q 1 zU _ HC.out).mono ?_
 rintro e w1 ⟨rfl,A⟩
 rw[hi]
 have aj:Hid (IM C H o n z D q w1):=HC.out.later A
 have ah:Hid (IS z S w D w1):=(H0.out.trans (IS.below A))
 have U:IS z D wc D w1:=IS.below A
 clear A
 have ad:Hid (Fr 102 4 w1 b0 r l.length (l.flatMap (fun e=>epL (zA e))) D):=HF.out.step HC.out (by decide) U
 clear U
 go_wp2_with fail
 refine (zjK b0 g r l _ ad.out.1 hl HG.out).mono ?_
 rintro e w2 ⟨rfl,A⟩
 rw[ha]
 have af:Hid (Fr 102 4 w2 b0 r l.length (l.flatMap (fun e=>epL (zA e))) D):=ad.out.later A
 have V:Hid (IM C H o n z D q w2):=aj.out.later A
 have ab:Hid (IS z S w D w2):=(ah.out.trans (IS.below A))
 clear A
 go_wp2_with fail
 refine (zbX C H o n z D q 59 _ V.out).mono ?_
 cases L:zd C 4 cSemi q with
 |error p=>
  rintro e w3 ⟨rfl,A⟩
  have HB:Hid (Below n w w3):=(HH.out.back ab.out).trans A
  have HX:Hid (za5 C l q= .error p):=bdE HY.out L
  unfold Pan
  go_wp2
  refine⟨rfl,?_⟩
  rw[HX.out]
  exact⟨rfl,HB.out⟩
 |ok a3=>
  rintro e w3 ⟨rfl,S3,m,s⟩
  have ak:Hid (Fr 102 4 w3 b0 r l.length (l.flatMap (fun e=>epL (zA e))) S3):=af.out.step V.out (by decide) s
  have ao:=zc m
  have am:Hid (IS z S w S3 w3):=ab.out.trans s
  clear m s
  have al:=zc (bdO HY.out L)
  have Z:0<a3.pos:=by rw[(zb4 L).1];exact Nat.succ_pos _
  go_wp2
  go_loopg [39] l.length (fun k i wr=>∃(j:Nat) (K:Sv) (I:PS),i= .int .i64 j∧j+k=l.length∧za5 C l q=zP (fun e=>zo C (zA e)) (l.drop j) (.ok I)∧0<I.pos∧IM C H o n z K I wr∧IS z S w K wr∧Fr 102 4 wr b0 r l.length (l.flatMap fun e=>epL (zA e)) K)
  case atStart=>exact⟨0,S3,a3,rfl,by omega,al.out,Z,ao.out,am.out,ak.out⟩
  case round=>
   obtain⟨j,K,I,rfl,hj,hy,Q,m',s',f'⟩:=hrel
   have aa:=zc hy
   have J:Hid (IM C H o n z K I wr):=m'
   have M:Hid (IS z S w K wr):=s'
   have ac:Hid (Fr 102 4 wr b0 r l.length (l.flatMap fun e=>epL (zA e)) K):=f'
   clear hy m' s' f'
   by_cases aq:j<l.length
   ·have Y:(j:Int)<(l.length:Int):=by omega
    obtain⟨x,hx⟩:=zfd aq
    obtain⟨g',X,E⟩:=OwnR.elem (f:=fun e=>epL (zA e)) (m:=4) (fun _=>rfl) ac.out.1 hx
    have eg:g'=g:=by have:=X.symm.trans HG.out;simpa using this
    subst eg
    have k0:=E 0 (by omega)
    have k1:=E 1 (by omega)
    have k2:=E 2 (by omega)
    have k3:=E 3 (by omega)
    simp only[epL,zA,Nat.add_zero,List.getElem?_cons_zero,List.getElem?_cons_succ] at k0 k1 k2 k3
    have O:=zc (aa.out.trans (zhg (fun e=>zo C (zA e)) hx I))
    clear E X hx
    obtain⟨j1,N⟩: ∃j1,j1=j+1:=⟨_,rfl⟩
    have ej:(j:Int)+1=(j1:Int):=by omega
    rw[←N] at O
    have ar:=J.out.lt
    have HJ:=zc N
    clear N
    go_wp2_with fail
    refine (zeJ C H o n z K I (zA x) _ (J.out.alloc _) Q).mono ?_
    cases hn:zo C (zA x) I with
    |error p=>
     rintro e wy ⟨rfl,A⟩
     have HB:Hid (Below n w wy):=(HH.out.back (M.out.alloc _)).trans A
     have HX:Hid (za5 C l q= .error p):=by show _=_;rw[O.out,hn];exact zfL _ _ _
     unfold Pan
     go_wp2
     refine⟨rfl,?_⟩
     rw[HX.out]
     exact⟨rfl,HB.out⟩
    |ok ay=>
     rintro e wy ⟨rfl,Sy,m,s⟩
     have an:=zc m
     have ae:Hid (IS z S w Sy wy):=(M.out.alloc _).trans s
     have ag:Hid (Fr 102 4 wy b0 r l.length (l.flatMap fun e=>epL (zA e)) Sy):=(ac.out.later ((Below.refl _ _).alloc (Nat.le_refl _) _)).step (J.out.alloc _) (by decide) s
     have ai:Hid (za5 C l q=zP (fun e=>zo C (zA e)) (l.drop j1) (.ok ay)):=by show _=_;rw[O.out,hn]
     have ap:Hid (0<ay.pos):=by show 0<ay.pos;rw[zjF hn];exact Q
     clear m s
     go_wp2
     go_roundg (gk-1)
     case rel=>exact⟨j1,Sy,ay,rfl,by have:=HJ.out;omega,ai.out,ap.out,an.out,ae.out,ag.out⟩
     case measure=>omega
   ·have Y: ¬(j:Int)<(l.length:Int):=by omega
    have O:Hid (za5 C l q= .ok I):=by show _=_;rw[aa.out,List.drop_eq_nil_of_le (by omega)];rfl
    go_wp2
    go_end0
    rw[O.out]
    exact⟨rfl,K,J.out,M.out⟩
theorem zpY (C:Cx) (D n j z b0 g:Nat) (r:Rw) (S o:Sv) (q0 q:PS) (l:List Ep) (w wc:World) (V:IM C D n j z S q0 w) (h:IM C D n j z o q wc) (X:IS z S w o wc) (hl:l.length≤4000) (U:Fr 102 4 wc b0 r l.length (l.flatMap (fun e=>epL (zA e))) o) (Z:r.a=some ⟨g,0,none⟩) (I:isT C q.pos 1 zU=false) (Y:za8 l=true):
  Calls Tryz.prog 176 #[.pointer (some ⟨z,0,none⟩),.slice (some ⟨g,0,none⟩) l.length r.cap] wc (zQ C D n j z (za5 C l q) id (fun _=>.tuple #[]) S w):=by
 have HH:=zc V
 have N:=zc h
 have H0:=zc X
 have HF:=zc U
 have HG:=zc Z
 have HY:Hid (za5 C l q= .error (zr C q.pos)):=by show _=_;rw[za5,I,Y,if_pos (by decide),zgy I];rfl
 clear V h X U Z
 go_enter Tryz.func176,Tryz.ntmps176
 go_wp2_with fail
 refine (zbO C D n j z o q 1 zU _ N.out).mono ?_
 rintro e J ⟨rfl,A⟩
 rw[I]
 have Q:Hid (IM C D n j z o q J):=N.out.later A
 have L:Hid (IS z S w o J):=(H0.out.trans (IS.below A))
 have E:IS z o wc o J:=IS.below A
 clear A
 have H:Hid (Fr 102 4 J b0 r l.length (l.flatMap (fun e=>epL (zA e))) o):=HF.out.step N.out (by decide) E
 clear E
 go_wp2_with fail
 refine (zjK b0 g r l _ H.out.1 hl HG.out).mono ?_
 rintro e K ⟨rfl,A⟩
 rw[Y]
 have aa:Hid (Fr 102 4 K b0 r l.length (l.flatMap (fun e=>epL (zA e))) o):=H.out.later A
 have M:Hid (IM C D n j z o q K):=Q.out.later A
 have O:Hid (IS z S w o K):=(L.out.trans (IS.below A))
 clear A
 go_wp2_with fail
 refine (zea C D n j z o q zU _ M.out).mono ?_
 rw[zgy I]
 rintro e w3 ⟨rfl,A⟩
 have HB:Hid (Below j w w3):=(HH.out.back O.out).trans A
 have HX:Hid (za5 C l q= .error (zr C q.pos)):=HY.out
 unfold Pan
 go_wp2
 refine⟨rfl,?_⟩
 rw[HX.out]
 exact⟨rfl,HB.out⟩
theorem zpZ (C:Cx) (I o n z b0 g:Nat) (r:Rw) (S X:Sv) (q0 q:PS) (l:List Ep) (w wc:World) (hh:IM C I o n z S q0 w) (h:IM C I o n z X q wc) (h0:IS z S w X wc) (hC:zbf C) (hl:l.length≤4000) (hf:Fr 102 4 wc b0 r l.length (l.flatMap (fun e=>epL (zA e))) X) (hg:r.a=some ⟨g,0,none⟩) (az:w.heap.size≤g) (hi:isT C q.pos 1 zU=true):
  Calls Tryz.prog 176 #[.pointer (some ⟨z,0,none⟩),.slice (some ⟨g,0,none⟩) l.length r.cap] wc (zQ C I o n z (za5 C l q) id (fun _=>.tuple #[]) S w):=by
 have HH:=zc hh
 have HC:=zc h
 have H0:=zc h0
 have HF:=zc hf
 have HG:=zc hg
 have aA:=zc az
 have HY:Hid (za5 C l q=bd (zd C 1 zU q) fun a=>bd (zH C a) fun b=>bd (zd C 4 cSemi b.1) fun c=>zP (fun e=>zo C (zai b.2 e)) l (.ok c)):=by show _=_;rw[za5,hi];rfl
 clear hh h h0 hf hg az
 go_enter Tryz.func176,Tryz.ntmps176
 go_wp2_with fail
 refine (zbO C I o n z X q 1 zU _ HC.out).mono ?_
 rintro e w1 ⟨rfl,N⟩
 rw[hi]
 have ar:Hid (IM C I o n z X q w1):=HC.out.later N
 have ap:Hid (IS z S w X w1):=(H0.out.trans (IS.below N))
 have ai:IS z X wc X w1:=IS.below N
 clear N
 have aN:Hid (Fr 102 4 w1 b0 r l.length (l.flatMap (fun e=>epL (zA e))) X):=HF.out.step HC.out (by decide) ai
 clear ai
 go_wp2_with fail
 refine (zea C I o n z X q zU _ ar.out).mono ?_
 cases ao:zd C 1 zU q with
 |error p=>
  rintro e w2 ⟨rfl,N⟩
  have HB:Hid (Below n w w2):=(HH.out.back ap.out).trans N
  have V:Hid (za5 C l q= .error p):=bdE HY.out ao
  unfold Pan
  go_wp2
  refine⟨rfl,?_⟩
  rw[V.out]
  exact⟨rfl,HB.out⟩
 |ok a2=>
  rintro e w2 ⟨rfl,S2,m,s⟩
  have aC:Hid (Fr 102 4 w2 b0 r l.length (l.flatMap (fun e=>epL (zA e))) S2):=aN.out.step ar.out (by decide) s
  have aj:=zc m
  have ax:Hid (IS z S w S2 w2):=ap.out.trans s
  clear m s
  have ag:=zc (bdO HY.out ao)
  go_wp2_with fail
  refine (zf3 C I o n z S2 a2 _ aj.out hC).mono ?_
  cases aq:zH C a2 with
  |error p=>
   rintro e w3 ⟨rfl,N⟩
   have HB:Hid (Below n w w3):=(HH.out.back ax.out).trans N
   have V:Hid (za5 C l q= .error p):=bdE ag.out aq
   unfold Pan
   go_wp2
   refine⟨rfl,?_⟩
   rw[V.out]
   exact⟨rfl,HB.out⟩
  |ok A=>
   rintro e w3 ⟨rfl,M,m,s⟩
   have aa:Hid (Fr 102 4 w3 b0 r l.length (l.flatMap (fun e=>epL (zA e))) M):=aC.out.step aj.out (by decide) s
   have ae:=zc m
   have aJ:Hid (IS z S w M w3):=ax.out.trans s
   clear m s
   have av:=zc (bdO ag.out aq)
   have ac:Hid (Fr 102 4 w3 b0 r l.length ((mxE A.2 l 0).flatMap epL) M):=by show Fr _ _ _ _ _ _ _ _;rw[zpS,zjL];exact aa.out
   have af:g≠z:=aa.out.ngp ae.out (by decide) (by rw[Rw.blk,HG.out];rfl)
   have an:g≠I:=aa.out.ngt ae.out (by decide) (by rw[Rw.blk,HG.out];rfl)
   have U:Hid (¬M.has g):=aa.out.2 g (by rw[Rw.blk,HG.out];rfl)
   have al:=zc af
   have au:=zc an
   clear af an
   go_wp2
   go_loopg [22] l.length (fun k i wr=>∃(j:Nat),i= .int .i64 j∧j+k=l.length∧IM C I o n z M A.1 wr∧IS z S w M wr∧Fr 102 4 wr b0 r l.length ((mxE A.2 l j).flatMap epL) M)
   case atStart=>exact⟨0,rfl,by omega,ae.out,aJ.out,ac.out⟩
   case round=>
    obtain⟨j,rfl,hj,m',s',f'⟩:=hrel
    have E:Hid (IM C I o n z M A.1 wr):=m'
    have H:Hid (IS z S w M wr):=s'
    have J:Hid (Fr 102 4 wr b0 r l.length ((mxE A.2 l j).flatMap epL) M):=f'
    clear m' s' f'
    by_cases ab:j<l.length
    ·have Q:(j:Int)<(l.length:Int):=by omega
     obtain⟨x,hx⟩:=zfd ab
     have V:=zc hx
     have K:=J.out.1
     have ho:OwnR wr b0 102 4 r (mxE A.2 l j).length ((mxE A.2 l j).flatMap epL):=by rw[zjI];exact K
     obtain⟨g',O,D⟩:=OwnR.elem (f:=epL) (m:=4) (fun _=>rfl) ho (zjJ hx)
     have eg:g'=g:=by have:=O.symm.trans HG.out;simpa using this
     subst eg
     have k0:=D 0 (by omega)
     have k3:=D 3 (by omega)
     simp only[epL,zA,Nat.add_zero,List.getElem?_cons_zero,List.getElem?_cons_succ] at k0 k3
     unfold OwnR at K
     rw[HG.out] at K
     have aQ:=K.frozenAt
     have aE:=zc K
     clear D O hx K ho
     obtain⟨Y,L⟩: ∃Y,Y=j+1:=⟨_,rfl⟩
     have ej:(j:Int)+1=(Y:Int):=by omega
     have HJ:=zc L
     clear L
     go_wp2
     go_roundg (gk-1)
     case rel=>
      refine⟨Y,rfl,by have:=HJ.out;omega,(E.out.set al.out au.out U.out _ _).set al.out au.out U.out _ _,(H.out.new aA.out _ _).new aA.out _ _,?_,J.out.2⟩
      have aP:=(aE.out.stored (j*4+0) (.int .i64 2)).1
      have ak:=(aP.stored (j*4+3) (.string A.2)).1
      rw[zjH epL 4 (fun _=>rfl) _ j 0 (zA x) ⟨2,x.name,x.loc,sNone⟩ (.int .i64 2) (zjJ V.out) (by omega) rfl,zjH epL 4 (fun _=>rfl) ((mxE A.2 l j).set j ⟨2,x.name,x.loc,sNone⟩) j 3 ⟨2,x.name,x.loc,sNone⟩ (zai A.2 x) (.string A.2) (List.getElem?_set_self (by rw[zjI];exact ab)) (by omega) rfl,List.set_set,zpR V.out,←HJ.out] at ak
      unfold OwnR
      rw[HG.out]
      exact ak
     case measure=>omega
    ·have Q: ¬(j:Int)<(l.length:Int):=by omega
     have aO:j=l.length:=by omega
     subst aO
     have aH:Hid (Fr 102 4 wr b0 r l.length (l.flatMap fun e=>epL (zai A.2 e)) M):=by show Fr _ _ _ _ _ _ _ _;rw[←zjL,←zpT A.2 l];exact J.out
     go_wp2_with fail
     refine (zbX C I o n z M A.1 59 _ E.out).mono ?_
     cases ad:zd C 4 cSemi A.1 with
     |error p=>
      rintro e w4 ⟨rfl,N⟩
      have HB:Hid (Below n w w4):=(HH.out.back H.out).trans N
      have V:Hid (za5 C l q= .error p):=bdE av.out ad
      unfold Pan
      go_wp2
      refine⟨rfl,?_⟩
      rw[V.out]
      exact⟨rfl,HB.out⟩
     |ok a4=>
      rintro e w4 ⟨rfl,S4,m,s⟩
      have ac:Hid (Fr 102 4 w4 b0 r l.length (l.flatMap fun e=>epL (zai A.2 e)) S4):=aH.out.step E.out (by decide) s
      have aF:=zc m
      have aL:Hid (IS z S w S4 w4):=H.out.trans s
      clear m s
      have aG:=zc (bdO av.out ad)
      have am:0<a4.pos:=by rw[(zb4 ad).1];exact Nat.succ_pos _
      go_wp2
      go_loopg [39] l.length (fun k i wr=>∃(j:Nat) (S':Sv) (Z:PS),i= .int .i64 j∧j+k=l.length∧za5 C l q=zP (fun e=>zo C (zai A.2 e)) (l.drop j) (.ok Z)∧0<Z.pos∧IM C I o n z S' Z wr∧IS z S w S' wr∧Fr 102 4 wr b0 r l.length (l.flatMap fun e=>epL (zai A.2 e)) S')
      case atStart=>exact⟨0,S4,a4,rfl,by omega,aG.out,am,aF.out,aL.out,ac.out⟩
      case round=>
       obtain⟨j,S',Z,rfl,hj,hy,ah,m',s',f'⟩:=hrel
       have aw:=zc hy
       have E:Hid (IM C I o n z S' Z wr):=m'
       have H:Hid (IS z S w S' wr):=s'
       have J:Hid (Fr 102 4 wr b0 r l.length (l.flatMap fun e=>epL (zai A.2 e)) S'):=f'
       clear hy m' s' f'
       by_cases ab:j<l.length
       ·have Q:(j:Int)<(l.length:Int):=by omega
        obtain⟨x,hx⟩:=zfd ab
        obtain⟨g',O,D⟩:=OwnR.elem (f:=fun e=>epL (zai A.2 e)) (m:=4) (fun _=>rfl) J.out.1 hx
        have eg:g'=g:=by have:=O.symm.trans HG.out;simpa using this
        subst eg
        have k0:=D 0 (by omega)
        have k1:=D 1 (by omega)
        have k2:=D 2 (by omega)
        have k3:=D 3 (by omega)
        simp only[epL,zai,Nat.add_zero,List.getElem?_cons_zero,List.getElem?_cons_succ] at k0 k1 k2 k3
        have HZ:=zc (aw.out.trans (zhg (fun e=>zo C (zai A.2 e)) hx Z))
        clear D O hx
        obtain⟨Y,L⟩: ∃Y,Y=j+1:=⟨_,rfl⟩
        have ej:(j:Int)+1=(Y:Int):=by omega
        rw[←L] at HZ
        have af:=E.out.lt
        have HJ:=zc L
        clear L
        go_wp2_with fail
        refine (zeJ C I o n z S' Z (zai A.2 x) _ (E.out.alloc _) ah).mono ?_
        cases hn:zo C (zai A.2 x) Z with
        |error p=>
         rintro e wy ⟨rfl,N⟩
         have HB:Hid (Below n w wy):=(HH.out.back (H.out.alloc _)).trans N
         have V:Hid (za5 C l q= .error p):=by show _=_;rw[HZ.out,hn];exact zfL _ _ _
         unfold Pan
         go_wp2
         refine⟨rfl,?_⟩
         rw[V.out]
         exact⟨rfl,HB.out⟩
        |ok ay=>
         rintro e wy ⟨rfl,Sy,m,s⟩
         have aK:=zc m
         have aB:Hid (IS z S w Sy wy):=(H.out.alloc _).trans s
         have aD:Hid (Fr 102 4 wy b0 r l.length (l.flatMap fun e=>epL (zai A.2 e)) Sy):=(J.out.later ((Below.refl _ _).alloc (Nat.le_refl _) _)).step (E.out.alloc _) (by decide) s
         have aI:Hid (za5 C l q=zP (fun e=>zo C (zai A.2 e)) (l.drop Y) (.ok ay)):=by show _=_;rw[HZ.out,hn]
         have aM:Hid (0<ay.pos):=by show 0<ay.pos;rw[zjF hn];exact ah
         clear m s
         go_wp2
         go_roundg (gk-1)
         case rel=>exact⟨Y,Sy,ay,rfl,by have:=HJ.out;omega,aI.out,aM.out,aK.out,aB.out,aD.out⟩
         case measure=>omega
       ·have Q: ¬(j:Int)<(l.length:Int):=by omega
        have HZ:Hid (za5 C l q= .ok Z):=by show _=_;rw[aw.out,List.drop_eq_nil_of_le (by omega)];rfl
        go_wp2
        go_end0
        rw[HZ.out]
        exact⟨rfl,S',E.out,H.out⟩
theorem zqa (C:Cx) (z n j o b0:Nat) (r:Rw) (S A:Sv) (H q:PS) (l:List Ep) (w wc:World) (J:IM C z n j o S H w) (h:IM C z n j o A q wc) (L:IS o S w A wc) (U:zbf C) (M:l.length≤4000) (O:l.length≠0) (E:Fr 102 4 wc b0 r l.length (l.flatMap (fun e=>epL (zA e))) A) (I:w.heap.size≤b0):
  Calls Tryz.prog 176 #[.pointer (some ⟨o,0,none⟩),.slice r.a l.length r.cap] wc (zQ C z n j o (za5 C l q) id (fun _=>.tuple #[]) S w):=by
 rcases E.1.nil_or with ⟨_,_,e⟩|⟨g,D⟩
 ·exact absurd e O
 ·have K:w.heap.size≤g:=Nat.le_trans I (E.1.typed (show r.blk=some g by rw[Rw.blk,D];rfl)).1
  rw[D]
  cases N:isT C q.pos 1 zU with
  |true=>exact zpZ C z n j o b0 g r S A H q l w wc J h L U M E D K N
  |false=>
   cases Q:za8 l with
   |true=>exact zpY C z n j o b0 g r S A H q l w wc J h L M E D N Q
   |false=>exact zpX C z n j o b0 g r S A H q l w wc J h L M E D N Q
theorem zqb {C:Cx} {k:Int} {n:ByteArray} {q b:PS} (h:zV C k n q= .ok b):b={q with st:=q.st++[⟨k,n,(q.ex.length:Int)-1⟩]}:=by
 unfold zV at h
 split at h
 ·cases h
 ·cases h
  rfl
theorem zhi {C:Cx} {k:Int} {n s:ByteArray} {q b:PS} (h:stmtI C k n s q= .ok b) (H:0<s.size):(∃l e,b.st=l++[⟨k,n,e⟩])∧0<b.pos:=by
 obtain⟨a,E,D⟩:=zf h
 obtain⟨c,j,o⟩:=zf D
 have A:=zih _ j
 have z:=zqb o
 subst z
 refine⟨⟨_,_,rfl⟩,?_⟩
 rw[A]
 show 0<a.pos+s.size
 omega
theorem zqc {C:Cx} {k:Int} {q b:PS} (h:letJ C k q= .ok b):(∃l e,b.st=l++[⟨k,(ze C q.pos).text,e⟩])∧0<b.pos:=by
 obtain⟨a,n,o⟩:=zf h
 obtain⟨c,z,j⟩:=zf o
 have:=zhi j (by decide)
 rw[(zbd n).1] at this
 exact this
theorem zqd {C:Cx} {q b:PS} (h:fnI C q= .ok b):(∃l e,b.st=l++[⟨2,(ze C q.pos).text,e⟩])∧0<b.pos:=by
 obtain⟨a,o,z⟩:=zf h
 obtain⟨c,A,j⟩:=zf z
 obtain⟨d,D,n⟩:=zf j
 have:=zhi n (by decide)
 rw[(zbd o).1] at this
 exact this
theorem zjM (C:Cx) (A o j z:Nat) (S:Sv) (q:PS) (l:List Sm) (k e:Int) (n:ByteArray) (w:World) (h:IM C A o j z S q w) (E:q.st=l++[⟨k,n,e⟩]) (D:n.size≤281474976710656) (H:0<q.pos):
  Calls Tryz.prog 179 #[.pointer (some ⟨z,0,none⟩)] w (zQ C A o j z (zo C ⟨1,n,n,sNone⟩ q) id (fun _=>.tuple #[]) S w):=zmu C A o j z S q l ⟨k,n,e⟩ w h E D H
def zaq (C:Cx) (q:PS):PR:=
 if isT C q.pos 4 zJ then bd (zax C true (adv q) []) fun a=>za5 C a.2 a.1
 else if isT C q.pos 4 zw then bd (zd C 1 zU (adv q)) fun a=>bd (zH C a) fun b=>bd (zd C 4 cSemi b.1) fun c=>zo C ⟨3,sNone,sNone,b.2⟩ c
 else if isT C q.pos 1 sDefault then bd (stmtI C 1 zbN cSemi (adv q)) fun a=>zo C ⟨1,sDefault,zbN,sNone⟩ a
 else if isT C q.pos 1 zC then bd (letJ C 1 (adv q)) fun a=>zo C ⟨1,(ze C (q.pos+1)).text,(ze C (q.pos+1)).text,sNone⟩ a
 else if isT C q.pos 1 zT then bd (fnI C (adv q)) fun a=>zo C ⟨1,(ze C (q.pos+1)).text,(ze C (q.pos+1)).text,sNone⟩ a
 else .error (zr C q.pos)
theorem zqe (C:Cx) (E n j o:Nat) (S:Sv) (q:PS) (w:World) (h:IM C E n j o S q w) (hC:zbf C) (Z:isT C q.pos 4 zJ=true):
  Calls Tryz.prog 150 #[.pointer (some ⟨o,0,none⟩)] w (zQ C E n j o (zaq C q) id (fun _=>.tuple #[]) S w):=by
 have V:=zc h
 have HY:Hid (zaq C q=bd (zax C true (adv q) []) fun a=>za5 C a.2 a.1):=by show _=_;rw[zaq,Z];rfl
 clear h
 go_enter Tryz.func150,Tryz.ntmps150
 go_wp2_with fail
 refine (zK C E n j o S q 4 zJ _ V.out (by decide)).mono ?_
 rintro e w1 ⟨rfl,m,s⟩
 rw[Z] at m ⊢
 have Y:=zc m
 have z:=zc s
 clear m s
 go_wp2_with fail
 refine (zpQ C E n j o S (adv q) _ Y.out).mono ?_
 cases H:zax C true (adv q) [] with
 |error p=>
  rintro e O ⟨rfl,U⟩
  have N:Hid (Below j w O):=(V.out.back z.out).trans U
  have D:Hid (zaq C q= .error p):=bdE HY.out H
  unfold Pan
  go_wp2
  refine⟨rfl,?_⟩
  rw[D.out]
  exact⟨rfl,N.out⟩
 |ok J=>
  rintro e O ⟨r,S3,rfl,m,s,f,l0,l1⟩
  have M:=zc m
  have L:Hid (IS o S w S3 O):=z.out.trans s
  have K:=zc f
  clear m s f
  have A:=zc (bdO HY.out H)
  go_wp2_with fail
  refine (zqa C E n j o _ r S S3 q J.1 J.2 w _ V.out M.out L.out hC l1 (by omega) K.out z.out.size).mono ?_
  cases I:za5 C J.2 J.1 with
  |error p=>
   rintro e w4 ⟨rfl,U⟩
   have N:=zc U
   have D:=zc (A.out.trans I)
   unfold Pan
   go_wp2
   refine⟨rfl,?_⟩
   rw[D.out]
   exact⟨rfl,N.out⟩
  |ok a4=>
   rintro e w4 ⟨rfl,S4,m,s⟩
   have Q:=zc m
   have X:=zc s
   clear m s
   have D:=zc (A.out.trans I)
   go_wp2
   go_end0
   rw[D.out]
   exact⟨rfl,S4,Q.out,X.out⟩
theorem zqf (C:Cx) (z n j o:Nat) (S:Sv) (q:PS) (w:World) (h:IM C z n j o S q w) (hC:zbf C) (h1:isT C q.pos 4 zJ=false) (h2:isT C q.pos 4 zw=true):
  Calls Tryz.prog 150 #[.pointer (some ⟨o,0,none⟩)] w (zQ C z n j o (zaq C q) id (fun _=>.tuple #[]) S w):=by
 have U:=zc h
 have HY:Hid (zaq C q=bd (zd C 1 zU (adv q)) fun a=>bd (zH C a) fun b=>bd (zd C 4 cSemi b.1) fun c=>zo C ⟨3,sNone,sNone,b.2⟩ c):=by show _=_;rw[zaq,h1,h2];rfl
 clear h
 go_enter Tryz.func150,Tryz.ntmps150
 go_wp2_with fail
 refine (zK C z n j o S q 4 zJ _ U.out (by decide)).mono ?_
 rintro e w1 ⟨rfl,m,s⟩
 rw[h1] at m ⊢
 have ai:=zc m
 have af:=zc s
 clear m s
 go_wp2_with fail
 refine (zK C z n j o S q 4 zw _ ai.out (by decide)).mono ?_
 rintro e w2 ⟨rfl,m,s⟩
 rw[h2] at m ⊢
 have ah:=zc m
 have O:Hid (IS o S w S w2):=af.out.trans s
 clear m s
 go_wp2_with fail
 refine (zea C z n j o S (adv q) zU _ ah.out).mono ?_
 cases Q:zd C 1 zU (adv q) with
 |error p=>
  rintro e w3 ⟨rfl,H⟩
  have D:Hid (Below j w w3):=(U.out.back O.out).trans H
  have E:Hid (zaq C q= .error p):=bdE HY.out Q
  unfold Pan
  go_wp2
  refine⟨rfl,?_⟩
  rw[E.out]
  exact⟨rfl,D.out⟩
 |ok a3=>
  rintro e w3 ⟨rfl,S3,m,s⟩
  have ae:=zc m
  have K:Hid (IS o S w S3 w3):=O.out.trans s
  clear m s
  have J:=zc (bdO HY.out Q)
  go_wp2_with fail
  refine (zf3 C z n j o S3 a3 _ ae.out hC).mono ?_
  cases X:zH C a3 with
  |error p=>
   rintro e w4 ⟨rfl,H⟩
   have D:Hid (Below j w w4):=(U.out.back K.out).trans H
   have E:Hid (zaq C q= .error p):=bdE J.out X
   unfold Pan
   go_wp2
   refine⟨rfl,?_⟩
   rw[E.out]
   exact⟨rfl,D.out⟩
  |ok Z=>
   rintro e w4 ⟨rfl,S4,m,s⟩
   have ag:=zc m
   have Y:Hid (IS o S w S4 w4):=K.out.trans s
   clear m s
   have N:=zc (bdO J.out X)
   go_wp2_with fail
   refine (zbX C z n j o S4 Z.1 59 _ ag.out).mono ?_
   cases A:zd C 4 cSemi Z.1 with
   |error p=>
    rintro e w5 ⟨rfl,H⟩
    have D:Hid (Below j w w5):=(U.out.back Y.out).trans H
    have E:Hid (zaq C q= .error p):=bdE N.out A
    unfold Pan
    go_wp2
    refine⟨rfl,?_⟩
    rw[E.out]
    exact⟨rfl,D.out⟩
   |ok a5=>
    rintro e w5 ⟨rfl,S5,m,s⟩
    have ac:=zc m
    have M:Hid (IS o S w S5 w5):=Y.out.trans s
    clear m s
    have V:=zc (bdO N.out A)
    have I:0<a5.pos:=by rw[(zb4 A).1];exact Nat.succ_pos _
    go_wp2_with fail
    refine (zeJ C z n j o S5 a5 ⟨3,sNone,sNone,Z.2⟩ _ ac.out I).mono ?_
    cases L:zo C ⟨3,sNone,sNone,Z.2⟩ a5 with
    |error p=>
     rintro e w6 ⟨rfl,H⟩
     have D:Hid (Below j w w6):=(U.out.back M.out).trans H
     have E:Hid (zaq C q= .error p):=V.out.trans L
     unfold Pan
     go_wp2
     refine⟨rfl,?_⟩
     rw[E.out]
     exact⟨rfl,D.out⟩
    |ok a6=>
     rintro e w6 ⟨rfl,S6,m,s⟩
     have ab:=zc m
     have ad:Hid (IS o S w S6 w6):=M.out.trans s
     clear m s
     have aa:=zc (V.out.trans L)
     go_wp2
     go_end0
     rw[aa.out]
     exact⟨rfl,S6,ab.out,ad.out⟩
theorem zqg (C:Cx) (z n j o:Nat) (S:Sv) (q:PS) (w:World) (h:IM C z n j o S q w) (h1:isT C q.pos 4 zJ=false) (h2:isT C q.pos 4 zw=false) (h3:isT C q.pos 1 sDefault=true):
  Calls Tryz.prog 150 #[.pointer (some ⟨o,0,none⟩)] w (zQ C z n j o (zaq C q) id (fun _=>.tuple #[]) S w):=by
 have HH:=zc h
 have HY:Hid (zaq C q=bd (stmtI C 1 zbN cSemi (adv q)) fun a=>zo C ⟨1,sDefault,zbN,sNone⟩ a):=by show _=_;rw[zaq,h1,h2,h3];rfl
 clear h
 go_enter Tryz.func150,Tryz.ntmps150
 go_wp2_with fail
 refine (zK C z n j o S q 4 zJ _ HH.out (by decide)).mono ?_
 rintro e w1 ⟨rfl,m,s⟩
 rw[h1] at m ⊢
 have ab:=zc m
 have U:=zc s
 clear m s
 go_wp2_with fail
 refine (zK C z n j o S q 4 zw _ ab.out (by decide)).mono ?_
 rintro e w2 ⟨rfl,m,s⟩
 rw[h2] at m ⊢
 have Y:=zc m
 have Z:Hid (IS o S w S w2):=U.out.trans s
 clear m s
 go_wp2_with fail
 refine (zK C z n j o S q 1 sDefault _ Y.out (by decide)).mono ?_
 rintro e w3 ⟨rfl,m,s⟩
 rw[h3] at m ⊢
 have N:=zc m
 have E:Hid (IS o S w S w3):=Z.out.trans s
 clear m s
 go_wp2_with fail
 refine (zd8 C z n j o S (adv q) 1 zbN cSemi _ N.out (by decide) (by decide)).mono ?_
 cases A:stmtI C 1 zbN cSemi (adv q) with
 |error p=>
  rintro e M ⟨rfl,hb⟩
  have O:Hid (Below j w M):=(HH.out.back E.out).trans hb
  have X:Hid (zaq C q= .error p):=bdE HY.out A
  unfold Pan
  go_wp2
  refine⟨rfl,?_⟩
  rw[X.out]
  exact⟨rfl,O.out⟩
 |ok a4=>
  rintro e M ⟨rfl,S4,m,s⟩
  have V:=zc m
  have J:Hid (IS o S w S4 M):=E.out.trans s
  clear m s
  have I:=zc (bdO HY.out A)
  have D:=(zhi A (by decide)).2
  go_wp2_with fail
  refine (zeJ C z n j o S4 a4 ⟨1,sDefault,zbN,sNone⟩ _ V.out D).mono ?_
  cases H:zo C ⟨1,sDefault,zbN,sNone⟩ a4 with
  |error p=>
   rintro e K ⟨rfl,hb⟩
   have O:Hid (Below j w K):=(HH.out.back J.out).trans hb
   have X:Hid (zaq C q= .error p):=I.out.trans H
   unfold Pan
   go_wp2
   refine⟨rfl,?_⟩
   rw[X.out]
   exact⟨rfl,O.out⟩
  |ok a5=>
   rintro e K ⟨rfl,S5,m,s⟩
   have L:=zc m
   have Q:Hid (IS o S w S5 K):=J.out.trans s
   clear m s
   have aa:=zc (I.out.trans H)
   go_wp2
   go_end0
   rw[aa.out]
   exact⟨rfl,S5,L.out,Q.out⟩
theorem zqh (C:Cx) (z n j o:Nat) (S:Sv) (q:PS) (w:World) (h:IM C z n j o S q w) (hC:zbf C) (h1:isT C q.pos 4 zJ=false) (h2:isT C q.pos 4 zw=false) (h3:isT C q.pos 1 sDefault=false) (h4:isT C q.pos 1 zC=true):
  Calls Tryz.prog 150 #[.pointer (some ⟨o,0,none⟩)] w (zQ C z n j o (zaq C q) id (fun _=>.tuple #[]) S w):=by
 have HH:=zc h
 have HY:Hid (zaq C q=bd (letJ C 1 (adv q)) fun a=>zo C ⟨1,(ze C (q.pos+1)).text,(ze C (q.pos+1)).text,sNone⟩ a):=by show _=_;rw[zaq,h1,h2,h3,h4];rfl
 clear h
 go_enter Tryz.func150,Tryz.ntmps150
 go_wp2_with fail
 refine (zK C z n j o S q 4 zJ _ HH.out (by decide)).mono ?_
 rintro e w1 ⟨rfl,m,s⟩
 rw[h1] at m ⊢
 have ad:=zc m
 have Z:=zc s
 clear m s
 go_wp2_with fail
 refine (zK C z n j o S q 4 zw _ ad.out (by decide)).mono ?_
 rintro e w2 ⟨rfl,m,s⟩
 rw[h2] at m ⊢
 have ab:=zc m
 have ac:Hid (IS o S w S w2):=Z.out.trans s
 clear m s
 go_wp2_with fail
 refine (zK C z n j o S q 1 sDefault _ ab.out (by decide)).mono ?_
 rintro e w3 ⟨rfl,m,s⟩
 rw[h3] at m ⊢
 have V:=zc m
 have N:Hid (IS o S w S w3):=ac.out.trans s
 clear m s
 go_wp2_with fail
 refine (zK C z n j o S q 1 zC _ V.out (by decide)).mono ?_
 rintro e w4 ⟨rfl,m,s⟩
 rw[h4] at m ⊢
 have aa:=zc m
 have K:Hid (IS o S w S w4):=N.out.trans s
 clear m s
 go_wp2_with fail
 refine (zg7 C z n j o S (adv q) _ aa.out).mono ?_
 cases A:letJ C 1 (adv q) with
 |error p=>
  rintro e O ⟨rfl,hb⟩
  have Y:Hid (Below j w O):=(HH.out.back K.out).trans hb
  have HX:Hid (zaq C q= .error p):=bdE HY.out A
  unfold Pan
  go_wp2
  refine⟨rfl,?_⟩
  rw[HX.out]
  exact⟨rfl,Y.out⟩
 |ok a5=>
  rintro e O ⟨rfl,S5,m,s⟩
  have Q:=zc m
  have H:Hid (IS o S w S5 O):=K.out.trans s
  clear m s
  have J:=zc (bdO HY.out A)
  obtain⟨⟨l,e,I⟩,D⟩:=zqc A
  have X:=zc I
  clear I
  go_wp2_with fail
  refine (zjM C z n j o S5 a5 l _ _ (ze C (q.pos+1)).text _ Q.out X.out (hC _) D).mono ?_
  cases E:zo C ⟨1,(ze C (q.pos+1)).text,(ze C (q.pos+1)).text,sNone⟩ a5 with
  |error p=>
   rintro e w6 ⟨rfl,hb⟩
   have Y:Hid (Below j w w6):=(HH.out.back H.out).trans hb
   have HX:Hid (zaq C q= .error p):=J.out.trans E
   unfold Pan
   go_wp2
   refine⟨rfl,?_⟩
   rw[HX.out]
   exact⟨rfl,Y.out⟩
  |ok a6=>
   rintro e w6 ⟨rfl,S6,m,s⟩
   have M:=zc m
   have U:Hid (IS o S w S6 w6):=H.out.trans s
   clear m s
   have L:=zc (J.out.trans E)
   go_wp2
   go_end0
   rw[L.out]
   exact⟨rfl,S6,M.out,U.out⟩
theorem zqi (C:Cx) (z n j o:Nat) (S:Sv) (q:PS) (w:World) (h:IM C z n j o S q w) (hC:zbf C) (h1:isT C q.pos 4 zJ=false) (h2:isT C q.pos 4 zw=false) (h3:isT C q.pos 1 sDefault=false) (h4:isT C q.pos 1 zC=false) (h5:isT C q.pos 1 zT=true):
  Calls Tryz.prog 150 #[.pointer (some ⟨o,0,none⟩)] w (zQ C z n j o (zaq C q) id (fun _=>.tuple #[]) S w):=by
 have HH:=zc h
 have HY:Hid (zaq C q=bd (fnI C (adv q)) fun a=>zo C ⟨1,(ze C (q.pos+1)).text,(ze C (q.pos+1)).text,sNone⟩ a):=by show _=_;rw[zaq,h1,h2,h3,h4,h5];rfl
 clear h
 go_enter Tryz.func150,Tryz.ntmps150
 go_wp2_with fail
 refine (zK C z n j o S q 4 zJ _ HH.out (by decide)).mono ?_
 rintro e w1 ⟨rfl,m,s⟩
 rw[h1] at m ⊢
 have af:=zc m
 have V:=zc s
 clear m s
 go_wp2_with fail
 refine (zK C z n j o S q 4 zw _ af.out (by decide)).mono ?_
 rintro e w2 ⟨rfl,m,s⟩
 rw[h2] at m ⊢
 have aa:=zc m
 have ab:Hid (IS o S w S w2):=V.out.trans s
 clear m s
 go_wp2_with fail
 refine (zK C z n j o S q 1 sDefault _ aa.out (by decide)).mono ?_
 rintro e w3 ⟨rfl,m,s⟩
 rw[h3] at m ⊢
 have O:=zc m
 have M:Hid (IS o S w S w3):=ab.out.trans s
 clear m s
 go_wp2_with fail
 refine (zK C z n j o S q 1 zC _ O.out (by decide)).mono ?_
 rintro e w4 ⟨rfl,m,s⟩
 rw[h4] at m ⊢
 have X:=zc m
 have ae:Hid (IS o S w S w4):=M.out.trans s
 clear m s
 go_wp2_with fail
 refine (zK C z n j o S q 1 zT _ X.out (by decide)).mono ?_
 rintro e w5 ⟨rfl,m,s⟩
 rw[h5] at m ⊢
 have N:=zc m
 have J:Hid (IS o S w S w5):=ae.out.trans s
 clear m s
 go_wp2_with fail
 refine (zg8 C z n j o S (adv q) _ N.out).mono ?_
 cases A:fnI C (adv q) with
 |error p=>
  rintro e w6 ⟨rfl,hb⟩
  have U:Hid (Below j w w6):=(HH.out.back J.out).trans hb
  have Y:Hid (zaq C q= .error p):=bdE HY.out A
  unfold Pan
  go_wp2
  refine⟨rfl,?_⟩
  rw[Y.out]
  exact⟨rfl,U.out⟩
 |ok a6=>
  rintro e w6 ⟨rfl,S6,m,s⟩
  have L:=zc m
  have H:Hid (IS o S w S6 w6):=J.out.trans s
  clear m s
  have E:=zc (bdO HY.out A)
  obtain⟨⟨l,e,K⟩,D⟩:=zqd A
  have Q:=zc K
  clear K
  go_wp2_with fail
  refine (zjM C z n j o S6 a6 l _ _ (ze C (q.pos+1)).text _ L.out Q.out (hC _) D).mono ?_
  cases I:zo C ⟨1,(ze C (q.pos+1)).text,(ze C (q.pos+1)).text,sNone⟩ a6 with
  |error p=>
   rintro e Z ⟨rfl,hb⟩
   have U:Hid (Below j w Z):=(HH.out.back H.out).trans hb
   have Y:Hid (zaq C q= .error p):=E.out.trans I
   unfold Pan
   go_wp2
   refine⟨rfl,?_⟩
   rw[Y.out]
   exact⟨rfl,U.out⟩
  |ok a7=>
   rintro e Z ⟨rfl,S7,m,s⟩
   have ad:=zc m
   have ag:Hid (IS o S w S7 Z):=H.out.trans s
   clear m s
   have ac:=zc (E.out.trans I)
   go_wp2
   go_end0
   rw[ac.out]
   exact⟨rfl,S7,ad.out,ag.out⟩
theorem zqj (C:Cx) (z n j o:Nat) (S:Sv) (q:PS) (w:World) (h:IM C z n j o S q w) (O:isT C q.pos 4 zJ=false) (X:isT C q.pos 4 zw=false) (U:isT C q.pos 1 sDefault=false) (Q:isT C q.pos 1 zC=false) (Y:isT C q.pos 1 zT=false):
  Calls Tryz.prog 150 #[.pointer (some ⟨o,0,none⟩)] w (zQ C z n j o (zaq C q) id (fun _=>.tuple #[]) S w):=by
 have V:=zc h
 have HY:Hid (zaq C q= .error (zr C q.pos)):=by show _=_;rw[zaq,O,X,U,Q,Y];rfl
 clear h
 go_enter Tryz.func150,Tryz.ntmps150
 go_wp2_with fail
 refine (zK C z n j o S q 4 zJ _ V.out (by decide)).mono ?_
 rintro e w1 ⟨rfl,m,s⟩
 rw[O] at m ⊢
 have N:=zc m
 have I:=zc s
 clear m s
 go_wp2_with fail
 refine (zK C z n j o S q 4 zw _ N.out (by decide)).mono ?_
 rintro e w2 ⟨rfl,m,s⟩
 rw[X] at m ⊢
 have K:=zc m
 have L:Hid (IS o S w S w2):=I.out.trans s
 clear m s
 go_wp2_with fail
 refine (zK C z n j o S q 1 sDefault _ K.out (by decide)).mono ?_
 rintro e w3 ⟨rfl,m,s⟩
 rw[U] at m ⊢
 have E:=zc m
 have D:Hid (IS o S w S w3):=L.out.trans s
 clear m s
 go_wp2_with fail
 refine (zK C z n j o S q 1 zC _ E.out (by decide)).mono ?_
 rintro e w4 ⟨rfl,m,s⟩
 rw[Q] at m ⊢
 have J:=zc m
 have M:Hid (IS o S w S w4):=D.out.trans s
 clear m s
 go_wp2_with fail
 refine (zK C z n j o S q 1 zT _ J.out (by decide)).mono ?_
 rintro e Z ⟨rfl,m,s⟩
 rw[Y] at m ⊢
 have A:=zc m
 have H:Hid (IS o S w S Z):=M.out.trans s
 clear m s
 go_wp2_with fail
 refine (zdZ C z n j o S q _ A.out).mono ?_
 rintro e wz ⟨rfl,hb⟩
 have HB:Hid (Below j w wz):=(V.out.back H.out).trans (hb.mono A.out.mem.base)
 have HX:Hid (zaq C q= .error (zr C q.pos)):=HY.out
 unfold Pan
 go_wp2
 refine⟨rfl,?_⟩
 rw[HX.out]
 exact⟨rfl,HB.out⟩
theorem zqk (C:Cx) (z n j o:Nat) (S:Sv) (q:PS) (w:World) (h:IM C z n j o S q w) (H:zbf C):
  Calls Tryz.prog 150 #[.pointer (some ⟨o,0,none⟩)] w (zQ C z n j o (zaq C q) id (fun _=>.tuple #[]) S w):=by
 cases A:isT C q.pos 4 zJ with
 |true=>exact zqe C z n j o S q w h H A
 |false=>
  cases D:isT C q.pos 4 zw with
  |true=>exact zqf C z n j o S q w h H A D
  |false=>
   cases E:isT C q.pos 1 sDefault with
   |true=>exact zqg C z n j o S q w h A D E
   |false=>
    cases I:isT C q.pos 1 zC with
    |true=>exact zqh C z n j o S q w h H A D E I
    |false=>
     cases J:isT C q.pos 1 zT with
     |true=>exact zqi C z n j o S q w h H A D E I J
     |false=>exact zqj C z n j o S q w h A D E I J
end Go.Proofs.YticdggnnpjachaaGreat
