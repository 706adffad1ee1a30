/-
  What ContainsFunc over Exps answers,and a row of Exps whose elements are written: the walks.
  What exportNames of impl's parser answers: the walks. (It writes into the row that it is handed: so what is told is told from a world on in which that row was not yet there.)
  What exportItem of impl's parser answers: the walks.
-/
import Derived.Laws.OwnMore
import Derived.Test.YticdggnnpjachaaGreatCbImplParseU
namespace Go.Proofs.YticdggnnpjachaaGreat
set_option maxRecDepth 100000
set_option maxHeartbeats 3200000
open Go.RowKit Go.PlainAid Go.Sort
theorem zjH {α:Type} (f:α→List Value) (m:Nat) (n: ∀x,(f x).length=m): ∀(l:List α) (j i:Nat) (x y:α) (v:Value),l[j]? =some x→i<m→f y=(f x).set i v→(l.flatMap f).set (j*m+i) v=(l.set j y).flatMap f:=by
 intro l
 induction l with
 |nil=>intro j i x y v h;simp at h
 |cons z l A=>
  intro j i x y v h q o
  match j with
  |0=>
   simp only[List.getElem?_cons_zero,Option.some.injEq] at h
   subst h
   rw[List.flatMap_cons,Nat.zero_mul,Nat.zero_add,List.set_append_left _ _ (by rw[n];exact q),List.set_cons_zero,List.flatMap_cons,o]
  |j+1=>
   simp only[List.getElem?_cons_succ] at h
   rw[List.flatMap_cons,List.set_append_right _ _ (by rw[n,Nat.succ_mul];omega),n,List.set_cons_succ,List.flatMap_cons,←A j i x y v h q o]
   congr 2
   rw[Nat.succ_mul]
   omega
def mxE (s:ByteArray) (l:List Ep) (j:Nat):List Ep:=(l.take j).map (zai s)++(l.drop j).map zA
theorem zjI (s:ByteArray) (l:List Ep) (j:Nat):(mxE s l j).length=l.length:=by simp[mxE];omega
theorem zjJ {s:ByteArray} {l:List Ep} {j:Nat} {x:Ep} (h:l[j]? =some x):(mxE s l j)[j]? =some (zA x):=by
 obtain⟨o,rfl⟩:=List.getElem?_eq_some_iff.1 h
 have n:((l.take j).map (zai s)).length=j:=by simp;omega
 rw[mxE,List.getElem?_append_right (by omega),n,Nat.sub_self,List.drop_eq_getElem_cons o]
 rfl
theorem zpR {s:ByteArray} {l:List Ep} {j:Nat} {x:Ep} (h:l[j]? =some x):(mxE s l j).set j (zai s x)=mxE s l (j+1):=by
 obtain⟨n,rfl⟩:=List.getElem?_eq_some_iff.1 h
 have o:((l.take j).map (zai s)).length=j:=by simp;omega
 rw[mxE,List.set_append_right _ _ (by omega),o,Nat.sub_self,List.drop_eq_getElem_cons n,List.map_cons,List.set_cons_zero,mxE,List.take_succ_eq_append_getElem n,List.map_append,List.append_assoc]
 rfl
theorem zpS (s:ByteArray) (l:List Ep):mxE s l 0=l.map zA:=by simp[mxE]
theorem zpT (s:ByteArray) (l:List Ep):mxE s l l.length=l.map (zai s):=by simp[mxE]
theorem zpU (x:Ep) (w:World):
  Calls Tryz.prog 198 #[epV x] w fun e j=>e= .returned (.bool (x.loc.toList==[100,101,102,97,117,108,116]))∧Below w.heap.size w j:=by
 unfold epV
 cases n:(x.loc.toList==[100,101,102,97,117,108,116]) with
 |true=>
  go_enter Tryz.func198,Tryz.ntmps198
  go_wp2
  go_ret
  exact⟨rfl,(Below.refl _ _).alloc (Nat.le_refl _) _⟩
 |false=>
  go_enter Tryz.func198,Tryz.ntmps198
  go_wp2
  go_ret
  exact⟨rfl,(Below.refl _ _).alloc (Nat.le_refl _) _⟩
theorem zpV {l:List Ep} {j:Nat} {x:Ep} (h:l[j]? =some x):za8 (l.drop j)=((x.loc.toList==[100,101,102,97,117,108,116])||za8 (l.drop (j+1))):=by
 obtain⟨n,rfl⟩:=List.getElem?_eq_some_iff.1 h
 rw[List.drop_eq_getElem_cons n]
 simp only[za8,List.any_cons]
theorem zpW (q g:Nat) (r:Rw) (l:List Ep) (w:World) (h:OwnR w q 102 4 r l.length (l.flatMap fun e=>epL (zA e))) (hl:l.length≤4000) (O:r.a=some ⟨g,0,none⟩):
  Calls Tryz.prog 205 #[.slice (some ⟨g,0,none⟩) l.length r.cap,.func (.func 198) #[] #[]] w fun e w'=>(∃v:Int,e= .returned (.int .i64 v)∧decide (0≤v)=za8 l)∧Below w.heap.size w w':=by
 have Q:=zc h
 have K:=zc O
 clear h O
 go_enter Tryz.func205,Tryz.ntmps205
 go_wp2
 go_loopg [8] (l.length+1) (fun k i wr=>∃j:Nat,i= .int .i64 j∧j+k=l.length+1∧za8 (l.drop j)=za8 l∧Below w.heap.size w wr)
 case atStart=>exact⟨0,rfl,by omega,by simp,Below.refl _ _⟩
 case round=>
  obtain⟨j,rfl,hj,X,Y⟩:=hrel
  have J:=zc X
  have H:=zc Y
  clear X Y
  by_cases N:j<l.length
  ·have z:(j:Int)<(l.length:Int):=by omega
   obtain⟨x,L⟩:=zfd N
   have M:=zc (Q.out.keep fun k g=>H.out.block k (Q.out.typed g).2.1)
   obtain⟨g',o,n⟩:=OwnR.elem (f:=fun e=>epL (zA e)) (m:=4) (fun _=>rfl) M.out L
   have eg:g'=g:=by have:=o.symm.trans K.out;simpa using this
   subst eg
   have k0:=n 0 (by omega)
   have k1:=n 1 (by omega)
   have k2:=n 2 (by omega)
   have k3:=n 3 (by omega)
   simp only[epL,zA,Nat.add_zero,List.getElem?_cons_zero,List.getElem?_cons_succ] at k0 k1 k2 k3
   have U:=zc (zpV L)
   clear n o L
   obtain⟨I,A⟩: ∃I,I=j+1:=⟨_,rfl⟩
   have ej:(j:Int)+1=(I:Int):=by omega
   have V:=zc A
   clear A
   go_wp2_with fail
   refine (zpU (zA x) _).mono ?_
   rintro e w1 ⟨rfl,D⟩
   have E:Hid (Below w.heap.size w w1):=H.out.trans (D.mono H.out.size)
   clear D
   rw[show (zA x).loc=x.loc from rfl]
   cases Z:(x.loc.toList==[100,101,102,97,117,108,116]) with
   |true=>
    go_wp2
    go_ret
    refine⟨⟨_,rfl,?_⟩,E.out⟩
    rw[←J.out,U.out,Z]
    simp
   |false=>
    go_wp2
    go_roundg (gk-1)
    case rel=>
     refine⟨I,rfl,by have:=V.out;omega,?_,E.out⟩
     rw[←J.out,U.out,Z,V.out]
     simp
    case measure=>omega
  ·have z: ¬(j:Int)<(l.length:Int):=by omega
   go_wp2
   go_ret
   refine⟨⟨_,rfl,?_⟩,H.out⟩
   rw[←J.out,List.drop_eq_nil_of_le (by omega)]
   rfl
theorem zjK (j g:Nat) (r:Rw) (l:List Ep) (w:World) (h:OwnR w j 102 4 r l.length (l.flatMap fun e=>epL (zA e))) (A:l.length≤4000) (o:r.a=some ⟨g,0,none⟩):
  Calls Tryz.prog 199 #[.slice (some ⟨g,0,none⟩) l.length r.cap,.func (.func 198) #[] #[]] w fun e H=>e= .returned (.bool (za8 l))∧Below w.heap.size w H:=by
 have E:=zc h
 have n:=zc o
 clear h o
 go_enter Tryz.func199,Tryz.ntmps199
 go_wp2_with fail
 refine (zpW j g r l _ E.out A n.out).mono ?_
 rintro e J ⟨⟨v,rfl,q⟩,z⟩
 have I:=zc q
 have D:=zc z
 clear q z
 go_wp2
 go_ret
 exact⟨zm I.out,D.out⟩
def za5 (C:Cx) (l:List Ep) (q:PS):PR:=
 if isT C q.pos 1 zU||za8 l then bd (zd C 1 zU q) fun a=>bd (zH C a) fun b=>bd (zd C 4 cSemi b.1) fun c=>zP (fun e=>zo C (zai b.2 e)) l (.ok c)
 else bd (zd C 4 cSemi q) fun c=>zP (fun e=>zo C (zA e)) l (.ok c)
theorem zjL (X:Ep→Ep) (l:List Ep):(l.map X).flatMap epL=l.flatMap fun e=>epL (X e):=by rw[List.flatMap_map]
theorem zpX (C:Cx) (H o n z b0 g:Nat) (r:Rw) (S A:Sv) (q0 q:PS) (l:List Ep) (w wc:World) (hh:IM C H o n z S q0 w) (h:IM C H o n z A q wc) (h0:IS z S w A wc) (hl:l.length≤4000) (hf:Fr 102 4 wc b0 r l.length (l.flatMap (fun e=>epL (zA e))) A) (hg:r.a=some ⟨g,0,none⟩) (hi:isT C q.pos 1 zU=false) (ha:za8 l=false):
  Calls Tryz.prog 176 #[.pointer (some ⟨z,0,none⟩),.slice (some ⟨g,0,none⟩) l.length r.cap] wc (zQ C H o n z (za5 C l q) id (fun _=>.tuple #[]) S w):=by
 have HH:=zc hh
 have HC:=zc h
 have H0:=zc h0
 have HF:=zc hf
 have HG:=zc hg
 have HY:Hid (za5 C l q=bd (zd C 4 cSemi q) fun c=>zP (fun e=>zo C (zA e)) l (.ok c)):=by show _=_;rw[za5,hi,ha];rfl
 clear hh h h0 hf hg
 go_enter Tryz.func176,Tryz.ntmps176
 go_wp2_with fail
 refine (zbO C H o n z A q 1 zU _ HC.out).mono ?_
 rintro e w1 ⟨rfl,D⟩
 rw[hi]
 have ai:Hid (IM C H o n z A q w1):=HC.out.later D
 have af:Hid (IS z S w A w1):=(H0.out.trans (IS.below D))
 have Q:IS z A wc A w1:=IS.below D
 clear D
 have V:Hid (Fr 102 4 w1 b0 r l.length (l.flatMap (fun e=>epL (zA e))) A):=HF.out.step HC.out (by decide) Q
 clear Q
 go_wp2_with fail
 refine (zjK b0 g r l _ V.out.1 hl HG.out).mono ?_
 rintro e w2 ⟨rfl,D⟩
 rw[ha]
 have al:Hid (Fr 102 4 w2 b0 r l.length (l.flatMap (fun e=>epL (zA e))) A):=V.out.later D
 have Y:Hid (IM C H o n z A q w2):=ai.out.later D
 have ab:Hid (IS z S w A w2):=(af.out.trans (IS.below D))
 clear D
 go_wp2_with fail
 refine (zbX C H o n z A q 59 _ Y.out).mono ?_
 cases L:zd C 4 cSemi q with
 |error p=>
  rintro e w3 ⟨rfl,D⟩
  have HB:Hid (Below n w w3):=(HH.out.back ab.out).trans D
  have HX:Hid (za5 C l q= .error p):=bdE HY.out L
  unfold Pan
  go_wp2
  refine⟨rfl,?_⟩
  rw[HX.out]
  exact⟨rfl,HB.out⟩
 |ok a3=>
  rintro e w3 ⟨rfl,S3,m,s⟩
  have ag:Hid (Fr 102 4 w3 b0 r l.length (l.flatMap (fun e=>epL (zA e))) S3):=al.out.step Y.out (by decide) s
  have aj:=zc m
  have ao:Hid (IS z S w S3 w3):=ab.out.trans s
  clear m s
  have am:=zc (bdO HY.out L)
  have aa:0<a3.pos:=by rw[(zb4 L).1];exact Nat.succ_pos _
  go_wp2
  go_loopg [39] l.length (fun k i wr=>∃(j:Nat) (I:Sv) (J:PS),i= .int .i64 j∧j+k=l.length∧za5 C l q=zP (fun e=>zo C (zA e)) (l.drop j) (.ok J)∧0<J.pos∧IM C H o n z I J wr∧IS z S w I wr∧Fr 102 4 wr b0 r l.length (l.flatMap fun e=>epL (zA e)) I)
  case atStart=>exact⟨0,S3,a3,rfl,by omega,am.out,aa,aj.out,ao.out,ag.out⟩
  case round=>
   obtain⟨j,I,J,rfl,hj,hy,ad,m',s',f'⟩:=hrel
   have ac:=zc hy
   have K:Hid (IM C H o n z I J wr):=m'
   have N:Hid (IS z S w I wr):=s'
   have Z:Hid (Fr 102 4 wr b0 r l.length (l.flatMap fun e=>epL (zA e)) I):=f'
   clear hy m' s' f'
   by_cases an:j<l.length
   ·have U:(j:Int)<(l.length:Int):=by omega
    obtain⟨x,hx⟩:=zfd an
    obtain⟨g',X,E⟩:=OwnR.elem (f:=fun e=>epL (zA e)) (m:=4) (fun _=>rfl) Z.out.1 hx
    have eg:g'=g:=by have:=X.symm.trans HG.out;simpa using this
    subst eg
    have k0:=E 0 (by omega)
    have k1:=E 1 (by omega)
    have k2:=E 2 (by omega)
    have k3:=E 3 (by omega)
    simp only[epL,zA,Nat.add_zero,List.getElem?_cons_zero,List.getElem?_cons_succ] at k0 k1 k2 k3
    have O:=zc (ac.out.trans (zhg (fun e=>zo C (zA e)) hx J))
    clear E X hx
    obtain⟨j1,M⟩: ∃j1,j1=j+1:=⟨_,rfl⟩
    have ej:(j:Int)+1=(j1:Int):=by omega
    rw[←M] at O
    have ar:=K.out.lt
    have HJ:=zc M
    clear M
    go_wp2_with fail
    refine (zeH C H o n z I J (zA x) _ (K.out.alloc _) ad).mono ?_
    cases hn:zo C (zA x) J with
    |error p=>
     rintro e wy ⟨rfl,D⟩
     have HB:Hid (Below n w wy):=(HH.out.back (N.out.alloc _)).trans D
     have HX:Hid (za5 C l q= .error p):=by show _=_;rw[O.out,hn];exact zfL _ _ _
     unfold Pan
     go_wp2
     refine⟨rfl,?_⟩
     rw[HX.out]
     exact⟨rfl,HB.out⟩
    |ok ay=>
     rintro e wy ⟨rfl,Sy,m,s⟩
     have ap:=zc m
     have ae:Hid (IS z S w Sy wy):=(N.out.alloc _).trans s
     have aq:Hid (Fr 102 4 wy b0 r l.length (l.flatMap fun e=>epL (zA e)) Sy):=(Z.out.later ((Below.refl _ _).alloc (Nat.le_refl _) _)).step (K.out.alloc _) (by decide) s
     have ah:Hid (za5 C l q=zP (fun e=>zo C (zA e)) (l.drop j1) (.ok ay)):=by show _=_;rw[O.out,hn]
     have ak:Hid (0<ay.pos):=by show 0<ay.pos;rw[zjF hn];exact ad
     clear m s
     go_wp2
     go_roundg (gk-1)
     case rel=>exact⟨j1,Sy,ay,rfl,by have:=HJ.out;omega,ah.out,ak.out,ap.out,ae.out,aq.out⟩
     case measure=>omega
   ·have U: ¬(j:Int)<(l.length:Int):=by omega
    have O:Hid (za5 C l q= .ok J):=by show _=_;rw[ac.out,List.drop_eq_nil_of_le (by omega)];rfl
    go_wp2
    go_end0
    rw[O.out]
    exact⟨rfl,I,K.out,N.out⟩
theorem zpY (C:Cx) (D n j z b0 g:Nat) (r:Rw) (S o:Sv) (q0 q:PS) (l:List Ep) (w wc:World) (V:IM C D n j z S q0 w) (h:IM C D n j z o q wc) (Z:IS z S w o wc) (hl:l.length≤4000) (Y:Fr 102 4 wc b0 r l.length (l.flatMap (fun e=>epL (zA e))) o) (U:r.a=some ⟨g,0,none⟩) (I:isT C q.pos 1 zU=false) (X:za8 l=true):
  Calls Tryz.prog 176 #[.pointer (some ⟨z,0,none⟩),.slice (some ⟨g,0,none⟩) l.length r.cap] wc (zQ C D n j z (za5 C l q) id (fun _=>.tuple #[]) S w):=by
 have HH:=zc V
 have O:=zc h
 have H0:=zc Z
 have HF:=zc Y
 have HG:=zc U
 have HY:Hid (za5 C l q= .error (zr C q.pos)):=by show _=_;rw[za5,I,X,if_pos (by decide),zgw I];rfl
 clear V h Z Y U
 go_enter Tryz.func176,Tryz.ntmps176
 go_wp2_with fail
 refine (zbO C D n j z o q 1 zU _ O.out).mono ?_
 rintro e J ⟨rfl,A⟩
 rw[I]
 have Q:Hid (IM C D n j z o q J):=O.out.later A
 have N:Hid (IS z S w o J):=(H0.out.trans (IS.below A))
 have H:IS z o wc o J:=IS.below A
 clear A
 have E:Hid (Fr 102 4 J b0 r l.length (l.flatMap (fun e=>epL (zA e))) o):=HF.out.step O.out (by decide) H
 clear H
 go_wp2_with fail
 refine (zjK b0 g r l _ E.out.1 hl HG.out).mono ?_
 rintro e K ⟨rfl,A⟩
 rw[X]
 have aa:Hid (Fr 102 4 K b0 r l.length (l.flatMap (fun e=>epL (zA e))) o):=E.out.later A
 have M:Hid (IM C D n j z o q K):=Q.out.later A
 have L:Hid (IS z S w o K):=(N.out.trans (IS.below A))
 clear A
 go_wp2_with fail
 refine (zea C D n j z o q zU _ M.out).mono ?_
 rw[zgw I]
 rintro e w3 ⟨rfl,A⟩
 have HB:Hid (Below j w w3):=(HH.out.back L.out).trans A
 have HX:Hid (za5 C l q= .error (zr C q.pos)):=HY.out
 unfold Pan
 go_wp2
 refine⟨rfl,?_⟩
 rw[HX.out]
 exact⟨rfl,HB.out⟩
theorem zpZ (C:Cx) (I o n z b0 g:Nat) (r:Rw) (S V:Sv) (q0 q:PS) (l:List Ep) (w wc:World) (hh:IM C I o n z S q0 w) (h:IM C I o n z V q wc) (h0:IS z S w V wc) (hC:zbf C) (hl:l.length≤4000) (hf:Fr 102 4 wc b0 r l.length (l.flatMap (fun e=>epL (zA e))) V) (hg:r.a=some ⟨g,0,none⟩) (av:w.heap.size≤g) (hi:isT C q.pos 1 zU=true):
  Calls Tryz.prog 176 #[.pointer (some ⟨z,0,none⟩),.slice (some ⟨g,0,none⟩) l.length r.cap] wc (zQ C I o n z (za5 C l q) id (fun _=>.tuple #[]) S w):=by
 have HH:=zc hh
 have HC:=zc h
 have H0:=zc h0
 have HF:=zc hf
 have HG:=zc hg
 have ar:=zc av
 have HY:Hid (za5 C l q=bd (zd C 1 zU q) fun a=>bd (zH C a) fun b=>bd (zd C 4 cSemi b.1) fun c=>zP (fun e=>zo C (zai b.2 e)) l (.ok c)):=by show _=_;rw[za5,hi];rfl
 clear hh h h0 hf hg av
 go_enter Tryz.func176,Tryz.ntmps176
 go_wp2_with fail
 refine (zbO C I o n z V q 1 zU _ HC.out).mono ?_
 rintro e w1 ⟨rfl,M⟩
 rw[hi]
 have al:Hid (IM C I o n z V q w1):=HC.out.later M
 have ah:Hid (IS z S w V w1):=(H0.out.trans (IS.below M))
 have aj:IS z V wc V w1:=IS.below M
 clear M
 have aG:Hid (Fr 102 4 w1 b0 r l.length (l.flatMap (fun e=>epL (zA e))) V):=HF.out.step HC.out (by decide) aj
 clear aj
 go_wp2_with fail
 refine (zea C I o n z V q zU _ al.out).mono ?_
 cases ak:zd C 1 zU q with
 |error p=>
  rintro e w2 ⟨rfl,M⟩
  have HB:Hid (Below n w w2):=(HH.out.back ah.out).trans M
  have X:Hid (za5 C l q= .error p):=bdE HY.out ak
  unfold Pan
  go_wp2
  refine⟨rfl,?_⟩
  rw[X.out]
  exact⟨rfl,HB.out⟩
 |ok a2=>
  rintro e w2 ⟨rfl,S2,m,s⟩
  have aI:Hid (Fr 102 4 w2 b0 r l.length (l.flatMap (fun e=>epL (zA e))) S2):=aG.out.step al.out (by decide) s
  have am:=zc m
  have au:Hid (IS z S w S2 w2):=ah.out.trans s
  clear m s
  have ag:=zc (bdO HY.out ak)
  go_wp2_with fail
  refine (zf3 C I o n z S2 a2 _ am.out hC).mono ?_
  cases ai:zH C a2 with
  |error p=>
   rintro e w3 ⟨rfl,M⟩
   have HB:Hid (Below n w w3):=(HH.out.back au.out).trans M
   have X:Hid (za5 C l q= .error p):=bdE ag.out ai
   unfold Pan
   go_wp2
   refine⟨rfl,?_⟩
   rw[X.out]
   exact⟨rfl,HB.out⟩
  |ok A=>
   rintro e w3 ⟨rfl,N,m,s⟩
   have aa:Hid (Fr 102 4 w3 b0 r l.length (l.flatMap (fun e=>epL (zA e))) N):=aI.out.step am.out (by decide) s
   have af:=zc m
   have aK:Hid (IS z S w N w3):=au.out.trans s
   clear m s
   have ap:=zc (bdO ag.out ai)
   have ae:Hid (Fr 102 4 w3 b0 r l.length ((mxE A.2 l 0).flatMap epL) N):=by show Fr _ _ _ _ _ _ _ _;rw[zpS,zjL];exact aa.out
   have ad:g≠z:=aa.out.ngp af.out (by decide) (by rw[Rw.blk,HG.out];rfl)
   have ao:g≠I:=aa.out.ngt af.out (by decide) (by rw[Rw.blk,HG.out];rfl)
   have U:Hid (¬N.has g):=aa.out.2 g (by rw[Rw.blk,HG.out];rfl)
   have az:=zc ad
   have aq:=zc ao
   clear ad ao
   go_wp2
   go_loopg [22] l.length (fun k i wr=>∃(j:Nat),i= .int .i64 j∧j+k=l.length∧IM C I o n z N A.1 wr∧IS z S w N wr∧Fr 102 4 wr b0 r l.length ((mxE A.2 l j).flatMap epL) N)
   case atStart=>exact⟨0,rfl,by omega,af.out,aK.out,ae.out⟩
   case round=>
    obtain⟨j,rfl,hj,m',s',f'⟩:=hrel
    have E:Hid (IM C I o n z N A.1 wr):=m'
    have H:Hid (IS z S w N wr):=s'
    have K:Hid (Fr 102 4 wr b0 r l.length ((mxE A.2 l j).flatMap epL) N):=f'
    clear m' s' f'
    by_cases ab:j<l.length
    ·have O:(j:Int)<(l.length:Int):=by omega
     obtain⟨x,hx⟩:=zfd ab
     have X:=zc hx
     have L:=K.out.1
     have ho:OwnR wr b0 102 4 r (mxE A.2 l j).length ((mxE A.2 l j).flatMap epL):=by rw[zjI];exact L
     obtain⟨g',Q,D⟩:=OwnR.elem (f:=epL) (m:=4) (fun _=>rfl) ho (zjJ hx)
     have eg:g'=g:=by have:=Q.symm.trans HG.out;simpa using this
     subst eg
     have k0:=D 0 (by omega)
     have k3:=D 3 (by omega)
     simp only[epL,zA,Nat.add_zero,List.getElem?_cons_zero,List.getElem?_cons_succ] at k0 k3
     unfold OwnR at L
     rw[HG.out] at L
     have aQ:=L.frozenAt
     have aD:=zc L
     clear D Q hx L ho
     obtain⟨Y,J⟩: ∃Y,Y=j+1:=⟨_,rfl⟩
     have ej:(j:Int)+1=(Y:Int):=by omega
     have HJ:=zc J
     clear J
     go_wp2
     go_roundg (gk-1)
     case rel=>
      refine⟨Y,rfl,by have:=HJ.out;omega,(E.out.set az.out aq.out U.out _ _).set az.out aq.out U.out _ _,(H.out.new ar.out _ _).new ar.out _ _,?_,K.out.2⟩
      have aP:=(aD.out.stored (j*4+0) (.int .i64 2)).1
      have aw:=(aP.stored (j*4+3) (.string A.2)).1
      rw[zjH epL 4 (fun _=>rfl) _ j 0 (zA x) ⟨2,x.name,x.loc,sNone⟩ (.int .i64 2) (zjJ X.out) (by omega) rfl,zjH epL 4 (fun _=>rfl) ((mxE A.2 l j).set j ⟨2,x.name,x.loc,sNone⟩) j 3 ⟨2,x.name,x.loc,sNone⟩ (zai A.2 x) (.string A.2) (List.getElem?_set_self (by rw[zjI];exact ab)) (by omega) rfl,List.set_set,zpR X.out,←HJ.out] at aw
      unfold OwnR
      rw[HG.out]
      exact aw
     case measure=>omega
    ·have O: ¬(j:Int)<(l.length:Int):=by omega
     have aO:j=l.length:=by omega
     subst aO
     have aF:Hid (Fr 102 4 wr b0 r l.length (l.flatMap fun e=>epL (zai A.2 e)) N):=by show Fr _ _ _ _ _ _ _ _;rw[←zjL,←zpT A.2 l];exact K.out
     go_wp2_with fail
     refine (zbX C I o n z N A.1 59 _ E.out).mono ?_
     cases ac:zd C 4 cSemi A.1 with
     |error p=>
      rintro e w4 ⟨rfl,M⟩
      have HB:Hid (Below n w w4):=(HH.out.back H.out).trans M
      have X:Hid (za5 C l q= .error p):=bdE ap.out ac
      unfold Pan
      go_wp2
      refine⟨rfl,?_⟩
      rw[X.out]
      exact⟨rfl,HB.out⟩
     |ok a4=>
      rintro e w4 ⟨rfl,S4,m,s⟩
      have ae:Hid (Fr 102 4 w4 b0 r l.length (l.flatMap fun e=>epL (zai A.2 e)) S4):=aF.out.step E.out (by decide) s
      have aJ:=zc m
      have aC:Hid (IS z S w S4 w4):=H.out.trans s
      clear m s
      have aM:=zc (bdO ap.out ac)
      have an:0<a4.pos:=by rw[(zb4 ac).1];exact Nat.succ_pos _
      go_wp2
      go_loopg [39] l.length (fun k i wr=>∃(j:Nat) (Z:Sv) (q':PS),i= .int .i64 j∧j+k=l.length∧za5 C l q=zP (fun e=>zo C (zai A.2 e)) (l.drop j) (.ok q')∧0<q'.pos∧IM C I o n z Z q' wr∧IS z S w Z wr∧Fr 102 4 wr b0 r l.length (l.flatMap fun e=>epL (zai A.2 e)) Z)
      case atStart=>exact⟨0,S4,a4,rfl,by omega,aM.out,an,aJ.out,aC.out,ae.out⟩
      case round=>
       obtain⟨j,Z,q',rfl,hj,hy,aA,m',s',f'⟩:=hrel
       have ax:=zc hy
       have E:Hid (IM C I o n z Z q' wr):=m'
       have H:Hid (IS z S w Z wr):=s'
       have K:Hid (Fr 102 4 wr b0 r l.length (l.flatMap fun e=>epL (zai A.2 e)) Z):=f'
       clear hy m' s' f'
       by_cases ab:j<l.length
       ·have O:(j:Int)<(l.length:Int):=by omega
        obtain⟨x,hx⟩:=zfd ab
        obtain⟨g',Q,D⟩:=OwnR.elem (f:=fun e=>epL (zai A.2 e)) (m:=4) (fun _=>rfl) K.out.1 hx
        have eg:g'=g:=by have:=Q.symm.trans HG.out;simpa using this
        subst eg
        have k0:=D 0 (by omega)
        have k1:=D 1 (by omega)
        have k2:=D 2 (by omega)
        have k3:=D 3 (by omega)
        simp only[epL,zai,Nat.add_zero,List.getElem?_cons_zero,List.getElem?_cons_succ] at k0 k1 k2 k3
        have HZ:=zc (ax.out.trans (zhg (fun e=>zo C (zai A.2 e)) hx q'))
        clear D Q hx
        obtain⟨Y,J⟩: ∃Y,Y=j+1:=⟨_,rfl⟩
        have ej:(j:Int)+1=(Y:Int):=by omega
        rw[←J] at HZ
        have ad:=E.out.lt
        have HJ:=zc J
        clear J
        go_wp2_with fail
        refine (zeH C I o n z Z q' (zai A.2 x) _ (E.out.alloc _) aA).mono ?_
        cases hn:zo C (zai A.2 x) q' with
        |error p=>
         rintro e wy ⟨rfl,M⟩
         have HB:Hid (Below n w wy):=(HH.out.back (H.out.alloc _)).trans M
         have X:Hid (za5 C l q= .error p):=by show _=_;rw[HZ.out,hn];exact zfL _ _ _
         unfold Pan
         go_wp2
         refine⟨rfl,?_⟩
         rw[X.out]
         exact⟨rfl,HB.out⟩
        |ok ay=>
         rintro e wy ⟨rfl,Sy,m,s⟩
         have aL:=zc m
         have aB:Hid (IS z S w Sy wy):=(H.out.alloc _).trans s
         have aN:Hid (Fr 102 4 wy b0 r l.length (l.flatMap fun e=>epL (zai A.2 e)) Sy):=(K.out.later ((Below.refl _ _).alloc (Nat.le_refl _) _)).step (E.out.alloc _) (by decide) s
         have aE:Hid (za5 C l q=zP (fun e=>zo C (zai A.2 e)) (l.drop Y) (.ok ay)):=by show _=_;rw[HZ.out,hn]
         have aH:Hid (0<ay.pos):=by show 0<ay.pos;rw[zjF hn];exact aA
         clear m s
         go_wp2
         go_roundg (gk-1)
         case rel=>exact⟨Y,Sy,ay,rfl,by have:=HJ.out;omega,aE.out,aH.out,aL.out,aB.out,aN.out⟩
         case measure=>omega
       ·have O: ¬(j:Int)<(l.length:Int):=by omega
        have HZ:Hid (za5 C l q= .ok q'):=by show _=_;rw[ax.out,List.drop_eq_nil_of_le (by omega)];rfl
        go_wp2
        go_end0
        rw[HZ.out]
        exact⟨rfl,Z,E.out,H.out⟩
theorem zqa (C:Cx) (A n j o b0:Nat) (r:Rw) (S z:Sv) (H q:PS) (l:List Ep) (w wc:World) (J:IM C A n j o S H w) (h:IM C A n j o z q wc) (N:IS o S w z wc) (U:zbf C) (M:l.length≤4000) (I:l.length≠0) (E:Fr 102 4 wc b0 r l.length (l.flatMap (fun e=>epL (zA e))) z) (L:w.heap.size≤b0):
  Calls Tryz.prog 176 #[.pointer (some ⟨o,0,none⟩),.slice r.a l.length r.cap] wc (zQ C A n j o (za5 C l q) id (fun _=>.tuple #[]) S w):=by
 rcases E.1.nil_or with ⟨_,_,e⟩|⟨g,D⟩
 ·exact absurd e I
 ·have O:w.heap.size≤g:=Nat.le_trans L (E.1.typed (show r.blk=some g by rw[Rw.blk,D];rfl)).1
  rw[D]
  cases K:isT C q.pos 1 zU with
  |true=>exact zpZ C A n j o b0 g r S z H q l w wc J h N U M E D O K
  |false=>
   cases Q:za8 l with
   |true=>exact zpY C A n j o b0 g r S z H q l w wc J h N M E D K Q
   |false=>exact zpX C A n j o b0 g r S z H q l w wc J h N M E D K Q
theorem zqb {C:Cx} {k:Int} {n:ByteArray} {q b:PS} (h:zV C k n q= .ok b):b={q with st:=q.st++[⟨k,n,(q.ex.length:Int)-1⟩]}:=by
 unfold zV at h
 split at h
 ·cases h
 ·cases h
  rfl
theorem zhi {C:Cx} {k:Int} {n s:ByteArray} {q b:PS} (h:stmtI C k n s q= .ok b) (E:0<s.size):(∃l e,b.st=l++[⟨k,n,e⟩])∧0<b.pos:=by
 obtain⟨a,H,j⟩:=zf h
 obtain⟨c,z,o⟩:=zf j
 have A:=zih _ z
 have D:=zqb o
 subst D
 refine⟨⟨_,_,rfl⟩,?_⟩
 rw[A]
 show 0<a.pos+s.size
 omega
theorem zqc {C:Cx} {k:Int} {q b:PS} (h:letJ C k q= .ok b):(∃l e,b.st=l++[⟨k,(ze C q.pos).text,e⟩])∧0<b.pos:=by
 obtain⟨a,n,j⟩:=zf h
 obtain⟨c,z,o⟩:=zf j
 have:=zhi o (by decide)
 rw[(zbd n).1] at this
 exact this
theorem zqd {C:Cx} {q b:PS} (h:fnI C q= .ok b):(∃l e,b.st=l++[⟨2,(ze C q.pos).text,e⟩])∧0<b.pos:=by
 obtain⟨a,o,j⟩:=zf h
 obtain⟨c,D,n⟩:=zf j
 obtain⟨d,A,z⟩:=zf n
 have:=zhi z (by decide)
 rw[(zbd o).1] at this
 exact this
theorem zjM (C:Cx) (D o j z:Nat) (S:Sv) (q:PS) (l:List Sm) (k e:Int) (n:ByteArray) (w:World) (h:IM C D o j z S q w) (E:q.st=l++[⟨k,n,e⟩]) (A:n.size≤281474976710656) (H:0<q.pos):
  Calls Tryz.prog 179 #[.pointer (some ⟨z,0,none⟩)] w (zQ C D o j z (zo C ⟨1,n,n,sNone⟩ q) id (fun _=>.tuple #[]) S w):=zmh C D o j z S q l ⟨k,n,e⟩ w h E A H
def zaq (C:Cx) (q:PS):PR:=
 if isT C q.pos 4 zJ then bd (zax C true (adv q) []) fun a=>za5 C a.2 a.1
 else if isT C q.pos 4 zw then bd (zd C 1 zU (adv q)) fun a=>bd (zH C a) fun b=>bd (zd C 4 cSemi b.1) fun c=>zo C ⟨3,sNone,sNone,b.2⟩ c
 else if isT C q.pos 1 sDefault then bd (stmtI C 1 zbN cSemi (adv q)) fun a=>zo C ⟨1,sDefault,zbN,sNone⟩ a
 else if isT C q.pos 1 zC then bd (letJ C 1 (adv q)) fun a=>zo C ⟨1,(ze C (q.pos+1)).text,(ze C (q.pos+1)).text,sNone⟩ a
 else if isT C q.pos 1 zT then bd (fnI C (adv q)) fun a=>zo C ⟨1,(ze C (q.pos+1)).text,(ze C (q.pos+1)).text,sNone⟩ a
 else .error (zr C q.pos)
theorem zqe (C:Cx) (A n j o:Nat) (S:Sv) (q:PS) (w:World) (h:IM C A n j o S q w) (hC:zbf C) (Z:isT C q.pos 4 zJ=true):
  Calls Tryz.prog 150 #[.pointer (some ⟨o,0,none⟩)] w (zQ C A n j o (zaq C q) id (fun _=>.tuple #[]) S w):=by
 have M:=zc h
 have HY:Hid (zaq C q=bd (zax C true (adv q) []) fun a=>za5 C a.2 a.1):=by show _=_;rw[zaq,Z];rfl
 clear h
 go_enter Tryz.func150,Tryz.ntmps150
 go_wp2_with fail
 refine (zK C A n j o S q 4 zJ _ M.out (by decide)).mono ?_
 rintro e w1 ⟨rfl,m,s⟩
 rw[Z] at m ⊢
 have X:=zc m
 have z:=zc s
 clear m s
 go_wp2_with fail
 refine (zpQ C A n j o S (adv q) _ X.out).mono ?_
 cases E:zax C true (adv q) [] with
 |error p=>
  rintro e O ⟨rfl,Q⟩
  have L:Hid (Below j w O):=(M.out.back z.out).trans Q
  have I:Hid (zaq C q= .error p):=bdE HY.out E
  unfold Pan
  go_wp2
  refine⟨rfl,?_⟩
  rw[I.out]
  exact⟨rfl,L.out⟩
 |ok J=>
  rintro e O ⟨r,S3,rfl,m,s,f,l0,l1⟩
  have Y:=zc m
  have K:Hid (IS o S w S3 O):=z.out.trans s
  have N:=zc f
  clear m s f
  have H:=zc (bdO HY.out E)
  go_wp2_with fail
  refine (zqa C A n j o _ r S S3 q J.1 J.2 w _ M.out Y.out K.out hC l1 (by omega) N.out z.out.size).mono ?_
  cases D:za5 C J.2 J.1 with
  |error p=>
   rintro e w4 ⟨rfl,Q⟩
   have L:=zc Q
   have I:=zc (H.out.trans D)
   unfold Pan
   go_wp2
   refine⟨rfl,?_⟩
   rw[I.out]
   exact⟨rfl,L.out⟩
  |ok a4=>
   rintro e w4 ⟨rfl,S4,m,s⟩
   have U:=zc m
   have V:=zc s
   clear m s
   have I:=zc (H.out.trans D)
   go_wp2
   go_end0
   rw[I.out]
   exact⟨rfl,S4,U.out,V.out⟩
theorem zqf (C:Cx) (z n j o:Nat) (S:Sv) (q:PS) (w:World) (h:IM C z n j o S q w) (hC:zbf C) (h1:isT C q.pos 4 zJ=false) (h2:isT C q.pos 4 zw=true):
  Calls Tryz.prog 150 #[.pointer (some ⟨o,0,none⟩)] w (zQ C z n j o (zaq C q) id (fun _=>.tuple #[]) S w):=by
 have K:=zc h
 have HY:Hid (zaq C q=bd (zd C 1 zU (adv q)) fun a=>bd (zH C a) fun b=>bd (zd C 4 cSemi b.1) fun c=>zo C ⟨3,sNone,sNone,b.2⟩ c):=by show _=_;rw[zaq,h1,h2];rfl
 clear h
 go_enter Tryz.func150,Tryz.ntmps150
 go_wp2_with fail
 refine (zK C z n j o S q 4 zJ _ K.out (by decide)).mono ?_
 rintro e w1 ⟨rfl,m,s⟩
 rw[h1] at m ⊢
 have ah:=zc m
 have af:=zc s
 clear m s
 go_wp2_with fail
 refine (zK C z n j o S q 4 zw _ ah.out (by decide)).mono ?_
 rintro e w2 ⟨rfl,m,s⟩
 rw[h2] at m ⊢
 have ad:=zc m
 have J:Hid (IS o S w S w2):=af.out.trans s
 clear m s
 go_wp2_with fail
 refine (zea C z n j o S (adv q) zU _ ad.out).mono ?_
 cases V:zd C 1 zU (adv q) with
 |error p=>
  rintro e w3 ⟨rfl,E⟩
  have D:Hid (Below j w w3):=(K.out.back J.out).trans E
  have H:Hid (zaq C q= .error p):=bdE HY.out V
  unfold Pan
  go_wp2
  refine⟨rfl,?_⟩
  rw[H.out]
  exact⟨rfl,D.out⟩
 |ok a3=>
  rintro e w3 ⟨rfl,S3,m,s⟩
  have ai:=zc m
  have I:Hid (IS o S w S3 w3):=J.out.trans s
  clear m s
  have X:=zc (bdO HY.out V)
  go_wp2_with fail
  refine (zf3 C z n j o S3 a3 _ ai.out hC).mono ?_
  cases N:zH C a3 with
  |error p=>
   rintro e w4 ⟨rfl,E⟩
   have D:Hid (Below j w w4):=(K.out.back I.out).trans E
   have H:Hid (zaq C q= .error p):=bdE X.out N
   unfold Pan
   go_wp2
   refine⟨rfl,?_⟩
   rw[H.out]
   exact⟨rfl,D.out⟩
  |ok Z=>
   rintro e w4 ⟨rfl,S4,m,s⟩
   have ag:=zc m
   have U:Hid (IS o S w S4 w4):=I.out.trans s
   clear m s
   have O:=zc (bdO X.out N)
   go_wp2_with fail
   refine (zbX C z n j o S4 Z.1 59 _ ag.out).mono ?_
   cases A:zd C 4 cSemi Z.1 with
   |error p=>
    rintro e w5 ⟨rfl,E⟩
    have D:Hid (Below j w w5):=(K.out.back U.out).trans E
    have H:Hid (zaq C q= .error p):=bdE O.out A
    unfold Pan
    go_wp2
    refine⟨rfl,?_⟩
    rw[H.out]
    exact⟨rfl,D.out⟩
   |ok a5=>
    rintro e w5 ⟨rfl,S5,m,s⟩
    have ac:=zc m
    have L:Hid (IS o S w S5 w5):=U.out.trans s
    clear m s
    have Y:=zc (bdO O.out A)
    have Q:0<a5.pos:=by rw[(zb4 A).1];exact Nat.succ_pos _
    go_wp2_with fail
    refine (zeH C z n j o S5 a5 ⟨3,sNone,sNone,Z.2⟩ _ ac.out Q).mono ?_
    cases M:zo C ⟨3,sNone,sNone,Z.2⟩ a5 with
    |error p=>
     rintro e w6 ⟨rfl,E⟩
     have D:Hid (Below j w w6):=(K.out.back L.out).trans E
     have H:Hid (zaq C q= .error p):=Y.out.trans M
     unfold Pan
     go_wp2
     refine⟨rfl,?_⟩
     rw[H.out]
     exact⟨rfl,D.out⟩
    |ok a6=>
     rintro e w6 ⟨rfl,S6,m,s⟩
     have ae:=zc m
     have aa:Hid (IS o S w S6 w6):=L.out.trans s
     clear m s
     have ab:=zc (Y.out.trans M)
     go_wp2
     go_end0
     rw[ab.out]
     exact⟨rfl,S6,ae.out,aa.out⟩
theorem zqg (C:Cx) (z n j o:Nat) (S:Sv) (q:PS) (w:World) (h:IM C z n j o S q w) (h1:isT C q.pos 4 zJ=false) (h2:isT C q.pos 4 zw=false) (h3:isT C q.pos 1 sDefault=true):
  Calls Tryz.prog 150 #[.pointer (some ⟨o,0,none⟩)] w (zQ C z n j o (zaq C q) id (fun _=>.tuple #[]) S w):=by
 have N:=zc h
 have HY:Hid (zaq C q=bd (stmtI C 1 zbN cSemi (adv q)) fun a=>zo C ⟨1,sDefault,zbN,sNone⟩ a):=by show _=_;rw[zaq,h1,h2,h3];rfl
 clear h
 go_enter Tryz.func150,Tryz.ntmps150
 go_wp2_with fail
 refine (zK C z n j o S q 4 zJ _ N.out (by decide)).mono ?_
 rintro e w1 ⟨rfl,m,s⟩
 rw[h1] at m ⊢
 have aa:=zc m
 have U:=zc s
 clear m s
 go_wp2_with fail
 refine (zK C z n j o S q 4 zw _ aa.out (by decide)).mono ?_
 rintro e w2 ⟨rfl,m,s⟩
 rw[h2] at m ⊢
 have O:=zc m
 have L:Hid (IS o S w S w2):=U.out.trans s
 clear m s
 go_wp2_with fail
 refine (zK C z n j o S q 1 sDefault _ O.out (by decide)).mono ?_
 rintro e w3 ⟨rfl,m,s⟩
 rw[h3] at m ⊢
 have ac:=zc m
 have D:Hid (IS o S w S w3):=L.out.trans s
 clear m s
 go_wp2_with fail
 refine (zd7 C z n j o S (adv q) 1 zbN cSemi _ ac.out (by decide) (by decide)).mono ?_
 cases A:stmtI C 1 zbN cSemi (adv q) with
 |error p=>
  rintro e Z ⟨rfl,X⟩
  have K:Hid (Below j w Z):=(N.out.back D.out).trans X
  have HX:Hid (zaq C q= .error p):=bdE HY.out A
  unfold Pan
  go_wp2
  refine⟨rfl,?_⟩
  rw[HX.out]
  exact⟨rfl,K.out⟩
 |ok a4=>
  rintro e Z ⟨rfl,S4,m,s⟩
  have Y:=zc m
  have J:Hid (IS o S w S4 Z):=D.out.trans s
  clear m s
  have H:=zc (bdO HY.out A)
  have I:=(zhi A (by decide)).2
  go_wp2_with fail
  refine (zeH C z n j o S4 a4 ⟨1,sDefault,zbN,sNone⟩ _ Y.out I).mono ?_
  cases E:zo C ⟨1,sDefault,zbN,sNone⟩ a4 with
  |error p=>
   rintro e V ⟨rfl,X⟩
   have K:Hid (Below j w V):=(N.out.back J.out).trans X
   have HX:Hid (zaq C q= .error p):=H.out.trans E
   unfold Pan
   go_wp2
   refine⟨rfl,?_⟩
   rw[HX.out]
   exact⟨rfl,K.out⟩
  |ok a5=>
   rintro e V ⟨rfl,S5,m,s⟩
   have M:=zc m
   have Q:Hid (IS o S w S5 V):=J.out.trans s
   clear m s
   have ab:=zc (H.out.trans E)
   go_wp2
   go_end0
   rw[ab.out]
   exact⟨rfl,S5,M.out,Q.out⟩
theorem zqh (C:Cx) (z n j o:Nat) (S:Sv) (q:PS) (w:World) (h:IM C z n j o S q w) (hC:zbf C) (h1:isT C q.pos 4 zJ=false) (h2:isT C q.pos 4 zw=false) (h3:isT C q.pos 1 sDefault=false) (h4:isT C q.pos 1 zC=true):
  Calls Tryz.prog 150 #[.pointer (some ⟨o,0,none⟩)] w (zQ C z n j o (zaq C q) id (fun _=>.tuple #[]) S w):=by
 have V:=zc h
 have HY:Hid (zaq C q=bd (letJ C 1 (adv q)) fun a=>zo C ⟨1,(ze C (q.pos+1)).text,(ze C (q.pos+1)).text,sNone⟩ a):=by show _=_;rw[zaq,h1,h2,h3,h4];rfl
 clear h
 go_enter Tryz.func150,Tryz.ntmps150
 go_wp2_with fail
 refine (zK C z n j o S q 4 zJ _ V.out (by decide)).mono ?_
 rintro e w1 ⟨rfl,m,s⟩
 rw[h1] at m ⊢
 have ac:=zc m
 have aa:=zc s
 clear m s
 go_wp2_with fail
 refine (zK C z n j o S q 4 zw _ ac.out (by decide)).mono ?_
 rintro e w2 ⟨rfl,m,s⟩
 rw[h2] at m ⊢
 have X:=zc m
 have O:Hid (IS o S w S w2):=aa.out.trans s
 clear m s
 go_wp2_with fail
 refine (zK C z n j o S q 1 sDefault _ X.out (by decide)).mono ?_
 rintro e w3 ⟨rfl,m,s⟩
 rw[h3] at m ⊢
 have ad:=zc m
 have L:Hid (IS o S w S w3):=O.out.trans s
 clear m s
 go_wp2_with fail
 refine (zK C z n j o S q 1 zC _ ad.out (by decide)).mono ?_
 rintro e w4 ⟨rfl,m,s⟩
 rw[h4] at m ⊢
 have ab:=zc m
 have H:Hid (IS o S w S w4):=L.out.trans s
 clear m s
 go_wp2_with fail
 refine (zg5 C z n j o S (adv q) _ ab.out).mono ?_
 cases A:letJ C 1 (adv q) with
 |error p=>
  rintro e w5 ⟨rfl,hb⟩
  have N:Hid (Below j w w5):=(V.out.back H.out).trans hb
  have HX:Hid (zaq C q= .error p):=bdE HY.out A
  unfold Pan
  go_wp2
  refine⟨rfl,?_⟩
  rw[HX.out]
  exact⟨rfl,N.out⟩
 |ok a5=>
  rintro e w5 ⟨rfl,S5,m,s⟩
  have U:=zc m
  have D:Hid (IS o S w S5 w5):=H.out.trans s
  clear m s
  have K:=zc (bdO HY.out A)
  obtain⟨⟨l,e,J⟩,I⟩:=zqc A
  have Y:=zc J
  clear J
  go_wp2_with fail
  refine (zjM C z n j o S5 a5 l _ _ (ze C (q.pos+1)).text _ U.out Y.out (hC _) I).mono ?_
  cases E:zo C ⟨1,(ze C (q.pos+1)).text,(ze C (q.pos+1)).text,sNone⟩ a5 with
  |error p=>
   rintro e w6 ⟨rfl,hb⟩
   have N:Hid (Below j w w6):=(V.out.back D.out).trans hb
   have HX:Hid (zaq C q= .error p):=K.out.trans E
   unfold Pan
   go_wp2
   refine⟨rfl,?_⟩
   rw[HX.out]
   exact⟨rfl,N.out⟩
  |ok a6=>
   rintro e w6 ⟨rfl,S6,m,s⟩
   have Z:=zc m
   have M:Hid (IS o S w S6 w6):=D.out.trans s
   clear m s
   have Q:=zc (K.out.trans E)
   go_wp2
   go_end0
   rw[Q.out]
   exact⟨rfl,S6,Z.out,M.out⟩
theorem zqi (C:Cx) (z n j o:Nat) (S:Sv) (q:PS) (w:World) (h:IM C z n j o S q w) (hC:zbf C) (h1:isT C q.pos 4 zJ=false) (h2:isT C q.pos 4 zw=false) (h3:isT C q.pos 1 sDefault=false) (h4:isT C q.pos 1 zC=false) (h5:isT C q.pos 1 zT=true):
  Calls Tryz.prog 150 #[.pointer (some ⟨o,0,none⟩)] w (zQ C z n j o (zaq C q) id (fun _=>.tuple #[]) S w):=by
 have U:=zc h
 have HY:Hid (zaq C q=bd (fnI C (adv q)) fun a=>zo C ⟨1,(ze C (q.pos+1)).text,(ze C (q.pos+1)).text,sNone⟩ a):=by show _=_;rw[zaq,h1,h2,h3,h4,h5];rfl
 clear h
 go_enter Tryz.func150,Tryz.ntmps150
 go_wp2_with fail
 refine (zK C z n j o S q 4 zJ _ U.out (by decide)).mono ?_
 rintro e w1 ⟨rfl,m,s⟩
 rw[h1] at m ⊢
 have ae:=zc m
 have Z:=zc s
 clear m s
 go_wp2_with fail
 refine (zK C z n j o S q 4 zw _ ae.out (by decide)).mono ?_
 rintro e w2 ⟨rfl,m,s⟩
 rw[h2] at m ⊢
 have V:=zc m
 have O:Hid (IS o S w S w2):=Z.out.trans s
 clear m s
 go_wp2_with fail
 refine (zK C z n j o S q 1 sDefault _ V.out (by decide)).mono ?_
 rintro e w3 ⟨rfl,m,s⟩
 rw[h3] at m ⊢
 have af:=zc m
 have L:Hid (IS o S w S w3):=O.out.trans s
 clear m s
 go_wp2_with fail
 refine (zK C z n j o S q 1 zC _ af.out (by decide)).mono ?_
 rintro e w4 ⟨rfl,m,s⟩
 rw[h4] at m ⊢
 have ac:=zc m
 have ad:Hid (IS o S w S w4):=L.out.trans s
 clear m s
 go_wp2_with fail
 refine (zK C z n j o S q 1 zT _ ac.out (by decide)).mono ?_
 rintro e w5 ⟨rfl,m,s⟩
 rw[h5] at m ⊢
 have Q:=zc m
 have H:Hid (IS o S w S w5):=ad.out.trans s
 clear m s
 go_wp2_with fail
 refine (zg6 C z n j o S (adv q) _ Q.out).mono ?_
 cases A:fnI C (adv q) with
 |error p=>
  rintro e w6 ⟨rfl,hb⟩
  have N:Hid (Below j w w6):=(U.out.back H.out).trans hb
  have HX:Hid (zaq C q= .error p):=bdE HY.out A
  unfold Pan
  go_wp2
  refine⟨rfl,?_⟩
  rw[HX.out]
  exact⟨rfl,N.out⟩
 |ok a6=>
  rintro e w6 ⟨rfl,S6,m,s⟩
  have X:=zc m
  have D:Hid (IS o S w S6 w6):=H.out.trans s
  clear m s
  have E:=zc (bdO HY.out A)
  obtain⟨⟨l,e,K⟩,J⟩:=zqd A
  have Y:=zc K
  clear K
  go_wp2_with fail
  refine (zjM C z n j o S6 a6 l _ _ (ze C (q.pos+1)).text _ X.out Y.out (hC _) J).mono ?_
  cases I:zo C ⟨1,(ze C (q.pos+1)).text,(ze C (q.pos+1)).text,sNone⟩ a6 with
  |error p=>
   rintro e w7 ⟨rfl,hb⟩
   have N:Hid (Below j w w7):=(U.out.back D.out).trans hb
   have HX:Hid (zaq C q= .error p):=E.out.trans I
   unfold Pan
   go_wp2
   refine⟨rfl,?_⟩
   rw[HX.out]
   exact⟨rfl,N.out⟩
  |ok a7=>
   rintro e w7 ⟨rfl,S7,m,s⟩
   have ab:=zc m
   have M:Hid (IS o S w S7 w7):=D.out.trans s
   clear m s
   have aa:=zc (E.out.trans I)
   go_wp2
   go_end0
   rw[aa.out]
   exact⟨rfl,S7,ab.out,M.out⟩
theorem zqj (C:Cx) (z n j o:Nat) (S:Sv) (q:PS) (w:World) (h:IM C z n j o S q w) (V:isT C q.pos 4 zJ=false) (Y:isT C q.pos 4 zw=false) (U:isT C q.pos 1 sDefault=false) (X:isT C q.pos 1 zC=false) (O:isT C q.pos 1 zT=false):
  Calls Tryz.prog 150 #[.pointer (some ⟨o,0,none⟩)] w (zQ C z n j o (zaq C q) id (fun _=>.tuple #[]) S w):=by
 have Q:=zc h
 have HY:Hid (zaq C q= .error (zr C q.pos)):=by show _=_;rw[zaq,V,Y,U,X,O];rfl
 clear h
 go_enter Tryz.func150,Tryz.ntmps150
 go_wp2_with fail
 refine (zK C z n j o S q 4 zJ _ Q.out (by decide)).mono ?_
 rintro e w1 ⟨rfl,m,s⟩
 rw[V] at m ⊢
 have M:=zc m
 have J:=zc s
 clear m s
 go_wp2_with fail
 refine (zK C z n j o S q 4 zw _ M.out (by decide)).mono ?_
 rintro e w2 ⟨rfl,m,s⟩
 rw[Y] at m ⊢
 have H:=zc m
 have E:Hid (IS o S w S w2):=J.out.trans s
 clear m s
 go_wp2_with fail
 refine (zK C z n j o S q 1 sDefault _ H.out (by decide)).mono ?_
 rintro e w3 ⟨rfl,m,s⟩
 rw[U] at m ⊢
 have N:=zc m
 have D:Hid (IS o S w S w3):=E.out.trans s
 clear m s
 go_wp2_with fail
 refine (zK C z n j o S q 1 zC _ N.out (by decide)).mono ?_
 rintro e w4 ⟨rfl,m,s⟩
 rw[X] at m ⊢
 have K:=zc m
 have L:Hid (IS o S w S w4):=D.out.trans s
 clear m s
 go_wp2_with fail
 refine (zK C z n j o S q 1 zT _ K.out (by decide)).mono ?_
 rintro e w5 ⟨rfl,m,s⟩
 rw[O] at m ⊢
 have A:=zc m
 have I:Hid (IS o S w S w5):=L.out.trans s
 clear m s
 go_wp2_with fail
 refine (zdZ C z n j o S q _ A.out).mono ?_
 rintro e wz ⟨rfl,hb⟩
 have Z:Hid (Below j w wz):=(Q.out.back I.out).trans (hb.mono A.out.mem.base)
 have HX:Hid (zaq C q= .error (zr C q.pos)):=HY.out
 unfold Pan
 go_wp2
 refine⟨rfl,?_⟩
 rw[HX.out]
 exact⟨rfl,Z.out⟩
theorem zqk (C:Cx) (z n j o:Nat) (S:Sv) (q:PS) (w:World) (h:IM C z n j o S q w) (E:zbf C):
  Calls Tryz.prog 150 #[.pointer (some ⟨o,0,none⟩)] w (zQ C z n j o (zaq C q) id (fun _=>.tuple #[]) S w):=by
 cases A:isT C q.pos 4 zJ with
 |true=>exact zqe C z n j o S q w h E A
 |false=>
  cases D:isT C q.pos 4 zw with
  |true=>exact zqf C z n j o S q w h E A D
  |false=>
   cases H:isT C q.pos 1 sDefault with
   |true=>exact zqg C z n j o S q w h A D H
   |false=>
    cases I:isT C q.pos 1 zC with
    |true=>exact zqh C z n j o S q w h E A D H I
    |false=>
     cases J:isT C q.pos 1 zT with
     |true=>exact zqi C z n j o S q w h E A D H I J
     |false=>exact zqj C z n j o S q w h A D H I J
end Go.Proofs.YticdggnnpjachaaGreat
