/-
  What ContainsFunc over Exps answers,and a row of Exps whose elements are written: the walks.
  What exportNames of impl's parser answers: the walks. (It writes into the row that it is handed: so what is told is told from a world on in which that row was not yet there.)
  What exportItem of impl's parser answers: the walks.
-/
import Derived.Laws.OwnMore
import Derived.Test.YticdggnnpjachaaGreatCbImplParseU
namespace Go.Proofs.YticdggnnpjachaaGreat
set_option maxRecDepth 100000
set_option maxHeartbeats 3200000
open Go.RowKit Go.PlainAid Go.Sort
theorem zjH {α:Type} (f:α→List Value) (m:Nat) (n: ∀x,(f x).length=m): ∀(l:List α) (j i:Nat) (x y:α) (v:Value),l[j]? =some x→i<m→f y=(f x).set i v→(l.flatMap f).set (j*m+i) v=(l.set j y).flatMap f:=by
 intro l
 induction l with
 |nil=>intro j i x y v h;simp at h
 |cons z l A=>
  intro j i x y v h o q
  match j with
  |0=>
   simp only[List.getElem?_cons_zero,Option.some.injEq] at h
   subst h
   rw[List.flatMap_cons,Nat.zero_mul,Nat.zero_add,List.set_append_left _ _ (by rw[n];exact o),List.set_cons_zero,List.flatMap_cons,q]
  |j+1=>
   simp only[List.getElem?_cons_succ] at h
   rw[List.flatMap_cons,List.set_append_right _ _ (by rw[n,Nat.succ_mul];omega),n,List.set_cons_succ,List.flatMap_cons,←A j i x y v h o q]
   congr 2
   rw[Nat.succ_mul]
   omega
def mxE (s:ByteArray) (l:List Ep) (j:Nat):List Ep:=(l.take j).map (zai s)++(l.drop j).map zA
theorem zjI (s:ByteArray) (l:List Ep) (j:Nat):(mxE s l j).length=l.length:=by simp[mxE];omega
theorem zjJ {s:ByteArray} {l:List Ep} {j:Nat} {x:Ep} (h:l[j]? =some x):(mxE s l j)[j]? =some (zA x):=by
 obtain⟨n,rfl⟩:=List.getElem?_eq_some_iff.1 h
 have o:((l.take j).map (zai s)).length=j:=by simp;omega
 rw[mxE,List.getElem?_append_right (by omega),o,Nat.sub_self,List.drop_eq_getElem_cons n]
 rfl
theorem zpR {s:ByteArray} {l:List Ep} {j:Nat} {x:Ep} (h:l[j]? =some x):(mxE s l j).set j (zai s x)=mxE s l (j+1):=by
 obtain⟨n,rfl⟩:=List.getElem?_eq_some_iff.1 h
 have o:((l.take j).map (zai s)).length=j:=by simp;omega
 rw[mxE,List.set_append_right _ _ (by omega),o,Nat.sub_self,List.drop_eq_getElem_cons n,List.map_cons,List.set_cons_zero,mxE,List.take_succ_eq_append_getElem n,List.map_append,List.append_assoc]
 rfl
theorem zpS (s:ByteArray) (l:List Ep):mxE s l 0=l.map zA:=by simp[mxE]
theorem zpT (s:ByteArray) (l:List Ep):mxE s l l.length=l.map (zai s):=by simp[mxE]
theorem zpU (x:Ep) (w:World):
  Calls Tryz.prog 198 #[epV x] w fun e j=>e= .returned (.bool (x.loc.toList==[100,101,102,97,117,108,116]))∧Below w.heap.size w j:=by
 unfold epV
 cases n:(x.loc.toList==[100,101,102,97,117,108,116]) with
 |true=>
  go_enter Tryz.func198,Tryz.ntmps198
  go_wp2
  go_ret
  exact⟨rfl,(Below.refl _ _).alloc (Nat.le_refl _) _⟩
 |false=>
  go_enter Tryz.func198,Tryz.ntmps198
  go_wp2
  go_ret
  exact⟨rfl,(Below.refl _ _).alloc (Nat.le_refl _) _⟩
theorem zpV {l:List Ep} {j:Nat} {x:Ep} (h:l[j]? =some x):za8 (l.drop j)=((x.loc.toList==[100,101,102,97,117,108,116])||za8 (l.drop (j+1))):=by
 obtain⟨n,rfl⟩:=List.getElem?_eq_some_iff.1 h
 rw[List.drop_eq_getElem_cons n]
 simp only[za8,List.any_cons]
theorem zpW (o g:Nat) (r:Rw) (l:List Ep) (w:World) (h:OwnR w o 102 4 r l.length (l.flatMap fun e=>epL (zA e))) (hl:l.length≤4000) (Y:r.a=some ⟨g,0,none⟩):
  Calls Tryz.prog 205 #[.slice (some ⟨g,0,none⟩) l.length r.cap,.func (.func 198) #[] #[]] w fun e w'=>(∃v:Int,e= .returned (.int .i64 v)∧decide (0≤v)=za8 l)∧Below w.heap.size w w':=by
 have Z:=zc h
 have L:=zc Y
 clear h Y
 go_enter Tryz.func205,Tryz.ntmps205
 go_wp2
 go_loopg [8] (l.length+1) (fun k i wr=>∃j:Nat,i= .int .i64 j∧j+k=l.length+1∧za8 (l.drop j)=za8 l∧Below w.heap.size w wr)
 case atStart=>exact⟨0,rfl,by omega,by simp,Below.refl _ _⟩
 case round=>
  obtain⟨j,rfl,hj,Q,X⟩:=hrel
  have K:=zc Q
  have I:=zc X
  clear Q X
  by_cases N:j<l.length
  ·have D:(j:Int)<(l.length:Int):=by omega
   obtain⟨x,M⟩:=zfd N
   have J:=zc (Z.out.keep fun k g=>I.out.block k (Z.out.typed g).2.1)
   obtain⟨g',E,n⟩:=OwnR.elem (f:=fun e=>epL (zA e)) (m:=4) (fun _=>rfl) J.out M
   have eg:g'=g:=by have:=E.symm.trans L.out;simpa using this
   subst eg
   have k0:=n 0 (by omega)
   have k1:=n 1 (by omega)
   have k2:=n 2 (by omega)
   have k3:=n 3 (by omega)
   simp only[epL,zA,Nat.add_zero,List.getElem?_cons_zero,List.getElem?_cons_succ] at k0 k1 k2 k3
   have V:=zc (zpV M)
   clear n E M
   obtain⟨H,z⟩: ∃H,H=j+1:=⟨_,rfl⟩
   have ej:(j:Int)+1=(H:Int):=by omega
   have O:=zc z
   clear z
   go_wp2_with fail
   refine (zpU (zA x) _).mono ?_
   rintro e w1 ⟨rfl,A⟩
   have q:Hid (Below w.heap.size w w1):=I.out.trans (A.mono I.out.size)
   clear A
   rw[show (zA x).loc=x.loc from rfl]
   cases U:(x.loc.toList==[100,101,102,97,117,108,116]) with
   |true=>
    go_wp2
    go_ret
    refine⟨⟨_,rfl,?_⟩,q.out⟩
    rw[←K.out,V.out,U]
    simp
   |false=>
    go_wp2
    go_roundg (gk-1)
    case rel=>
     refine⟨H,rfl,by have:=O.out;omega,?_,q.out⟩
     rw[←K.out,V.out,U,O.out]
     simp
    case measure=>omega
  ·have D: ¬(j:Int)<(l.length:Int):=by omega
   go_wp2
   go_ret
   refine⟨⟨_,rfl,?_⟩,I.out⟩
   rw[←K.out,List.drop_eq_nil_of_le (by omega)]
   rfl
theorem zjK (j g:Nat) (r:Rw) (l:List Ep) (w:World) (h:OwnR w j 102 4 r l.length (l.flatMap fun e=>epL (zA e))) (E:l.length≤4000) (o:r.a=some ⟨g,0,none⟩):
  Calls Tryz.prog 199 #[.slice (some ⟨g,0,none⟩) l.length r.cap,.func (.func 198) #[] #[]] w fun e H=>e= .returned (.bool (za8 l))∧Below w.heap.size w H:=by
 have I:=zc h
 have n:=zc o
 clear h o
 go_enter Tryz.func199,Tryz.ntmps199
 go_wp2_with fail
 refine (zpW j g r l _ I.out E n.out).mono ?_
 rintro e J ⟨⟨v,rfl,z⟩,q⟩
 have D:=zc z
 have A:=zc q
 clear z q
 go_wp2
 go_ret
 exact⟨zm D.out,A.out⟩
def za5 (C:Cx) (l:List Ep) (q:PS):PR:=
 if isT C q.pos 1 zU||za8 l then bd (zd C 1 zU q) fun a=>bd (zH C a) fun b=>bd (zd C 4 cSemi b.1) fun c=>zP (fun e=>zo C (zai b.2 e)) l (.ok c)
 else bd (zd C 4 cSemi q) fun c=>zP (fun e=>zo C (zA e)) l (.ok c)
theorem zjL (X:Ep→Ep) (l:List Ep):(l.map X).flatMap epL=l.flatMap fun e=>epL (X e):=by rw[List.flatMap_map]
theorem zpX (C:Cx) (H o n z b0 g:Nat) (r:Rw) (S A:Sv) (q0 q:PS) (l:List Ep) (w wc:World) (hh:IM C H o n z S q0 w) (h:IM C H o n z A q wc) (h0:IS z S w A wc) (hl:l.length≤4000) (hf:Fr 102 4 wc b0 r l.length (l.flatMap (fun e=>epL (zA e))) A) (hg:r.a=some ⟨g,0,none⟩) (hi:isT C q.pos 1 zU=false) (ha:za8 l=false):
  Calls Tryz.prog 176 #[.pointer (some ⟨z,0,none⟩),.slice (some ⟨g,0,none⟩) l.length r.cap] wc (zQ C H o n z (za5 C l q) id (fun _=>.tuple #[]) S w):=by
 have HH:=zc hh
 have HC:=zc h
 have H0:=zc h0
 have HF:=zc hf
 have HG:=zc hg
 have HY:Hid (za5 C l q=bd (zd C 4 cSemi q) fun c=>zP (fun e=>zo C (zA e)) l (.ok c)):=by show _=_;rw[za5,hi,ha];rfl
 clear hh h h0 hf hg
 go_enter Tryz.func176,Tryz.ntmps176
 go_wp2_with fail
 refine (zbO C H o n z A q 1 zU _ HC.out).mono ?_
 rintro e w1 ⟨rfl,D⟩
 rw[hi]
 have ap:Hid (IM C H o n z A q w1):=HC.out.later D
 have ag:Hid (IS z S w A w1):=(H0.out.trans (IS.below D))
 have U:IS z A wc A w1:=IS.below D
 clear D
 have V:Hid (Fr 102 4 w1 b0 r l.length (l.flatMap (fun e=>epL (zA e))) A):=HF.out.step HC.out (by decide) U
 clear U
 go_wp2_with fail
 refine (zjK b0 g r l _ V.out.1 hl HG.out).mono ?_
 rintro e w2 ⟨rfl,D⟩
 rw[ha]
 have al:Hid (Fr 102 4 w2 b0 r l.length (l.flatMap (fun e=>epL (zA e))) A):=V.out.later D
 have ae:Hid (IM C H o n z A q w2):=ap.out.later D
 have ac:Hid (IS z S w A w2):=(ag.out.trans (IS.below D))
 clear D
 go_wp2_with fail
 refine (zbX C H o n z A q 59 _ ae.out).mono ?_
 cases M:zd C 4 cSemi q with
 |error p=>
  rintro e w3 ⟨rfl,D⟩
  have HB:Hid (Below n w w3):=(HH.out.back ac.out).trans D
  have HX:Hid (za5 C l q= .error p):=bdE HY.out M
  unfold Pan
  go_wp2
  refine⟨rfl,?_⟩
  rw[HX.out]
  exact⟨rfl,HB.out⟩
 |ok a3=>
  rintro e w3 ⟨rfl,S3,m,s⟩
  have ao:Hid (Fr 102 4 w3 b0 r l.length (l.flatMap (fun e=>epL (zA e))) S3):=al.out.step ae.out (by decide) s
  have ar:=zc m
  have aj:Hid (IS z S w S3 w3):=ac.out.trans s
  clear m s
  have am:=zc (bdO HY.out M)
  have Q:0<a3.pos:=by rw[(zb4 M).1];exact Nat.succ_pos _
  go_wp2
  go_loopg [39] l.length (fun k i wr=>∃(j:Nat) (I:Sv) (J:PS),i= .int .i64 j∧j+k=l.length∧za5 C l q=zP (fun e=>zo C (zA e)) (l.drop j) (.ok J)∧0<J.pos∧IM C H o n z I J wr∧IS z S w I wr∧Fr 102 4 wr b0 r l.length (l.flatMap fun e=>epL (zA e)) I)
  case atStart=>exact⟨0,S3,a3,rfl,by omega,am.out,Q,ar.out,aj.out,ao.out⟩
  case round=>
   obtain⟨j,I,J,rfl,hj,hy,ab,m',s',f'⟩:=hrel
   have Y:=zc hy
   have K:Hid (IM C H o n z I J wr):=m'
   have N:Hid (IS z S w I wr):=s'
   have Z:Hid (Fr 102 4 wr b0 r l.length (l.flatMap fun e=>epL (zA e)) I):=f'
   clear hy m' s' f'
   by_cases ah:j<l.length
   ·have ad:(j:Int)<(l.length:Int):=by omega
    obtain⟨x,hx⟩:=zfd ah
    obtain⟨g',aa,E⟩:=OwnR.elem (f:=fun e=>epL (zA e)) (m:=4) (fun _=>rfl) Z.out.1 hx
    have eg:g'=g:=by have:=aa.symm.trans HG.out;simpa using this
    subst eg
    have k0:=E 0 (by omega)
    have k1:=E 1 (by omega)
    have k2:=E 2 (by omega)
    have k3:=E 3 (by omega)
    simp only[epL,zA,Nat.add_zero,List.getElem?_cons_zero,List.getElem?_cons_succ] at k0 k1 k2 k3
    have X:=zc (Y.out.trans (zhg (fun e=>zo C (zA e)) hx J))
    clear E aa hx
    obtain⟨O,L⟩: ∃O,O=j+1:=⟨_,rfl⟩
    have ej:(j:Int)+1=(O:Int):=by omega
    rw[←L] at X
    have au:=K.out.lt
    have HJ:=zc L
    clear L
    go_wp2_with fail
    refine (zeJ C H o n z I J (zA x) _ (K.out.alloc _) ab).mono ?_
    cases hn:zo C (zA x) J with
    |error p=>
     rintro e wy ⟨rfl,D⟩
     have HB:Hid (Below n w wy):=(HH.out.back (N.out.alloc _)).trans D
     have HX:Hid (za5 C l q= .error p):=by show _=_;rw[X.out,hn];exact zfL _ _ _
     unfold Pan
     go_wp2
     refine⟨rfl,?_⟩
     rw[HX.out]
     exact⟨rfl,HB.out⟩
    |ok ay=>
     rintro e wy ⟨rfl,Sy,m,s⟩
     have ak:=zc m
     have af:Hid (IS z S w Sy wy):=(N.out.alloc _).trans s
     have aq:Hid (Fr 102 4 wy b0 r l.length (l.flatMap fun e=>epL (zA e)) Sy):=(Z.out.later ((Below.refl _ _).alloc (Nat.le_refl _) _)).step (K.out.alloc _) (by decide) s
     have ai:Hid (za5 C l q=zP (fun e=>zo C (zA e)) (l.drop O) (.ok ay)):=by show _=_;rw[X.out,hn]
     have an:Hid (0<ay.pos):=by show 0<ay.pos;rw[zjF hn];exact ab
     clear m s
     go_wp2
     go_roundg (gk-1)
     case rel=>exact⟨O,Sy,ay,rfl,by have:=HJ.out;omega,ai.out,an.out,ak.out,af.out,aq.out⟩
     case measure=>omega
   ·have ad: ¬(j:Int)<(l.length:Int):=by omega
    have X:Hid (za5 C l q= .ok J):=by show _=_;rw[Y.out,List.drop_eq_nil_of_le (by omega)];rfl
    go_wp2
    go_end0
    rw[X.out]
    exact⟨rfl,I,K.out,N.out⟩
theorem zpY (C:Cx) (D n j z b0 g:Nat) (r:Rw) (S o:Sv) (q0 q:PS) (l:List Ep) (w wc:World) (X:IM C D n j z S q0 w) (h:IM C D n j z o q wc) (U:IS z S w o wc) (hl:l.length≤4000) (V:Fr 102 4 wc b0 r l.length (l.flatMap (fun e=>epL (zA e))) o) (Z:r.a=some ⟨g,0,none⟩) (J:isT C q.pos 1 zU=false) (Y:za8 l=true):
  Calls Tryz.prog 176 #[.pointer (some ⟨z,0,none⟩),.slice (some ⟨g,0,none⟩) l.length r.cap] wc (zQ C D n j z (za5 C l q) id (fun _=>.tuple #[]) S w):=by
 have HH:=zc X
 have Q:=zc h
 have H0:=zc U
 have HF:=zc V
 have HG:=zc Z
 have HY:Hid (za5 C l q= .error (zr C q.pos)):=by show _=_;rw[za5,J,Y,if_pos (by decide),zgy J];rfl
 clear X h U V Z
 go_enter Tryz.func176,Tryz.ntmps176
 go_wp2_with fail
 refine (zbO C D n j z o q 1 zU _ Q.out).mono ?_
 rintro e I ⟨rfl,A⟩
 rw[J]
 have O:Hid (IM C D n j z o q I):=Q.out.later A
 have K:Hid (IS z S w o I):=(H0.out.trans (IS.below A))
 have E:IS z o wc o I:=IS.below A
 clear A
 have H:Hid (Fr 102 4 I b0 r l.length (l.flatMap (fun e=>epL (zA e))) o):=HF.out.step Q.out (by decide) E
 clear E
 go_wp2_with fail
 refine (zjK b0 g r l _ H.out.1 hl HG.out).mono ?_
 rintro e M ⟨rfl,A⟩
 rw[Y]
 have aa:Hid (Fr 102 4 M b0 r l.length (l.flatMap (fun e=>epL (zA e))) o):=H.out.later A
 have L:Hid (IM C D n j z o q M):=O.out.later A
 have N:Hid (IS z S w o M):=(K.out.trans (IS.below A))
 clear A
 go_wp2_with fail
 refine (zea C D n j z o q zU _ L.out).mono ?_
 rw[zgy J]
 rintro e w3 ⟨rfl,A⟩
 have HB:Hid (Below j w w3):=(HH.out.back N.out).trans A
 have HX:Hid (za5 C l q= .error (zr C q.pos)):=HY.out
 unfold Pan
 go_wp2
 refine⟨rfl,?_⟩
 rw[HX.out]
 exact⟨rfl,HB.out⟩
theorem zpZ (C:Cx) (I o n z b0 g:Nat) (r:Rw) (S X:Sv) (q0 q:PS) (l:List Ep) (w wc:World) (hh:IM C I o n z S q0 w) (h:IM C I o n z X q wc) (h0:IS z S w X wc) (hC:zbf C) (hl:l.length≤4000) (hf:Fr 102 4 wc b0 r l.length (l.flatMap (fun e=>epL (zA e))) X) (hg:r.a=some ⟨g,0,none⟩) (ak:w.heap.size≤g) (hi:isT C q.pos 1 zU=true):
  Calls Tryz.prog 176 #[.pointer (some ⟨z,0,none⟩),.slice (some ⟨g,0,none⟩) l.length r.cap] wc (zQ C I o n z (za5 C l q) id (fun _=>.tuple #[]) S w):=by
 have HH:=zc hh
 have HC:=zc h
 have H0:=zc h0
 have HF:=zc hf
 have HG:=zc hg
 have af:=zc ak
 have HY:Hid (za5 C l q=bd (zd C 1 zU q) fun a=>bd (zH C a) fun b=>bd (zd C 4 cSemi b.1) fun c=>zP (fun e=>zo C (zai b.2 e)) l (.ok c)):=by show _=_;rw[za5,hi];rfl
 clear hh h h0 hf hg ak
 go_enter Tryz.func176,Tryz.ntmps176
 go_wp2_with fail
 refine (zbO C I o n z X q 1 zU _ HC.out).mono ?_
 rintro e w1 ⟨rfl,M⟩
 rw[hi]
 have ax:Hid (IM C I o n z X q w1):=HC.out.later M
 have ah:Hid (IS z S w X w1):=(H0.out.trans (IS.below M))
 have ai:IS z X wc X w1:=IS.below M
 clear M
 have aD:Hid (Fr 102 4 w1 b0 r l.length (l.flatMap (fun e=>epL (zA e))) X):=HF.out.step HC.out (by decide) ai
 clear ai
 go_wp2_with fail
 refine (zea C I o n z X q zU _ ax.out).mono ?_
 cases aj:zd C 1 zU q with
 |error p=>
  rintro e w2 ⟨rfl,M⟩
  have HB:Hid (Below n w w2):=(HH.out.back ah.out).trans M
  have Y:Hid (za5 C l q= .error p):=bdE HY.out aj
  unfold Pan
  go_wp2
  refine⟨rfl,?_⟩
  rw[Y.out]
  exact⟨rfl,HB.out⟩
 |ok a2=>
  rintro e w2 ⟨rfl,S2,m,s⟩
  have aK:Hid (Fr 102 4 w2 b0 r l.length (l.flatMap (fun e=>epL (zA e))) S2):=aD.out.step ax.out (by decide) s
  have aw:=zc m
  have ar:Hid (IS z S w S2 w2):=ah.out.trans s
  clear m s
  have az:=zc (bdO HY.out aj)
  go_wp2_with fail
  refine (zf3 C I o n z S2 a2 _ aw.out hC).mono ?_
  cases ao:zH C a2 with
  |error p=>
   rintro e w3 ⟨rfl,M⟩
   have HB:Hid (Below n w w3):=(HH.out.back ar.out).trans M
   have Y:Hid (za5 C l q= .error p):=bdE az.out ao
   unfold Pan
   go_wp2
   refine⟨rfl,?_⟩
   rw[Y.out]
   exact⟨rfl,HB.out⟩
  |ok A=>
   rintro e w3 ⟨rfl,N,m,s⟩
   have aa:Hid (Fr 102 4 w3 b0 r l.length (l.flatMap (fun e=>epL (zA e))) N):=aK.out.step aw.out (by decide) s
   have ae:=zc m
   have aG:Hid (IS z S w N w3):=ar.out.trans s
   clear m s
   have au:=zc (bdO az.out ao)
   have ac:Hid (Fr 102 4 w3 b0 r l.length ((mxE A.2 l 0).flatMap epL) N):=by show Fr _ _ _ _ _ _ _ _;rw[zpS,zjL];exact aa.out
   have ad:g≠z:=aa.out.ngp ae.out (by decide) (by rw[Rw.blk,HG.out];rfl)
   have an:g≠I:=aa.out.ngt ae.out (by decide) (by rw[Rw.blk,HG.out];rfl)
   have Q:Hid (¬N.has g):=aa.out.2 g (by rw[Rw.blk,HG.out];rfl)
   have av:=zc ad
   have al:=zc an
   clear ad an
   go_wp2
   go_loopg [22] l.length (fun k i wr=>∃(j:Nat),i= .int .i64 j∧j+k=l.length∧IM C I o n z N A.1 wr∧IS z S w N wr∧Fr 102 4 wr b0 r l.length ((mxE A.2 l j).flatMap epL) N)
   case atStart=>exact⟨0,rfl,by omega,ae.out,aG.out,ac.out⟩
   case round=>
    obtain⟨j,rfl,hj,m',s',f'⟩:=hrel
    have E:Hid (IM C I o n z N A.1 wr):=m'
    have H:Hid (IS z S w N wr):=s'
    have K:Hid (Fr 102 4 wr b0 r l.length ((mxE A.2 l j).flatMap epL) N):=f'
    clear m' s' f'
    by_cases Z:j<l.length
    ·have U:(j:Int)<(l.length:Int):=by omega
     obtain⟨x,hx⟩:=zfd Z
     have Y:=zc hx
     have L:=K.out.1
     have ho:OwnR wr b0 102 4 r (mxE A.2 l j).length ((mxE A.2 l j).flatMap epL):=by rw[zjI];exact L
     obtain⟨g',O,D⟩:=OwnR.elem (f:=epL) (m:=4) (fun _=>rfl) ho (zjJ hx)
     have eg:g'=g:=by have:=O.symm.trans HG.out;simpa using this
     subst eg
     have k0:=D 0 (by omega)
     have k3:=D 3 (by omega)
     simp only[epL,zA,Nat.add_zero,List.getElem?_cons_zero,List.getElem?_cons_succ] at k0 k3
     unfold OwnR at L
     rw[HG.out] at L
     have aP:=L.frozenAt
     have aJ:=zc L
     clear D O hx L ho
     obtain⟨V,J⟩: ∃V,V=j+1:=⟨_,rfl⟩
     have ej:(j:Int)+1=(V:Int):=by omega
     have HJ:=zc J
     clear J
     go_wp2
     go_roundg (gk-1)
     case rel=>
      refine⟨V,rfl,by have:=HJ.out;omega,(E.out.set av.out al.out Q.out _ _).set av.out al.out Q.out _ _,(H.out.new af.out _ _).new af.out _ _,?_,K.out.2⟩
      have aI:=(aJ.out.stored (j*4+0) (.int .i64 2)).1
      have ap:=(aI.stored (j*4+3) (.string A.2)).1
      rw[zjH epL 4 (fun _=>rfl) _ j 0 (zA x) ⟨2,x.name,x.loc,sNone⟩ (.int .i64 2) (zjJ Y.out) (by omega) rfl,zjH epL 4 (fun _=>rfl) ((mxE A.2 l j).set j ⟨2,x.name,x.loc,sNone⟩) j 3 ⟨2,x.name,x.loc,sNone⟩ (zai A.2 x) (.string A.2) (List.getElem?_set_self (by rw[zjI];exact Z)) (by omega) rfl,List.set_set,zpR Y.out,←HJ.out] at ap
      unfold OwnR
      rw[HG.out]
      exact ap
     case measure=>omega
    ·have U: ¬(j:Int)<(l.length:Int):=by omega
     have aB:j=l.length:=by omega
     subst aB
     have aE:Hid (Fr 102 4 wr b0 r l.length (l.flatMap fun e=>epL (zai A.2 e)) N):=by show Fr _ _ _ _ _ _ _ _;rw[←zjL,←zpT A.2 l];exact K.out
     go_wp2_with fail
     refine (zbX C I o n z N A.1 59 _ E.out).mono ?_
     cases ab:zd C 4 cSemi A.1 with
     |error p=>
      rintro e w4 ⟨rfl,M⟩
      have HB:Hid (Below n w w4):=(HH.out.back H.out).trans M
      have Y:Hid (za5 C l q= .error p):=bdE au.out ab
      unfold Pan
      go_wp2
      refine⟨rfl,?_⟩
      rw[Y.out]
      exact⟨rfl,HB.out⟩
     |ok a4=>
      rintro e w4 ⟨rfl,S4,m,s⟩
      have ac:Hid (Fr 102 4 w4 b0 r l.length (l.flatMap fun e=>epL (zai A.2 e)) S4):=aE.out.step E.out (by decide) s
      have aC:=zc m
      have aL:Hid (IS z S w S4 w4):=H.out.trans s
      clear m s
      have aN:=zc (bdO au.out ab)
      have ag:0<a4.pos:=by rw[(zb4 ab).1];exact Nat.succ_pos _
      go_wp2
      go_loopg [39] l.length (fun k i wr=>∃(j:Nat) (S':Sv) (q':PS),i= .int .i64 j∧j+k=l.length∧za5 C l q=zP (fun e=>zo C (zai A.2 e)) (l.drop j) (.ok q')∧0<q'.pos∧IM C I o n z S' q' wr∧IS z S w S' wr∧Fr 102 4 wr b0 r l.length (l.flatMap fun e=>epL (zai A.2 e)) S')
      case atStart=>exact⟨0,S4,a4,rfl,by omega,aN.out,ag,aC.out,aL.out,ac.out⟩
      case round=>
       obtain⟨j,S',q',rfl,hj,hy,aq,m',s',f'⟩:=hrel
       have am:=zc hy
       have E:Hid (IM C I o n z S' q' wr):=m'
       have H:Hid (IS z S w S' wr):=s'
       have K:Hid (Fr 102 4 wr b0 r l.length (l.flatMap fun e=>epL (zai A.2 e)) S'):=f'
       clear hy m' s' f'
       by_cases Z:j<l.length
       ·have U:(j:Int)<(l.length:Int):=by omega
        obtain⟨x,hx⟩:=zfd Z
        obtain⟨g',O,D⟩:=OwnR.elem (f:=fun e=>epL (zai A.2 e)) (m:=4) (fun _=>rfl) K.out.1 hx
        have eg:g'=g:=by have:=O.symm.trans HG.out;simpa using this
        subst eg
        have k0:=D 0 (by omega)
        have k1:=D 1 (by omega)
        have k2:=D 2 (by omega)
        have k3:=D 3 (by omega)
        simp only[epL,zai,Nat.add_zero,List.getElem?_cons_zero,List.getElem?_cons_succ] at k0 k1 k2 k3
        have HZ:=zc (am.out.trans (zhg (fun e=>zo C (zai A.2 e)) hx q'))
        clear D O hx
        obtain⟨V,J⟩: ∃V,V=j+1:=⟨_,rfl⟩
        have ej:(j:Int)+1=(V:Int):=by omega
        rw[←J] at HZ
        have ad:=E.out.lt
        have HJ:=zc J
        clear J
        go_wp2_with fail
        refine (zeJ C I o n z S' q' (zai A.2 x) _ (E.out.alloc _) aq).mono ?_
        cases hn:zo C (zai A.2 x) q' with
        |error p=>
         rintro e wy ⟨rfl,M⟩
         have HB:Hid (Below n w wy):=(HH.out.back (H.out.alloc _)).trans M
         have Y:Hid (za5 C l q= .error p):=by show _=_;rw[HZ.out,hn];exact zfL _ _ _
         unfold Pan
         go_wp2
         refine⟨rfl,?_⟩
         rw[Y.out]
         exact⟨rfl,HB.out⟩
        |ok ay=>
         rintro e wy ⟨rfl,Sy,m,s⟩
         have aH:=zc m
         have aA:Hid (IS z S w Sy wy):=(H.out.alloc _).trans s
         have aO:Hid (Fr 102 4 wy b0 r l.length (l.flatMap fun e=>epL (zai A.2 e)) Sy):=(K.out.later ((Below.refl _ _).alloc (Nat.le_refl _) _)).step (E.out.alloc _) (by decide) s
         have aF:Hid (za5 C l q=zP (fun e=>zo C (zai A.2 e)) (l.drop V) (.ok ay)):=by show _=_;rw[HZ.out,hn]
         have aM:Hid (0<ay.pos):=by show 0<ay.pos;rw[zjF hn];exact aq
         clear m s
         go_wp2
         go_roundg (gk-1)
         case rel=>exact⟨V,Sy,ay,rfl,by have:=HJ.out;omega,aF.out,aM.out,aH.out,aA.out,aO.out⟩
         case measure=>omega
       ·have U: ¬(j:Int)<(l.length:Int):=by omega
        have HZ:Hid (za5 C l q= .ok q'):=by show _=_;rw[am.out,List.drop_eq_nil_of_le (by omega)];rfl
        go_wp2
        go_end0
        rw[HZ.out]
        exact⟨rfl,S',E.out,H.out⟩
theorem zqa (C:Cx) (A n j o b0:Nat) (r:Rw) (S z:Sv) (H q:PS) (l:List Ep) (w wc:World) (J:IM C A n j o S H w) (h:IM C A n j o z q wc) (K:IS o S w z wc) (U:zbf C) (N:l.length≤4000) (O:l.length≠0) (E:Fr 102 4 wc b0 r l.length (l.flatMap (fun e=>epL (zA e))) z) (L:w.heap.size≤b0):
  Calls Tryz.prog 176 #[.pointer (some ⟨o,0,none⟩),.slice r.a l.length r.cap] wc (zQ C A n j o (za5 C l q) id (fun _=>.tuple #[]) S w):=by
 rcases E.1.nil_or with ⟨_,_,e⟩|⟨g,D⟩
 ·exact absurd e O
 ·have I:w.heap.size≤g:=Nat.le_trans L (E.1.typed (show r.blk=some g by rw[Rw.blk,D];rfl)).1
  rw[D]
  cases M:isT C q.pos 1 zU with
  |true=>exact zpZ C A n j o b0 g r S z H q l w wc J h K U N E D I M
  |false=>
   cases Q:za8 l with
   |true=>exact zpY C A n j o b0 g r S z H q l w wc J h K N E D M Q
   |false=>exact zpX C A n j o b0 g r S z H q l w wc J h K N E D M Q
theorem zqb {C:Cx} {k:Int} {n:ByteArray} {q b:PS} (h:zV C k n q= .ok b):b={q with st:=q.st++[⟨k,n,(q.ex.length:Int)-1⟩]}:=by
 unfold zV at h
 split at h
 ·cases h
 ·cases h
  rfl
theorem zhi {C:Cx} {k:Int} {n s:ByteArray} {q b:PS} (h:stmtI C k n s q= .ok b) (E:0<s.size):(∃l e,b.st=l++[⟨k,n,e⟩])∧0<b.pos:=by
 obtain⟨a,H,z⟩:=zf h
 obtain⟨c,A,o⟩:=zf z
 have j:=zih _ A
 have D:=zqb o
 subst D
 refine⟨⟨_,_,rfl⟩,?_⟩
 rw[j]
 show 0<a.pos+s.size
 omega
theorem zqc {C:Cx} {k:Int} {q b:PS} (h:letJ C k q= .ok b):(∃l e,b.st=l++[⟨k,(ze C q.pos).text,e⟩])∧0<b.pos:=by
 obtain⟨a,o,n⟩:=zf h
 obtain⟨c,z,j⟩:=zf n
 have:=zhi j (by decide)
 rw[(zbd o).1] at this
 exact this
theorem zqd {C:Cx} {q b:PS} (h:fnI C q= .ok b):(∃l e,b.st=l++[⟨2,(ze C q.pos).text,e⟩])∧0<b.pos:=by
 obtain⟨a,z,n⟩:=zf h
 obtain⟨c,D,j⟩:=zf n
 obtain⟨d,A,o⟩:=zf j
 have:=zhi o (by decide)
 rw[(zbd z).1] at this
 exact this
theorem zjM (C:Cx) (D o j z:Nat) (S:Sv) (q:PS) (l:List Sm) (k e:Int) (n:ByteArray) (w:World) (h:IM C D o j z S q w) (E:q.st=l++[⟨k,n,e⟩]) (A:n.size≤281474976710656) (H:0<q.pos):
  Calls Tryz.prog 179 #[.pointer (some ⟨z,0,none⟩)] w (zQ C D o j z (zo C ⟨1,n,n,sNone⟩ q) id (fun _=>.tuple #[]) S w):=zmu C D o j z S q l ⟨k,n,e⟩ w h E A H
def zaq (C:Cx) (q:PS):PR:=
 if isT C q.pos 4 zJ then bd (zax C true (adv q) []) fun a=>za5 C a.2 a.1
 else if isT C q.pos 4 zw then bd (zd C 1 zU (adv q)) fun a=>bd (zH C a) fun b=>bd (zd C 4 cSemi b.1) fun c=>zo C ⟨3,sNone,sNone,b.2⟩ c
 else if isT C q.pos 1 sDefault then bd (stmtI C 1 zbN cSemi (adv q)) fun a=>zo C ⟨1,sDefault,zbN,sNone⟩ a
 else if isT C q.pos 1 zC then bd (letJ C 1 (adv q)) fun a=>zo C ⟨1,(ze C (q.pos+1)).text,(ze C (q.pos+1)).text,sNone⟩ a
 else if isT C q.pos 1 zT then bd (fnI C (adv q)) fun a=>zo C ⟨1,(ze C (q.pos+1)).text,(ze C (q.pos+1)).text,sNone⟩ a
 else .error (zr C q.pos)
theorem zqe (C:Cx) (I n j z:Nat) (S:Sv) (q:PS) (w:World) (h:IM C I n j z S q w) (hC:zbf C) (h1:isT C q.pos 4 zJ=true):
  Calls Tryz.prog 150 #[.pointer (some ⟨z,0,none⟩)] w (zQ C I n j z (zaq C q) id (fun _=>.tuple #[]) S w):=by
 have Y:=zc h
 have Z:Hid (zaq C q=bd (zax C true (adv q) []) fun a=>za5 C a.2 a.1):=by show _=_;rw[zaq,h1];rfl
 clear h
 go_enter Tryz.func150,Tryz.ntmps150
 go_wp2_with fail
 refine (zK C I n j z S q 4 zJ _ Y.out (by decide)).mono ?_
 rintro e w1 ⟨rfl,m,s⟩
 rw[h1] at m ⊢
 have M:=zc m
 have o:=zc s
 clear m s
 go_wp2_with fail
 refine (zpQ C I n j z S (adv q) _ M.out).mono ?_
 cases E:zax C true (adv q) [] with
 |error p=>
  rintro e Q ⟨rfl,V⟩
  have K:Hid (Below j w Q):=(Y.out.back o.out).trans V
  have D:Hid (zaq C q= .error p):=bdE Z.out E
  unfold Pan
  go_wp2
  refine⟨rfl,?_⟩
  rw[D.out]
  exact⟨rfl,K.out⟩
 |ok J=>
  rintro e Q ⟨r,S3,rfl,m,s,f,l0,l1⟩
  have X:=zc m
  have N:Hid (IS z S w S3 Q):=o.out.trans s
  have L:=zc f
  clear m s f
  have H:=zc (bdO Z.out E)
  go_wp2_with fail
  refine (zqa C I n j z _ r S S3 q J.1 J.2 w _ Y.out X.out N.out hC l1 (by omega) L.out o.out.size).mono ?_
  cases A:za5 C J.2 J.1 with
  |error p=>
   rintro e w4 ⟨rfl,V⟩
   have K:=zc V
   have D:=zc (H.out.trans A)
   unfold Pan
   go_wp2
   refine⟨rfl,?_⟩
   rw[D.out]
   exact⟨rfl,K.out⟩
  |ok a4=>
   rintro e w4 ⟨rfl,S4,m,s⟩
   have O:=zc m
   have U:=zc s
   clear m s
   have D:=zc (H.out.trans A)
   go_wp2
   go_end0
   rw[D.out]
   exact⟨rfl,S4,O.out,U.out⟩
theorem zqf (C:Cx) (z n j o:Nat) (S:Sv) (q:PS) (w:World) (h:IM C z n j o S q w) (hC:zbf C) (h1:isT C q.pos 4 zJ=false) (h2:isT C q.pos 4 zw=true):
  Calls Tryz.prog 150 #[.pointer (some ⟨o,0,none⟩)] w (zQ C z n j o (zaq C q) id (fun _=>.tuple #[]) S w):=by
 have M:=zc h
 have HY:Hid (zaq C q=bd (zd C 1 zU (adv q)) fun a=>bd (zH C a) fun b=>bd (zd C 4 cSemi b.1) fun c=>zo C ⟨3,sNone,sNone,b.2⟩ c):=by show _=_;rw[zaq,h1,h2];rfl
 clear h
 go_enter Tryz.func150,Tryz.ntmps150
 go_wp2_with fail
 refine (zK C z n j o S q 4 zJ _ M.out (by decide)).mono ?_
 rintro e w1 ⟨rfl,m,s⟩
 rw[h1] at m ⊢
 have ac:=zc m
 have aa:=zc s
 clear m s
 go_wp2_with fail
 refine (zK C z n j o S q 4 zw _ ac.out (by decide)).mono ?_
 rintro e w2 ⟨rfl,m,s⟩
 rw[h2] at m ⊢
 have ab:=zc m
 have L:Hid (IS o S w S w2):=aa.out.trans s
 clear m s
 go_wp2_with fail
 refine (zea C z n j o S (adv q) zU _ ab.out).mono ?_
 cases Q:zd C 1 zU (adv q) with
 |error p=>
  rintro e w3 ⟨rfl,H⟩
  have A:Hid (Below j w w3):=(M.out.back L.out).trans H
  have D:Hid (zaq C q= .error p):=bdE HY.out Q
  unfold Pan
  go_wp2
  refine⟨rfl,?_⟩
  rw[D.out]
  exact⟨rfl,A.out⟩
 |ok a3=>
  rintro e w3 ⟨rfl,S3,m,s⟩
  have ah:=zc m
  have O:Hid (IS o S w S3 w3):=L.out.trans s
  clear m s
  have U:=zc (bdO HY.out Q)
  go_wp2_with fail
  refine (zf3 C z n j o S3 a3 _ ah.out hC).mono ?_
  cases K:zH C a3 with
  |error p=>
   rintro e w4 ⟨rfl,H⟩
   have A:Hid (Below j w w4):=(M.out.back O.out).trans H
   have D:Hid (zaq C q= .error p):=bdE U.out K
   unfold Pan
   go_wp2
   refine⟨rfl,?_⟩
   rw[D.out]
   exact⟨rfl,A.out⟩
  |ok Z=>
   rintro e w4 ⟨rfl,S4,m,s⟩
   have ad:=zc m
   have X:Hid (IS o S w S4 w4):=O.out.trans s
   clear m s
   have I:=zc (bdO U.out K)
   go_wp2_with fail
   refine (zbX C z n j o S4 Z.1 59 _ ad.out).mono ?_
   cases E:zd C 4 cSemi Z.1 with
   |error p=>
    rintro e w5 ⟨rfl,H⟩
    have A:Hid (Below j w w5):=(M.out.back X.out).trans H
    have D:Hid (zaq C q= .error p):=bdE I.out E
    unfold Pan
    go_wp2
    refine⟨rfl,?_⟩
    rw[D.out]
    exact⟨rfl,A.out⟩
   |ok a5=>
    rintro e w5 ⟨rfl,S5,m,s⟩
    have ae:=zc m
    have Y:Hid (IS o S w S5 w5):=X.out.trans s
    clear m s
    have V:=zc (bdO I.out E)
    have J:0<a5.pos:=by rw[(zb4 E).1];exact Nat.succ_pos _
    go_wp2_with fail
    refine (zeJ C z n j o S5 a5 ⟨3,sNone,sNone,Z.2⟩ _ ae.out J).mono ?_
    cases N:zo C ⟨3,sNone,sNone,Z.2⟩ a5 with
    |error p=>
     rintro e w6 ⟨rfl,H⟩
     have A:Hid (Below j w w6):=(M.out.back Y.out).trans H
     have D:Hid (zaq C q= .error p):=V.out.trans N
     unfold Pan
     go_wp2
     refine⟨rfl,?_⟩
     rw[D.out]
     exact⟨rfl,A.out⟩
    |ok a6=>
     rintro e w6 ⟨rfl,S6,m,s⟩
     have ai:=zc m
     have ag:Hid (IS o S w S6 w6):=Y.out.trans s
     clear m s
     have af:=zc (V.out.trans N)
     go_wp2
     go_end0
     rw[af.out]
     exact⟨rfl,S6,ai.out,ag.out⟩
theorem zqg (C:Cx) (A n j o:Nat) (S:Sv) (q:PS) (w:World) (h:IM C A n j o S q w) (h1:isT C q.pos 4 zJ=false) (h2:isT C q.pos 4 zw=false) (h3:isT C q.pos 1 sDefault=true):
  Calls Tryz.prog 150 #[.pointer (some ⟨o,0,none⟩)] w (zQ C A n j o (zaq C q) id (fun _=>.tuple #[]) S w):=by
 have HH:=zc h
 have HY:Hid (zaq C q=bd (stmtI C 1 zbN cSemi (adv q)) fun a=>zo C ⟨1,sDefault,zbN,sNone⟩ a):=by show _=_;rw[zaq,h1,h2,h3];rfl
 clear h
 go_enter Tryz.func150,Tryz.ntmps150
 go_wp2_with fail
 refine (zK C A n j o S q 4 zJ _ HH.out (by decide)).mono ?_
 rintro e w1 ⟨rfl,m,s⟩
 rw[h1] at m ⊢
 have Q:=zc m
 have L:=zc s
 clear m s
 go_wp2_with fail
 refine (zK C A n j o S q 4 zw _ Q.out (by decide)).mono ?_
 rintro e w2 ⟨rfl,m,s⟩
 rw[h2] at m ⊢
 have M:=zc m
 have N:Hid (IS o S w S w2):=L.out.trans s
 clear m s
 go_wp2_with fail
 refine (zK C A n j o S q 1 sDefault _ M.out (by decide)).mono ?_
 rintro e w3 ⟨rfl,m,s⟩
 rw[h3] at m ⊢
 have ab:=zc m
 have H:Hid (IS o S w S w3):=N.out.trans s
 clear m s
 go_wp2_with fail
 refine (zd8 C A n j o S (adv q) 1 zbN cSemi _ ab.out (by decide) (by decide)).mono ?_
 cases z:stmtI C 1 zbN cSemi (adv q) with
 |error p=>
  rintro e V ⟨rfl,Z⟩
  have K:Hid (Below j w V):=(HH.out.back H.out).trans Z
  have O:Hid (zaq C q= .error p):=bdE HY.out z
  unfold Pan
  go_wp2
  refine⟨rfl,?_⟩
  rw[O.out]
  exact⟨rfl,K.out⟩
 |ok a4=>
  rintro e V ⟨rfl,S4,m,s⟩
  have U:=zc m
  have I:Hid (IS o S w S4 V):=H.out.trans s
  clear m s
  have D:=zc (bdO HY.out z)
  have E:=(zhi z (by decide)).2
  go_wp2_with fail
  refine (zeJ C A n j o S4 a4 ⟨1,sDefault,zbN,sNone⟩ _ U.out E).mono ?_
  cases J:zo C ⟨1,sDefault,zbN,sNone⟩ a4 with
  |error p=>
   rintro e Y ⟨rfl,Z⟩
   have K:Hid (Below j w Y):=(HH.out.back I.out).trans Z
   have O:Hid (zaq C q= .error p):=D.out.trans J
   unfold Pan
   go_wp2
   refine⟨rfl,?_⟩
   rw[O.out]
   exact⟨rfl,K.out⟩
  |ok a5=>
   rintro e Y ⟨rfl,S5,m,s⟩
   have aa:=zc m
   have ac:Hid (IS o S w S5 Y):=I.out.trans s
   clear m s
   have X:=zc (D.out.trans J)
   go_wp2
   go_end0
   rw[X.out]
   exact⟨rfl,S5,aa.out,ac.out⟩
theorem zqh (C:Cx) (z n j o:Nat) (S:Sv) (q:PS) (w:World) (h:IM C z n j o S q w) (hC:zbf C) (h1:isT C q.pos 4 zJ=false) (h2:isT C q.pos 4 zw=false) (h3:isT C q.pos 1 sDefault=false) (h4:isT C q.pos 1 zC=true):
  Calls Tryz.prog 150 #[.pointer (some ⟨o,0,none⟩)] w (zQ C z n j o (zaq C q) id (fun _=>.tuple #[]) S w):=by
 have V:=zc h
 have HY:Hid (zaq C q=bd (letJ C 1 (adv q)) fun a=>zo C ⟨1,(ze C (q.pos+1)).text,(ze C (q.pos+1)).text,sNone⟩ a):=by show _=_;rw[zaq,h1,h2,h3,h4];rfl
 clear h
 go_enter Tryz.func150,Tryz.ntmps150
 go_wp2_with fail
 refine (zK C z n j o S q 4 zJ _ V.out (by decide)).mono ?_
 rintro e w1 ⟨rfl,m,s⟩
 rw[h1] at m ⊢
 have U:=zc m
 have M:=zc s
 clear m s
 go_wp2_with fail
 refine (zK C z n j o S q 4 zw _ U.out (by decide)).mono ?_
 rintro e w2 ⟨rfl,m,s⟩
 rw[h2] at m ⊢
 have N:=zc m
 have O:Hid (IS o S w S w2):=M.out.trans s
 clear m s
 go_wp2_with fail
 refine (zK C z n j o S q 1 sDefault _ N.out (by decide)).mono ?_
 rintro e w3 ⟨rfl,m,s⟩
 rw[h3] at m ⊢
 have ae:=zc m
 have X:Hid (IS o S w S w3):=O.out.trans s
 clear m s
 go_wp2_with fail
 refine (zK C z n j o S q 1 zC _ ae.out (by decide)).mono ?_
 rintro e w4 ⟨rfl,m,s⟩
 rw[h4] at m ⊢
 have Y:=zc m
 have J:Hid (IS o S w S w4):=X.out.trans s
 clear m s
 go_wp2_with fail
 refine (zg7 C z n j o S (adv q) _ Y.out).mono ?_
 cases A:letJ C 1 (adv q) with
 |error p=>
  rintro e w5 ⟨rfl,hb⟩
  have L:Hid (Below j w w5):=(V.out.back J.out).trans hb
  have Q:Hid (zaq C q= .error p):=bdE HY.out A
  unfold Pan
  go_wp2
  refine⟨rfl,?_⟩
  rw[Q.out]
  exact⟨rfl,L.out⟩
 |ok a5=>
  rintro e w5 ⟨rfl,S5,m,s⟩
  have ab:=zc m
  have K:Hid (IS o S w S5 w5):=J.out.trans s
  clear m s
  have I:=zc (bdO HY.out A)
  obtain⟨⟨l,e,E⟩,D⟩:=zqc A
  have aa:=zc E
  clear E
  go_wp2_with fail
  refine (zjM C z n j o S5 a5 l _ _ (ze C (q.pos+1)).text _ ab.out aa.out (hC _) D).mono ?_
  cases H:zo C ⟨1,(ze C (q.pos+1)).text,(ze C (q.pos+1)).text,sNone⟩ a5 with
  |error p=>
   rintro e Z ⟨rfl,hb⟩
   have L:Hid (Below j w Z):=(V.out.back K.out).trans hb
   have Q:Hid (zaq C q= .error p):=I.out.trans H
   unfold Pan
   go_wp2
   refine⟨rfl,?_⟩
   rw[Q.out]
   exact⟨rfl,L.out⟩
  |ok a6=>
   rintro e Z ⟨rfl,S6,m,s⟩
   have af:=zc m
   have ad:Hid (IS o S w S6 Z):=K.out.trans s
   clear m s
   have ac:=zc (I.out.trans H)
   go_wp2
   go_end0
   rw[ac.out]
   exact⟨rfl,S6,af.out,ad.out⟩
theorem zqi (C:Cx) (z n j o:Nat) (S:Sv) (q:PS) (w:World) (h:IM C z n j o S q w) (hC:zbf C) (h1:isT C q.pos 4 zJ=false) (h2:isT C q.pos 4 zw=false) (h3:isT C q.pos 1 sDefault=false) (h4:isT C q.pos 1 zC=false) (h5:isT C q.pos 1 zT=true):
  Calls Tryz.prog 150 #[.pointer (some ⟨o,0,none⟩)] w (zQ C z n j o (zaq C q) id (fun _=>.tuple #[]) S w):=by
 have X:=zc h
 have HY:Hid (zaq C q=bd (fnI C (adv q)) fun a=>zo C ⟨1,(ze C (q.pos+1)).text,(ze C (q.pos+1)).text,sNone⟩ a):=by show _=_;rw[zaq,h1,h2,h3,h4,h5];rfl
 clear h
 go_enter Tryz.func150,Tryz.ntmps150
 go_wp2_with fail
 refine (zK C z n j o S q 4 zJ _ X.out (by decide)).mono ?_
 rintro e w1 ⟨rfl,m,s⟩
 rw[h1] at m ⊢
 have U:=zc m
 have M:=zc s
 clear m s
 go_wp2_with fail
 refine (zK C z n j o S q 4 zw _ U.out (by decide)).mono ?_
 rintro e w2 ⟨rfl,m,s⟩
 rw[h2] at m ⊢
 have N:=zc m
 have O:Hid (IS o S w S w2):=M.out.trans s
 clear m s
 go_wp2_with fail
 refine (zK C z n j o S q 1 sDefault _ N.out (by decide)).mono ?_
 rintro e w3 ⟨rfl,m,s⟩
 rw[h3] at m ⊢
 have af:=zc m
 have Z:Hid (IS o S w S w3):=O.out.trans s
 clear m s
 go_wp2_with fail
 refine (zK C z n j o S q 1 zC _ af.out (by decide)).mono ?_
 rintro e w4 ⟨rfl,m,s⟩
 rw[h4] at m ⊢
 have aa:=zc m
 have ac:Hid (IS o S w S w4):=Z.out.trans s
 clear m s
 go_wp2_with fail
 refine (zK C z n j o S q 1 zT _ aa.out (by decide)).mono ?_
 rintro e w5 ⟨rfl,m,s⟩
 rw[h5] at m ⊢
 have ae:=zc m
 have K:Hid (IS o S w S w5):=ac.out.trans s
 clear m s
 go_wp2_with fail
 refine (zg8 C z n j o S (adv q) _ ae.out).mono ?_
 cases A:fnI C (adv q) with
 |error p=>
  rintro e w6 ⟨rfl,hb⟩
  have L:Hid (Below j w w6):=(X.out.back K.out).trans hb
  have Q:Hid (zaq C q= .error p):=bdE HY.out A
  unfold Pan
  go_wp2
  refine⟨rfl,?_⟩
  rw[Q.out]
  exact⟨rfl,L.out⟩
 |ok a6=>
  rintro e w6 ⟨rfl,S6,m,s⟩
  have ag:=zc m
  have J:Hid (IS o S w S6 w6):=K.out.trans s
  clear m s
  have I:=zc (bdO HY.out A)
  obtain⟨⟨l,e,E⟩,D⟩:=zqd A
  have ab:=zc E
  clear E
  go_wp2_with fail
  refine (zjM C z n j o S6 a6 l _ _ (ze C (q.pos+1)).text _ ag.out ab.out (hC _) D).mono ?_
  cases H:zo C ⟨1,(ze C (q.pos+1)).text,(ze C (q.pos+1)).text,sNone⟩ a6 with
  |error p=>
   rintro e w7 ⟨rfl,hb⟩
   have L:Hid (Below j w w7):=(X.out.back J.out).trans hb
   have Q:Hid (zaq C q= .error p):=I.out.trans H
   unfold Pan
   go_wp2
   refine⟨rfl,?_⟩
   rw[Q.out]
   exact⟨rfl,L.out⟩
  |ok a7=>
   rintro e w7 ⟨rfl,S7,m,s⟩
   have ad:=zc m
   have V:Hid (IS o S w S7 w7):=J.out.trans s
   clear m s
   have Y:=zc (I.out.trans H)
   go_wp2
   go_end0
   rw[Y.out]
   exact⟨rfl,S7,ad.out,V.out⟩
theorem zqj (C:Cx) (z n j o:Nat) (S:Sv) (q:PS) (w:World) (h:IM C z n j o S q w) (Q:isT C q.pos 4 zJ=false) (Y:isT C q.pos 4 zw=false) (V:isT C q.pos 1 sDefault=false) (U:isT C q.pos 1 zC=false) (X:isT C q.pos 1 zT=false):
  Calls Tryz.prog 150 #[.pointer (some ⟨o,0,none⟩)] w (zQ C z n j o (zaq C q) id (fun _=>.tuple #[]) S w):=by
 have O:=zc h
 have HY:Hid (zaq C q= .error (zr C q.pos)):=by show _=_;rw[zaq,Q,Y,V,U,X];rfl
 clear h
 go_enter Tryz.func150,Tryz.ntmps150
 go_wp2_with fail
 refine (zK C z n j o S q 4 zJ _ O.out (by decide)).mono ?_
 rintro e w1 ⟨rfl,m,s⟩
 rw[Q] at m ⊢
 have I:=zc m
 have D:=zc s
 clear m s
 go_wp2_with fail
 refine (zK C z n j o S q 4 zw _ I.out (by decide)).mono ?_
 rintro e w2 ⟨rfl,m,s⟩
 rw[Y] at m ⊢
 have E:=zc m
 have H:Hid (IS o S w S w2):=D.out.trans s
 clear m s
 go_wp2_with fail
 refine (zK C z n j o S q 1 sDefault _ E.out (by decide)).mono ?_
 rintro e w3 ⟨rfl,m,s⟩
 rw[V] at m ⊢
 have M:=zc m
 have J:Hid (IS o S w S w3):=H.out.trans s
 clear m s
 go_wp2_with fail
 refine (zK C z n j o S q 1 zC _ M.out (by decide)).mono ?_
 rintro e w4 ⟨rfl,m,s⟩
 rw[U] at m ⊢
 have K:=zc m
 have L:Hid (IS o S w S w4):=J.out.trans s
 clear m s
 go_wp2_with fail
 refine (zK C z n j o S q 1 zT _ K.out (by decide)).mono ?_
 rintro e w5 ⟨rfl,m,s⟩
 rw[X] at m ⊢
 have A:=zc m
 have N:Hid (IS o S w S w5):=L.out.trans s
 clear m s
 go_wp2_with fail
 refine (zdZ C z n j o S q _ A.out).mono ?_
 rintro e wz ⟨rfl,hb⟩
 have Z:Hid (Below j w wz):=(O.out.back N.out).trans (hb.mono A.out.mem.base)
 have HX:Hid (zaq C q= .error (zr C q.pos)):=HY.out
 unfold Pan
 go_wp2
 refine⟨rfl,?_⟩
 rw[HX.out]
 exact⟨rfl,Z.out⟩
theorem zqk (C:Cx) (z n j o:Nat) (S:Sv) (q:PS) (w:World) (h:IM C z n j o S q w) (E:zbf C):
  Calls Tryz.prog 150 #[.pointer (some ⟨o,0,none⟩)] w (zQ C z n j o (zaq C q) id (fun _=>.tuple #[]) S w):=by
 cases A:isT C q.pos 4 zJ with
 |true=>exact zqe C z n j o S q w h E A
 |false=>
  cases D:isT C q.pos 4 zw with
  |true=>exact zqf C z n j o S q w h E A D
  |false=>
   cases H:isT C q.pos 1 sDefault with
   |true=>exact zqg C z n j o S q w h A D H
   |false=>
    cases I:isT C q.pos 1 zC with
    |true=>exact zqh C z n j o S q w h E A D H I
    |false=>
     cases J:isT C q.pos 1 zT with
     |true=>exact zqi C z n j o S q w h E A D H I J
     |false=>exact zqj C z n j o S q w h A D H I J
end Go.Proofs.YticdggnnpjachaaGreat
