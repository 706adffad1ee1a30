/-
  What ContainsFunc over Exps answers,and a row of Exps whose elements are written: the walks.
  What exportNames of impl's parser answers: the walks. (It writes into the row that it is handed: so what is told is told from a world on in which that row was not yet there.)
  What exportItem of impl's parser answers: the walks.
-/
import Derived.Laws.OwnMore
import Derived.Test.YticdggnnpjachaaGreatCbImplParseU
namespace Go.Proofs.YticdggnnpjachaaGreat
set_option maxRecDepth 100000
set_option maxHeartbeats 3200000
open Go.RowKit Go.PlainAid Go.Sort
theorem zjH {α:Type} (f:α→List Value) (m:Nat) (n: ∀x,(f x).length=m): ∀(l:List α) (j i:Nat) (x y:α) (v:Value),l[j]? =some x→i<m→f y=(f x).set i v→(l.flatMap f).set (j*m+i) v=(l.set j y).flatMap f:=by
 intro l
 induction l with
 |nil=>intro j i x y v h;simp at h
 |cons z l A=>
  intro j i x y v h q o
  match j with
  |0=>
   simp only[List.getElem?_cons_zero,Option.some.injEq] at h
   subst h
   rw[List.flatMap_cons,Nat.zero_mul,Nat.zero_add,List.set_append_left _ _ (by rw[n];exact q),List.set_cons_zero,List.flatMap_cons,o]
  |j+1=>
   simp only[List.getElem?_cons_succ] at h
   rw[List.flatMap_cons,List.set_append_right _ _ (by rw[n,Nat.succ_mul];omega),n,List.set_cons_succ,List.flatMap_cons,←A j i x y v h q o]
   congr 2
   rw[Nat.succ_mul]
   omega
def mxE (s:ByteArray) (l:List Ep) (j:Nat):List Ep:=(l.take j).map (zai s)++(l.drop j).map zA
theorem zjI (s:ByteArray) (l:List Ep) (j:Nat):(mxE s l j).length=l.length:=by simp[mxE];omega
theorem zjJ {s:ByteArray} {l:List Ep} {j:Nat} {x:Ep} (h:l[j]? =some x):(mxE s l j)[j]? =some (zA x):=by
 obtain⟨n,rfl⟩:=List.getElem?_eq_some_iff.1 h
 have o:((l.take j).map (zai s)).length=j:=by simp;omega
 rw[mxE,List.getElem?_append_right (by omega),o,Nat.sub_self,List.drop_eq_getElem_cons n]
 rfl
theorem zpR {s:ByteArray} {l:List Ep} {j:Nat} {x:Ep} (h:l[j]? =some x):(mxE s l j).set j (zai s x)=mxE s l (j+1):=by
 obtain⟨n,rfl⟩:=List.getElem?_eq_some_iff.1 h
 have o:((l.take j).map (zai s)).length=j:=by simp;omega
 rw[mxE,List.set_append_right _ _ (by omega),o,Nat.sub_self,List.drop_eq_getElem_cons n,List.map_cons,List.set_cons_zero,mxE,List.take_succ_eq_append_getElem n,List.map_append,List.append_assoc]
 rfl
theorem zpS (s:ByteArray) (l:List Ep):mxE s l 0=l.map zA:=by simp[mxE]
theorem zpT (s:ByteArray) (l:List Ep):mxE s l l.length=l.map (zai s):=by simp[mxE]
theorem zpU (x:Ep) (w:World):
  Calls Tryz.prog 198 #[epV x] w fun e j=>e= .returned (.bool (x.loc.toList==[100,101,102,97,117,108,116]))∧Below w.heap.size w j:=by
 unfold epV
 cases n:(x.loc.toList==[100,101,102,97,117,108,116]) with
 |true=>
  go_enter Tryz.func198,Tryz.ntmps198
  go_wp2
  go_ret
  exact⟨rfl,(Below.refl _ _).alloc (Nat.le_refl _) _⟩
 |false=>
  go_enter Tryz.func198,Tryz.ntmps198
  go_wp2
  go_ret
  exact⟨rfl,(Below.refl _ _).alloc (Nat.le_refl _) _⟩
theorem zpV {l:List Ep} {j:Nat} {x:Ep} (h:l[j]? =some x):za8 (l.drop j)=((x.loc.toList==[100,101,102,97,117,108,116])||za8 (l.drop (j+1))):=by
 obtain⟨n,rfl⟩:=List.getElem?_eq_some_iff.1 h
 rw[List.drop_eq_getElem_cons n]
 simp only[za8,List.any_cons]
theorem zpW (A g:Nat) (r:Rw) (l:List Ep) (w:World) (h:OwnR w A 102 4 r l.length (l.flatMap fun e=>epL (zA e))) (hl:l.length≤4000) (V:r.a=some ⟨g,0,none⟩):
  Calls Tryz.prog 205 #[.slice (some ⟨g,0,none⟩) l.length r.cap,.func (.func 198) #[] #[]] w fun e w'=>(∃v:Int,e= .returned (.int .i64 v)∧decide (0≤v)=za8 l)∧Below w.heap.size w w':=by
 have O:=zc h
 have L:=zc V
 clear h V
 go_enter Tryz.func205,Tryz.ntmps205
 go_wp2
 go_loopg [8] (l.length+1) (fun k i wr=>∃j:Nat,i= .int .i64 j∧j+k=l.length+1∧za8 (l.drop j)=za8 l∧Below w.heap.size w wr)
 case atStart=>exact⟨0,rfl,by omega,by simp,Below.refl _ _⟩
 case round=>
  obtain⟨j,rfl,hj,Y,Q⟩:=hrel
  have J:=zc Y
  have H:=zc Q
  clear Y Q
  by_cases K:j<l.length
  ·have D:(j:Int)<(l.length:Int):=by omega
   obtain⟨x,M⟩:=zfd K
   have N:=zc (O.out.keep fun k g=>H.out.block k (O.out.typed g).2.1)
   obtain⟨g',o,n⟩:=OwnR.elem (f:=fun e=>epL (zA e)) (m:=4) (fun _=>rfl) N.out M
   have eg:g'=g:=by have:=o.symm.trans L.out;simpa using this
   subst eg
   have k0:=n 0 (by omega)
   have k1:=n 1 (by omega)
   have k2:=n 2 (by omega)
   have k3:=n 3 (by omega)
   simp only[epL,zA,Nat.add_zero,List.getElem?_cons_zero,List.getElem?_cons_succ] at k0 k1 k2 k3
   have U:=zc (zpV M)
   clear n o M
   obtain⟨I,z⟩: ∃I,I=j+1:=⟨_,rfl⟩
   have ej:(j:Int)+1=(I:Int):=by omega
   have Z:=zc z
   clear z
   go_wp2_with fail
   refine (zpU (zA x) _).mono ?_
   rintro e w1 ⟨rfl,q⟩
   have E:Hid (Below w.heap.size w w1):=H.out.trans (q.mono H.out.size)
   clear q
   rw[show (zA x).loc=x.loc from rfl]
   cases X:(x.loc.toList==[100,101,102,97,117,108,116]) with
   |true=>
    go_wp2
    go_ret
    refine⟨⟨_,rfl,?_⟩,E.out⟩
    rw[←J.out,U.out,X]
    simp
   |false=>
    go_wp2
    go_roundg (gk-1)
    case rel=>
     refine⟨I,rfl,by have:=Z.out;omega,?_,E.out⟩
     rw[←J.out,U.out,X,Z.out]
     simp
    case measure=>omega
  ·have D: ¬(j:Int)<(l.length:Int):=by omega
   go_wp2
   go_ret
   refine⟨⟨_,rfl,?_⟩,H.out⟩
   rw[←J.out,List.drop_eq_nil_of_le (by omega)]
   rfl
theorem zjK (j g:Nat) (r:Rw) (l:List Ep) (w:World) (h:OwnR w j 102 4 r l.length (l.flatMap fun e=>epL (zA e))) (A:l.length≤4000) (o:r.a=some ⟨g,0,none⟩):
  Calls Tryz.prog 199 #[.slice (some ⟨g,0,none⟩) l.length r.cap,.func (.func 198) #[] #[]] w fun e D=>e= .returned (.bool (za8 l))∧Below w.heap.size w D:=by
 have E:=zc h
 have n:=zc o
 clear h o
 go_enter Tryz.func199,Tryz.ntmps199
 go_wp2_with fail
 refine (zpW j g r l _ E.out A n.out).mono ?_
 rintro e J ⟨⟨v,rfl,z⟩,q⟩
 have H:=zc z
 have I:=zc q
 clear z q
 go_wp2
 go_ret
 exact⟨zm H.out,I.out⟩
def za5 (C:Cx) (l:List Ep) (q:PS):PR:=
 if isT C q.pos 1 zU||za8 l then bd (zd C 1 zU q) fun a=>bd (zH C a) fun b=>bd (zd C 4 cSemi b.1) fun c=>zP (fun e=>zo C (zai b.2 e)) l (.ok c)
 else bd (zd C 4 cSemi q) fun c=>zP (fun e=>zo C (zA e)) l (.ok c)
theorem zjL (X:Ep→Ep) (l:List Ep):(l.map X).flatMap epL=l.flatMap fun e=>epL (X e):=by rw[List.flatMap_map]
theorem zpX (C:Cx) (H o n z b0 g:Nat) (r:Rw) (S D:Sv) (q0 q:PS) (l:List Ep) (w wc:World) (hh:IM C H o n z S q0 w) (h:IM C H o n z D q wc) (h0:IS z S w D wc) (hl:l.length≤4000) (hf:Fr 102 4 wc b0 r l.length (l.flatMap (fun e=>epL (zA e))) D) (hg:r.a=some ⟨g,0,none⟩) (hi:isT C q.pos 1 zU=false) (ha:za8 l=false):
  Calls Tryz.prog 176 #[.pointer (some ⟨z,0,none⟩),.slice (some ⟨g,0,none⟩) l.length r.cap] wc (zQ C H o n z (za5 C l q) id (fun _=>.tuple #[]) S w):=by
 have HH:=zc hh
 have HC:=zc h
 have H0:=zc h0
 have HF:=zc hf
 have HG:=zc hg
 have HY:Hid (za5 C l q=bd (zd C 4 cSemi q) fun c=>zP (fun e=>zo C (zA e)) l (.ok c)):=by show _=_;rw[za5,hi,ha];rfl
 clear hh h h0 hf hg
 go_enter Tryz.func176,Tryz.ntmps176
 go_wp2_with fail
 refine (zbO C H o n z D q 1 zU _ HC.out).mono ?_
 rintro e w1 ⟨rfl,A⟩
 rw[hi]
 have al:Hid (IM C H o n z D q w1):=HC.out.later A
 have am:Hid (IS z S w D w1):=(H0.out.trans (IS.below A))
 have V:IS z D wc D w1:=IS.below A
 clear A
 have Q:Hid (Fr 102 4 w1 b0 r l.length (l.flatMap (fun e=>epL (zA e))) D):=HF.out.step HC.out (by decide) V
 clear V
 go_wp2_with fail
 refine (zjK b0 g r l _ Q.out.1 hl HG.out).mono ?_
 rintro e w2 ⟨rfl,A⟩
 rw[ha]
 have aq:Hid (Fr 102 4 w2 b0 r l.length (l.flatMap (fun e=>epL (zA e))) D):=Q.out.later A
 have ac:Hid (IM C H o n z D q w2):=al.out.later A
 have U:Hid (IS z S w D w2):=(am.out.trans (IS.below A))
 clear A
 go_wp2_with fail
 refine (zbX C H o n z D q 59 _ ac.out).mono ?_
 cases M:zd C 4 cSemi q with
 |error p=>
  rintro e w3 ⟨rfl,A⟩
  have HB:Hid (Below n w w3):=(HH.out.back U.out).trans A
  have HX:Hid (za5 C l q= .error p):=bdE HY.out M
  unfold Pan
  go_wp2
  refine⟨rfl,?_⟩
  rw[HX.out]
  exact⟨rfl,HB.out⟩
 |ok a3=>
  rintro e w3 ⟨rfl,S3,m,s⟩
  have an:Hid (Fr 102 4 w3 b0 r l.length (l.flatMap (fun e=>epL (zA e))) S3):=aq.out.step ac.out (by decide) s
  have ae:=zc m
  have ao:Hid (IS z S w S3 w3):=U.out.trans s
  clear m s
  have ai:=zc (bdO HY.out M)
  have Y:0<a3.pos:=by rw[(zb4 M).1];exact Nat.succ_pos _
  go_wp2
  go_loopg [39] l.length (fun k i wr=>∃(j:Nat) (J:Sv) (K:PS),i= .int .i64 j∧j+k=l.length∧za5 C l q=zP (fun e=>zo C (zA e)) (l.drop j) (.ok K)∧0<K.pos∧IM C H o n z J K wr∧IS z S w J wr∧Fr 102 4 wr b0 r l.length (l.flatMap fun e=>epL (zA e)) J)
  case atStart=>exact⟨0,S3,a3,rfl,by omega,ai.out,Y,ae.out,ao.out,an.out⟩
  case round=>
   obtain⟨j,J,K,rfl,hj,hy,ad,m',s',f'⟩:=hrel
   have ab:=zc hy
   have I:Hid (IM C H o n z J K wr):=m'
   have L:Hid (IS z S w J wr):=s'
   have aa:Hid (Fr 102 4 wr b0 r l.length (l.flatMap fun e=>epL (zA e)) J):=f'
   clear hy m' s' f'
   by_cases af:j<l.length
   ·have Z:(j:Int)<(l.length:Int):=by omega
    obtain⟨x,hx⟩:=zfd af
    obtain⟨g',X,E⟩:=OwnR.elem (f:=fun e=>epL (zA e)) (m:=4) (fun _=>rfl) aa.out.1 hx
    have eg:g'=g:=by have:=X.symm.trans HG.out;simpa using this
    subst eg
    have k0:=E 0 (by omega)
    have k1:=E 1 (by omega)
    have k2:=E 2 (by omega)
    have k3:=E 3 (by omega)
    simp only[epL,zA,Nat.add_zero,List.getElem?_cons_zero,List.getElem?_cons_succ] at k0 k1 k2 k3
    have HZ:=zc (ab.out.trans (zhg (fun e=>zo C (zA e)) hx K))
    clear E X hx
    obtain⟨O,N⟩: ∃O,O=j+1:=⟨_,rfl⟩
    have ej:(j:Int)+1=(O:Int):=by omega
    rw[←N] at HZ
    have ar:=I.out.lt
    have HJ:=zc N
    clear N
    go_wp2_with fail
    refine (zeH C H o n z J K (zA x) _ (I.out.alloc _) ad).mono ?_
    cases hn:zo C (zA x) K with
    |error p=>
     rintro e wy ⟨rfl,A⟩
     have HB:Hid (Below n w wy):=(HH.out.back (L.out.alloc _)).trans A
     have HX:Hid (za5 C l q= .error p):=by show _=_;rw[HZ.out,hn];exact zfL _ _ _
     unfold Pan
     go_wp2
     refine⟨rfl,?_⟩
     rw[HX.out]
     exact⟨rfl,HB.out⟩
    |ok ay=>
     rintro e wy ⟨rfl,Sy,m,s⟩
     have ap:=zc m
     have ah:Hid (IS z S w Sy wy):=(L.out.alloc _).trans s
     have aj:Hid (Fr 102 4 wy b0 r l.length (l.flatMap fun e=>epL (zA e)) Sy):=(aa.out.later ((Below.refl _ _).alloc (Nat.le_refl _) _)).step (I.out.alloc _) (by decide) s
     have ak:Hid (za5 C l q=zP (fun e=>zo C (zA e)) (l.drop O) (.ok ay)):=by show _=_;rw[HZ.out,hn]
     have ag:Hid (0<ay.pos):=by show 0<ay.pos;rw[zjF hn];exact ad
     clear m s
     go_wp2
     go_roundg (gk-1)
     case rel=>exact⟨O,Sy,ay,rfl,by have:=HJ.out;omega,ak.out,ag.out,ap.out,ah.out,aj.out⟩
     case measure=>omega
   ·have Z: ¬(j:Int)<(l.length:Int):=by omega
    have HZ:Hid (za5 C l q= .ok K):=by show _=_;rw[ab.out,List.drop_eq_nil_of_le (by omega)];rfl
    go_wp2
    go_end0
    rw[HZ.out]
    exact⟨rfl,J,I.out,L.out⟩
theorem zpY (C:Cx) (D n j z b0 g:Nat) (r:Rw) (S o:Sv) (q0 q:PS) (l:List Ep) (w wc:World) (V:IM C D n j z S q0 w) (h:IM C D n j z o q wc) (Y:IS z S w o wc) (hl:l.length≤4000) (U:Fr 102 4 wc b0 r l.length (l.flatMap (fun e=>epL (zA e))) o) (X:r.a=some ⟨g,0,none⟩) (I:isT C q.pos 1 zU=false) (Z:za8 l=true):
  Calls Tryz.prog 176 #[.pointer (some ⟨z,0,none⟩),.slice (some ⟨g,0,none⟩) l.length r.cap] wc (zQ C D n j z (za5 C l q) id (fun _=>.tuple #[]) S w):=by
 have HH:=zc V
 have O:=zc h
 have H0:=zc Y
 have HF:=zc U
 have HG:=zc X
 have HY:Hid (za5 C l q= .error (zr C q.pos)):=by show _=_;rw[za5,I,Z,if_pos (by decide),zgw I];rfl
 clear V h Y U X
 go_enter Tryz.func176,Tryz.ntmps176
 go_wp2_with fail
 refine (zbO C D n j z o q 1 zU _ O.out).mono ?_
 rintro e J ⟨rfl,A⟩
 rw[I]
 have N:Hid (IM C D n j z o q J):=O.out.later A
 have Q:Hid (IS z S w o J):=(H0.out.trans (IS.below A))
 have H:IS z o wc o J:=IS.below A
 clear A
 have E:Hid (Fr 102 4 J b0 r l.length (l.flatMap (fun e=>epL (zA e))) o):=HF.out.step O.out (by decide) H
 clear H
 go_wp2_with fail
 refine (zjK b0 g r l _ E.out.1 hl HG.out).mono ?_
 rintro e L ⟨rfl,A⟩
 rw[Z]
 have aa:Hid (Fr 102 4 L b0 r l.length (l.flatMap (fun e=>epL (zA e))) o):=E.out.later A
 have M:Hid (IM C D n j z o q L):=N.out.later A
 have K:Hid (IS z S w o L):=(Q.out.trans (IS.below A))
 clear A
 go_wp2_with fail
 refine (zea C D n j z o q zU _ M.out).mono ?_
 rw[zgw I]
 rintro e w3 ⟨rfl,A⟩
 have HB:Hid (Below j w w3):=(HH.out.back K.out).trans A
 have HX:Hid (za5 C l q= .error (zr C q.pos)):=HY.out
 unfold Pan
 go_wp2
 refine⟨rfl,?_⟩
 rw[HX.out]
 exact⟨rfl,HB.out⟩
theorem zpZ (C:Cx) (I o n z b0 g:Nat) (r:Rw) (S X:Sv) (q0 q:PS) (l:List Ep) (w wc:World) (hh:IM C I o n z S q0 w) (h:IM C I o n z X q wc) (h0:IS z S w X wc) (hC:zbf C) (hl:l.length≤4000) (hf:Fr 102 4 wc b0 r l.length (l.flatMap (fun e=>epL (zA e))) X) (hg:r.a=some ⟨g,0,none⟩) (au:w.heap.size≤g) (hi:isT C q.pos 1 zU=true):
  Calls Tryz.prog 176 #[.pointer (some ⟨z,0,none⟩),.slice (some ⟨g,0,none⟩) l.length r.cap] wc (zQ C I o n z (za5 C l q) id (fun _=>.tuple #[]) S w):=by
 have HH:=zc hh
 have HC:=zc h
 have H0:=zc h0
 have HF:=zc hf
 have HG:=zc hg
 have aq:=zc au
 have HY:Hid (za5 C l q=bd (zd C 1 zU q) fun a=>bd (zH C a) fun b=>bd (zd C 4 cSemi b.1) fun c=>zP (fun e=>zo C (zai b.2 e)) l (.ok c)):=by show _=_;rw[za5,hi];rfl
 clear hh h h0 hf hg au
 go_enter Tryz.func176,Tryz.ntmps176
 go_wp2_with fail
 refine (zbO C I o n z X q 1 zU _ HC.out).mono ?_
 rintro e w1 ⟨rfl,M⟩
 rw[hi]
 have ar:Hid (IM C I o n z X q w1):=HC.out.later M
 have as:Hid (IS z S w X w1):=(H0.out.trans (IS.below M))
 have ao:IS z X wc X w1:=IS.below M
 clear M
 have aC:Hid (Fr 102 4 w1 b0 r l.length (l.flatMap (fun e=>epL (zA e))) X):=HF.out.step HC.out (by decide) ao
 clear ao
 go_wp2_with fail
 refine (zea C I o n z X q zU _ ar.out).mono ?_
 cases ah:zd C 1 zU q with
 |error p=>
  rintro e w2 ⟨rfl,M⟩
  have HB:Hid (Below n w w2):=(HH.out.back as.out).trans M
  have Y:Hid (za5 C l q= .error p):=bdE HY.out ah
  unfold Pan
  go_wp2
  refine⟨rfl,?_⟩
  rw[Y.out]
  exact⟨rfl,HB.out⟩
 |ok a2=>
  rintro e w2 ⟨rfl,S2,m,s⟩
  have aM:Hid (Fr 102 4 w2 b0 r l.length (l.flatMap (fun e=>epL (zA e))) S2):=aC.out.step ar.out (by decide) s
  have aw:=zc m
  have al:Hid (IS z S w S2 w2):=as.out.trans s
  clear m s
  have am:=zc (bdO HY.out ah)
  go_wp2_with fail
  refine (zf3 C I o n z S2 a2 _ aw.out hC).mono ?_
  cases an:zH C a2 with
  |error p=>
   rintro e w3 ⟨rfl,M⟩
   have HB:Hid (Below n w w3):=(HH.out.back al.out).trans M
   have Y:Hid (za5 C l q= .error p):=bdE am.out an
   unfold Pan
   go_wp2
   refine⟨rfl,?_⟩
   rw[Y.out]
   exact⟨rfl,HB.out⟩
  |ok A=>
   rintro e w3 ⟨rfl,N,m,s⟩
   have aa:Hid (Fr 102 4 w3 b0 r l.length (l.flatMap (fun e=>epL (zA e))) N):=aM.out.step aw.out (by decide) s
   have ab:=zc m
   have aK:Hid (IS z S w N w3):=al.out.trans s
   clear m s
   have aj:=zc (bdO am.out an)
   have ac:Hid (Fr 102 4 w3 b0 r l.length ((mxE A.2 l 0).flatMap epL) N):=by show Fr _ _ _ _ _ _ _ _;rw[zpS,zjL];exact aa.out
   have ae:g≠z:=aa.out.ngp ab.out (by decide) (by rw[Rw.blk,HG.out];rfl)
   have ai:g≠I:=aa.out.ngt ab.out (by decide) (by rw[Rw.blk,HG.out];rfl)
   have U:Hid (¬N.has g):=aa.out.2 g (by rw[Rw.blk,HG.out];rfl)
   have ag:=zc ae
   have ak:=zc ai
   clear ae ai
   go_wp2
   go_loopg [22] l.length (fun k i wr=>∃(j:Nat),i= .int .i64 j∧j+k=l.length∧IM C I o n z N A.1 wr∧IS z S w N wr∧Fr 102 4 wr b0 r l.length ((mxE A.2 l j).flatMap epL) N)
   case atStart=>exact⟨0,rfl,by omega,ab.out,aK.out,ac.out⟩
   case round=>
    obtain⟨j,rfl,hj,m',s',f'⟩:=hrel
    have E:Hid (IM C I o n z N A.1 wr):=m'
    have H:Hid (IS z S w N wr):=s'
    have L:Hid (Fr 102 4 wr b0 r l.length ((mxE A.2 l j).flatMap epL) N):=f'
    clear m' s' f'
    by_cases Z:j<l.length
    ·have Q:(j:Int)<(l.length:Int):=by omega
     obtain⟨x,hx⟩:=zfd Z
     have Y:=zc hx
     have K:=L.out.1
     have ho:OwnR wr b0 102 4 r (mxE A.2 l j).length ((mxE A.2 l j).flatMap epL):=by rw[zjI];exact K
     obtain⟨g',O,D⟩:=OwnR.elem (f:=epL) (m:=4) (fun _=>rfl) ho (zjJ hx)
     have eg:g'=g:=by have:=O.symm.trans HG.out;simpa using this
     subst eg
     have k0:=D 0 (by omega)
     have k3:=D 3 (by omega)
     simp only[epL,zA,Nat.add_zero,List.getElem?_cons_zero,List.getElem?_cons_succ] at k0 k3
     unfold OwnR at K
     rw[HG.out] at K
     have aO:=K.frozenAt
     have aG:=zc K
     clear D O hx K ho
     obtain⟨V,J⟩: ∃V,V=j+1:=⟨_,rfl⟩
     have ej:(j:Int)+1=(V:Int):=by omega
     have HJ:=zc J
     clear J
     go_wp2
     go_roundg (gk-1)
     case rel=>
      refine⟨V,rfl,by have:=HJ.out;omega,(E.out.set ag.out ak.out U.out _ _).set ag.out ak.out U.out _ _,(H.out.new aq.out _ _).new aq.out _ _,?_,L.out.2⟩
      have aE:=(aG.out.stored (j*4+0) (.int .i64 2)).1
      have af:=(aE.stored (j*4+3) (.string A.2)).1
      rw[zjH epL 4 (fun _=>rfl) _ j 0 (zA x) ⟨2,x.name,x.loc,sNone⟩ (.int .i64 2) (zjJ Y.out) (by omega) rfl,zjH epL 4 (fun _=>rfl) ((mxE A.2 l j).set j ⟨2,x.name,x.loc,sNone⟩) j 3 ⟨2,x.name,x.loc,sNone⟩ (zai A.2 x) (.string A.2) (List.getElem?_set_self (by rw[zjI];exact Z)) (by omega) rfl,List.set_set,zpR Y.out,←HJ.out] at af
      unfold OwnR
      rw[HG.out]
      exact af
     case measure=>omega
    ·have Q: ¬(j:Int)<(l.length:Int):=by omega
     have az:j=l.length:=by omega
     subst az
     have aH:Hid (Fr 102 4 wr b0 r l.length (l.flatMap fun e=>epL (zai A.2 e)) N):=by show Fr _ _ _ _ _ _ _ _;rw[←zjL,←zpT A.2 l];exact L.out
     go_wp2_with fail
     refine (zbX C I o n z N A.1 59 _ E.out).mono ?_
     cases ad:zd C 4 cSemi A.1 with
     |error p=>
      rintro e w4 ⟨rfl,M⟩
      have HB:Hid (Below n w w4):=(HH.out.back H.out).trans M
      have Y:Hid (za5 C l q= .error p):=bdE aj.out ad
      unfold Pan
      go_wp2
      refine⟨rfl,?_⟩
      rw[Y.out]
      exact⟨rfl,HB.out⟩
     |ok a4=>
      rintro e w4 ⟨rfl,S4,m,s⟩
      have ac:Hid (Fr 102 4 w4 b0 r l.length (l.flatMap fun e=>epL (zai A.2 e)) S4):=aH.out.step E.out (by decide) s
      have aI:=zc m
      have aJ:Hid (IS z S w S4 w4):=H.out.trans s
      clear m s
      have aN:=zc (bdO aj.out ad)
      have ap:0<a4.pos:=by rw[(zb4 ad).1];exact Nat.succ_pos _
      go_wp2
      go_loopg [39] l.length (fun k i wr=>∃(j:Nat) (S':Sv) (q':PS),i= .int .i64 j∧j+k=l.length∧za5 C l q=zP (fun e=>zo C (zai A.2 e)) (l.drop j) (.ok q')∧0<q'.pos∧IM C I o n z S' q' wr∧IS z S w S' wr∧Fr 102 4 wr b0 r l.length (l.flatMap fun e=>epL (zai A.2 e)) S')
      case atStart=>exact⟨0,S4,a4,rfl,by omega,aN.out,ap,aI.out,aJ.out,ac.out⟩
      case round=>
       obtain⟨j,S',q',rfl,hj,hy,ax,m',s',f'⟩:=hrel
       have av:=zc hy
       have E:Hid (IM C I o n z S' q' wr):=m'
       have H:Hid (IS z S w S' wr):=s'
       have L:Hid (Fr 102 4 wr b0 r l.length (l.flatMap fun e=>epL (zai A.2 e)) S'):=f'
       clear hy m' s' f'
       by_cases Z:j<l.length
       ·have Q:(j:Int)<(l.length:Int):=by omega
        obtain⟨x,hx⟩:=zfd Z
        obtain⟨g',O,D⟩:=OwnR.elem (f:=fun e=>epL (zai A.2 e)) (m:=4) (fun _=>rfl) L.out.1 hx
        have eg:g'=g:=by have:=O.symm.trans HG.out;simpa using this
        subst eg
        have k0:=D 0 (by omega)
        have k1:=D 1 (by omega)
        have k2:=D 2 (by omega)
        have k3:=D 3 (by omega)
        simp only[epL,zai,Nat.add_zero,List.getElem?_cons_zero,List.getElem?_cons_succ] at k0 k1 k2 k3
        have HZ:=zc (av.out.trans (zhg (fun e=>zo C (zai A.2 e)) hx q'))
        clear D O hx
        obtain⟨V,J⟩: ∃V,V=j+1:=⟨_,rfl⟩
        have ej:(j:Int)+1=(V:Int):=by omega
        rw[←J] at HZ
        have ae:=E.out.lt
        have HJ:=zc J
        clear J
        go_wp2_with fail
        refine (zeH C I o n z S' q' (zai A.2 x) _ (E.out.alloc _) ax).mono ?_
        cases hn:zo C (zai A.2 x) q' with
        |error p=>
         rintro e wy ⟨rfl,M⟩
         have HB:Hid (Below n w wy):=(HH.out.back (H.out.alloc _)).trans M
         have Y:Hid (za5 C l q= .error p):=by show _=_;rw[HZ.out,hn];exact zfL _ _ _
         unfold Pan
         go_wp2
         refine⟨rfl,?_⟩
         rw[Y.out]
         exact⟨rfl,HB.out⟩
        |ok ay=>
         rintro e wy ⟨rfl,Sy,m,s⟩
         have aL:=zc m
         have aB:Hid (IS z S w Sy wy):=(H.out.alloc _).trans s
         have aD:Hid (Fr 102 4 wy b0 r l.length (l.flatMap fun e=>epL (zai A.2 e)) Sy):=(L.out.later ((Below.refl _ _).alloc (Nat.le_refl _) _)).step (E.out.alloc _) (by decide) s
         have aF:Hid (za5 C l q=zP (fun e=>zo C (zai A.2 e)) (l.drop V) (.ok ay)):=by show _=_;rw[HZ.out,hn]
         have aA:Hid (0<ay.pos):=by show 0<ay.pos;rw[zjF hn];exact ax
         clear m s
         go_wp2
         go_roundg (gk-1)
         case rel=>exact⟨V,Sy,ay,rfl,by have:=HJ.out;omega,aF.out,aA.out,aL.out,aB.out,aD.out⟩
         case measure=>omega
       ·have Q: ¬(j:Int)<(l.length:Int):=by omega
        have HZ:Hid (za5 C l q= .ok q'):=by show _=_;rw[av.out,List.drop_eq_nil_of_le (by omega)];rfl
        go_wp2
        go_end0
        rw[HZ.out]
        exact⟨rfl,S',E.out,H.out⟩
theorem zqa (C:Cx) (z n j o b0:Nat) (r:Rw) (S A:Sv) (H q:PS) (l:List Ep) (w wc:World) (M:IM C z n j o S H w) (h:IM C z n j o A q wc) (L:IS o S w A wc) (U:zbf C) (I:l.length≤4000) (O:l.length≠0) (E:Fr 102 4 wc b0 r l.length (l.flatMap (fun e=>epL (zA e))) A) (K:w.heap.size≤b0):
  Calls Tryz.prog 176 #[.pointer (some ⟨o,0,none⟩),.slice r.a l.length r.cap] wc (zQ C z n j o (za5 C l q) id (fun _=>.tuple #[]) S w):=by
 rcases E.1.nil_or with ⟨_,_,e⟩|⟨g,D⟩
 ·exact absurd e O
 ·have N:w.heap.size≤g:=Nat.le_trans K (E.1.typed (show r.blk=some g by rw[Rw.blk,D];rfl)).1
  rw[D]
  cases J:isT C q.pos 1 zU with
  |true=>exact zpZ C z n j o b0 g r S A H q l w wc M h L U I E D N J
  |false=>
   cases Q:za8 l with
   |true=>exact zpY C z n j o b0 g r S A H q l w wc M h L I E D J Q
   |false=>exact zpX C z n j o b0 g r S A H q l w wc M h L I E D J Q
theorem zqb {C:Cx} {k:Int} {n:ByteArray} {q b:PS} (h:zV C k n q= .ok b):b={q with st:=q.st++[⟨k,n,(q.ex.length:Int)-1⟩]}:=by
 unfold zV at h
 split at h
 ·cases h
 ·cases h
  rfl
theorem zhi {C:Cx} {k:Int} {n s:ByteArray} {q b:PS} (h:stmtI C k n s q= .ok b) (H:0<s.size):(∃l e,b.st=l++[⟨k,n,e⟩])∧0<b.pos:=by
 obtain⟨a,E,j⟩:=zf h
 obtain⟨c,D,o⟩:=zf j
 have z:=zih _ D
 have A:=zqb o
 subst A
 refine⟨⟨_,_,rfl⟩,?_⟩
 rw[z]
 show 0<a.pos+s.size
 omega
theorem zqc {C:Cx} {k:Int} {q b:PS} (h:letJ C k q= .ok b):(∃l e,b.st=l++[⟨k,(ze C q.pos).text,e⟩])∧0<b.pos:=by
 obtain⟨a,o,n⟩:=zf h
 obtain⟨c,z,j⟩:=zf n
 have:=zhi j (by decide)
 rw[(zbd o).1] at this
 exact this
theorem zqd {C:Cx} {q b:PS} (h:fnI C q= .ok b):(∃l e,b.st=l++[⟨2,(ze C q.pos).text,e⟩])∧0<b.pos:=by
 obtain⟨a,o,j⟩:=zf h
 obtain⟨c,D,z⟩:=zf j
 obtain⟨d,A,n⟩:=zf z
 have:=zhi n (by decide)
 rw[(zbd o).1] at this
 exact this
theorem zjM (C:Cx) (D o j z:Nat) (S:Sv) (q:PS) (l:List Sm) (k e:Int) (n:ByteArray) (w:World) (h:IM C D o j z S q w) (E:q.st=l++[⟨k,n,e⟩]) (A:n.size≤281474976710656) (H:0<q.pos):
  Calls Tryz.prog 179 #[.pointer (some ⟨z,0,none⟩)] w (zQ C D o j z (zo C ⟨1,n,n,sNone⟩ q) id (fun _=>.tuple #[]) S w):=zmh C D o j z S q l ⟨k,n,e⟩ w h E A H
def zaq (C:Cx) (q:PS):PR:=
 if isT C q.pos 4 zJ then bd (zax C true (adv q) []) fun a=>za5 C a.2 a.1
 else if isT C q.pos 4 zw then bd (zd C 1 zU (adv q)) fun a=>bd (zH C a) fun b=>bd (zd C 4 cSemi b.1) fun c=>zo C ⟨3,sNone,sNone,b.2⟩ c
 else if isT C q.pos 1 sDefault then bd (stmtI C 1 zbN cSemi (adv q)) fun a=>zo C ⟨1,sDefault,zbN,sNone⟩ a
 else if isT C q.pos 1 zC then bd (letJ C 1 (adv q)) fun a=>zo C ⟨1,(ze C (q.pos+1)).text,(ze C (q.pos+1)).text,sNone⟩ a
 else if isT C q.pos 1 zT then bd (fnI C (adv q)) fun a=>zo C ⟨1,(ze C (q.pos+1)).text,(ze C (q.pos+1)).text,sNone⟩ a
 else .error (zr C q.pos)
theorem zqe (C:Cx) (H n j o:Nat) (S:Sv) (q:PS) (w:World) (h:IM C H n j o S q w) (hC:zbf C) (Z:isT C q.pos 4 zJ=true):
  Calls Tryz.prog 150 #[.pointer (some ⟨o,0,none⟩)] w (zQ C H n j o (zaq C q) id (fun _=>.tuple #[]) S w):=by
 have U:=zc h
 have HY:Hid (zaq C q=bd (zax C true (adv q) []) fun a=>za5 C a.2 a.1):=by show _=_;rw[zaq,Z];rfl
 clear h
 go_enter Tryz.func150,Tryz.ntmps150
 go_wp2_with fail
 refine (zK C H n j o S q 4 zJ _ U.out (by decide)).mono ?_
 rintro e w1 ⟨rfl,m,s⟩
 rw[Z] at m ⊢
 have Y:=zc m
 have z:=zc s
 clear m s
 go_wp2_with fail
 refine (zpQ C H n j o S (adv q) _ Y.out).mono ?_
 cases E:zax C true (adv q) [] with
 |error p=>
  rintro e X ⟨rfl,L⟩
  have V:Hid (Below j w X):=(U.out.back z.out).trans L
  have D:Hid (zaq C q= .error p):=bdE HY.out E
  unfold Pan
  go_wp2
  refine⟨rfl,?_⟩
  rw[D.out]
  exact⟨rfl,V.out⟩
 |ok J=>
  rintro e X ⟨r,S3,rfl,m,s,f,l0,l1⟩
  have N:=zc m
  have Q:Hid (IS o S w S3 X):=z.out.trans s
  have M:=zc f
  clear m s f
  have A:=zc (bdO HY.out E)
  go_wp2_with fail
  refine (zqa C H n j o _ r S S3 q J.1 J.2 w _ U.out N.out Q.out hC l1 (by omega) M.out z.out.size).mono ?_
  cases I:za5 C J.2 J.1 with
  |error p=>
   rintro e w4 ⟨rfl,L⟩
   have V:=zc L
   have D:=zc (A.out.trans I)
   unfold Pan
   go_wp2
   refine⟨rfl,?_⟩
   rw[D.out]
   exact⟨rfl,V.out⟩
  |ok a4=>
   rintro e w4 ⟨rfl,S4,m,s⟩
   have K:=zc m
   have O:=zc s
   clear m s
   have D:=zc (A.out.trans I)
   go_wp2
   go_end0
   rw[D.out]
   exact⟨rfl,S4,K.out,O.out⟩
theorem zqf (C:Cx) (z n j o:Nat) (S:Sv) (q:PS) (w:World) (h:IM C z n j o S q w) (hC:zbf C) (h1:isT C q.pos 4 zJ=false) (h2:isT C q.pos 4 zw=true):
  Calls Tryz.prog 150 #[.pointer (some ⟨o,0,none⟩)] w (zQ C z n j o (zaq C q) id (fun _=>.tuple #[]) S w):=by
 have Q:=zc h
 have HY:Hid (zaq C q=bd (zd C 1 zU (adv q)) fun a=>bd (zH C a) fun b=>bd (zd C 4 cSemi b.1) fun c=>zo C ⟨3,sNone,sNone,b.2⟩ c):=by show _=_;rw[zaq,h1,h2];rfl
 clear h
 go_enter Tryz.func150,Tryz.ntmps150
 go_wp2_with fail
 refine (zK C z n j o S q 4 zJ _ Q.out (by decide)).mono ?_
 rintro e w1 ⟨rfl,m,s⟩
 rw[h1] at m ⊢
 have ah:=zc m
 have ai:=zc s
 clear m s
 go_wp2_with fail
 refine (zK C z n j o S q 4 zw _ ah.out (by decide)).mono ?_
 rintro e w2 ⟨rfl,m,s⟩
 rw[h2] at m ⊢
 have ag:=zc m
 have N:Hid (IS o S w S w2):=ai.out.trans s
 clear m s
 go_wp2_with fail
 refine (zea C z n j o S (adv q) zU _ ag.out).mono ?_
 cases V:zd C 1 zU (adv q) with
 |error p=>
  rintro e w3 ⟨rfl,A⟩
  have H:Hid (Below j w w3):=(Q.out.back N.out).trans A
  have D:Hid (zaq C q= .error p):=bdE HY.out V
  unfold Pan
  go_wp2
  refine⟨rfl,?_⟩
  rw[D.out]
  exact⟨rfl,H.out⟩
 |ok a3=>
  rintro e w3 ⟨rfl,S3,m,s⟩
  have ac:=zc m
  have M:Hid (IS o S w S3 w3):=N.out.trans s
  clear m s
  have I:=zc (bdO HY.out V)
  go_wp2_with fail
  refine (zf3 C z n j o S3 a3 _ ac.out hC).mono ?_
  cases Y:zH C a3 with
  |error p=>
   rintro e w4 ⟨rfl,A⟩
   have H:Hid (Below j w w4):=(Q.out.back M.out).trans A
   have D:Hid (zaq C q= .error p):=bdE I.out Y
   unfold Pan
   go_wp2
   refine⟨rfl,?_⟩
   rw[D.out]
   exact⟨rfl,H.out⟩
  |ok Z=>
   rintro e w4 ⟨rfl,S4,m,s⟩
   have aa:=zc m
   have L:Hid (IS o S w S4 w4):=M.out.trans s
   clear m s
   have O:=zc (bdO I.out Y)
   go_wp2_with fail
   refine (zbX C z n j o S4 Z.1 59 _ aa.out).mono ?_
   cases E:zd C 4 cSemi Z.1 with
   |error p=>
    rintro e w5 ⟨rfl,A⟩
    have H:Hid (Below j w w5):=(Q.out.back L.out).trans A
    have D:Hid (zaq C q= .error p):=bdE O.out E
    unfold Pan
    go_wp2
    refine⟨rfl,?_⟩
    rw[D.out]
    exact⟨rfl,H.out⟩
   |ok a5=>
    rintro e w5 ⟨rfl,S5,m,s⟩
    have ab:=zc m
    have X:Hid (IS o S w S5 w5):=L.out.trans s
    clear m s
    have U:=zc (bdO O.out E)
    have J:0<a5.pos:=by rw[(zb4 E).1];exact Nat.succ_pos _
    go_wp2_with fail
    refine (zeH C z n j o S5 a5 ⟨3,sNone,sNone,Z.2⟩ _ ab.out J).mono ?_
    cases K:zo C ⟨3,sNone,sNone,Z.2⟩ a5 with
    |error p=>
     rintro e w6 ⟨rfl,A⟩
     have H:Hid (Below j w w6):=(Q.out.back X.out).trans A
     have D:Hid (zaq C q= .error p):=U.out.trans K
     unfold Pan
     go_wp2
     refine⟨rfl,?_⟩
     rw[D.out]
     exact⟨rfl,H.out⟩
    |ok a6=>
     rintro e w6 ⟨rfl,S6,m,s⟩
     have ad:=zc m
     have af:Hid (IS o S w S6 w6):=X.out.trans s
     clear m s
     have ae:=zc (U.out.trans K)
     go_wp2
     go_end0
     rw[ae.out]
     exact⟨rfl,S6,ad.out,af.out⟩
theorem zqg (C:Cx) (z n j o:Nat) (S:Sv) (q:PS) (w:World) (h:IM C z n j o S q w) (h1:isT C q.pos 4 zJ=false) (h2:isT C q.pos 4 zw=false) (h3:isT C q.pos 1 sDefault=true):
  Calls Tryz.prog 150 #[.pointer (some ⟨o,0,none⟩)] w (zQ C z n j o (zaq C q) id (fun _=>.tuple #[]) S w):=by
 have U:=zc h
 have HY:Hid (zaq C q=bd (stmtI C 1 zbN cSemi (adv q)) fun a=>zo C ⟨1,sDefault,zbN,sNone⟩ a):=by show _=_;rw[zaq,h1,h2,h3];rfl
 clear h
 go_enter Tryz.func150,Tryz.ntmps150
 go_wp2_with fail
 refine (zK C z n j o S q 4 zJ _ U.out (by decide)).mono ?_
 rintro e w1 ⟨rfl,m,s⟩
 rw[h1] at m ⊢
 have ab:=zc m
 have ac:=zc s
 clear m s
 go_wp2_with fail
 refine (zK C z n j o S q 4 zw _ ab.out (by decide)).mono ?_
 rintro e w2 ⟨rfl,m,s⟩
 rw[h2] at m ⊢
 have aa:=zc m
 have Q:Hid (IS o S w S w2):=ac.out.trans s
 clear m s
 go_wp2_with fail
 refine (zK C z n j o S q 1 sDefault _ aa.out (by decide)).mono ?_
 rintro e w3 ⟨rfl,m,s⟩
 rw[h3] at m ⊢
 have N:=zc m
 have H:Hid (IS o S w S w3):=Q.out.trans s
 clear m s
 go_wp2_with fail
 refine (zd7 C z n j o S (adv q) 1 zbN cSemi _ N.out (by decide) (by decide)).mono ?_
 cases A:stmtI C 1 zbN cSemi (adv q) with
 |error p=>
  rintro e O ⟨rfl,L⟩
  have HB:Hid (Below j w O):=(U.out.back H.out).trans L
  have V:Hid (zaq C q= .error p):=bdE HY.out A
  unfold Pan
  go_wp2
  refine⟨rfl,?_⟩
  rw[V.out]
  exact⟨rfl,HB.out⟩
 |ok a4=>
  rintro e O ⟨rfl,S4,m,s⟩
  have K:=zc m
  have E:Hid (IS o S w S4 O):=H.out.trans s
  clear m s
  have I:=zc (bdO HY.out A)
  have D:=(zhi A (by decide)).2
  go_wp2_with fail
  refine (zeH C z n j o S4 a4 ⟨1,sDefault,zbN,sNone⟩ _ K.out D).mono ?_
  cases J:zo C ⟨1,sDefault,zbN,sNone⟩ a4 with
  |error p=>
   rintro e Z ⟨rfl,L⟩
   have HB:Hid (Below j w Z):=(U.out.back E.out).trans L
   have V:Hid (zaq C q= .error p):=I.out.trans J
   unfold Pan
   go_wp2
   refine⟨rfl,?_⟩
   rw[V.out]
   exact⟨rfl,HB.out⟩
  |ok a5=>
   rintro e Z ⟨rfl,S5,m,s⟩
   have M:=zc m
   have Y:Hid (IS o S w S5 Z):=E.out.trans s
   clear m s
   have X:=zc (I.out.trans J)
   go_wp2
   go_end0
   rw[X.out]
   exact⟨rfl,S5,M.out,Y.out⟩
theorem zqh (C:Cx) (z n j o:Nat) (S:Sv) (q:PS) (w:World) (h:IM C z n j o S q w) (hC:zbf C) (h1:isT C q.pos 4 zJ=false) (h2:isT C q.pos 4 zw=false) (h3:isT C q.pos 1 sDefault=false) (h4:isT C q.pos 1 zC=true):
  Calls Tryz.prog 150 #[.pointer (some ⟨o,0,none⟩)] w (zQ C z n j o (zaq C q) id (fun _=>.tuple #[]) S w):=by
 have Y:=zc h
 have HY:Hid (zaq C q=bd (letJ C 1 (adv q)) fun a=>zo C ⟨1,(ze C (q.pos+1)).text,(ze C (q.pos+1)).text,sNone⟩ a):=by show _=_;rw[zaq,h1,h2,h3,h4];rfl
 clear h
 go_enter Tryz.func150,Tryz.ntmps150
 go_wp2_with fail
 refine (zK C z n j o S q 4 zJ _ Y.out (by decide)).mono ?_
 rintro e w1 ⟨rfl,m,s⟩
 rw[h1] at m ⊢
 have ae:=zc m
 have af:=zc s
 clear m s
 go_wp2_with fail
 refine (zK C z n j o S q 4 zw _ ae.out (by decide)).mono ?_
 rintro e w2 ⟨rfl,m,s⟩
 rw[h2] at m ⊢
 have ac:=zc m
 have X:Hid (IS o S w S w2):=af.out.trans s
 clear m s
 go_wp2_with fail
 refine (zK C z n j o S q 1 sDefault _ ac.out (by decide)).mono ?_
 rintro e w3 ⟨rfl,m,s⟩
 rw[h3] at m ⊢
 have O:=zc m
 have V:Hid (IS o S w S w3):=X.out.trans s
 clear m s
 go_wp2_with fail
 refine (zK C z n j o S q 1 zC _ O.out (by decide)).mono ?_
 rintro e w4 ⟨rfl,m,s⟩
 rw[h4] at m ⊢
 have L:=zc m
 have I:Hid (IS o S w S w4):=V.out.trans s
 clear m s
 go_wp2_with fail
 refine (zg5 C z n j o S (adv q) _ L.out).mono ?_
 cases A:letJ C 1 (adv q) with
 |error p=>
  rintro e w5 ⟨rfl,M⟩
  have HB:Hid (Below j w w5):=(Y.out.back I.out).trans M
  have Z:Hid (zaq C q= .error p):=bdE HY.out A
  unfold Pan
  go_wp2
  refine⟨rfl,?_⟩
  rw[Z.out]
  exact⟨rfl,HB.out⟩
 |ok a5=>
  rintro e w5 ⟨rfl,S5,m,s⟩
  have N:=zc m
  have K:Hid (IS o S w S5 w5):=I.out.trans s
  clear m s
  have J:=zc (bdO HY.out A)
  obtain⟨⟨l,e,D⟩,E⟩:=zqc A
  have ad:=zc D
  clear D
  go_wp2_with fail
  refine (zjM C z n j o S5 a5 l _ _ (ze C (q.pos+1)).text _ N.out ad.out (hC _) E).mono ?_
  cases H:zo C ⟨1,(ze C (q.pos+1)).text,(ze C (q.pos+1)).text,sNone⟩ a5 with
  |error p=>
   rintro e U ⟨rfl,M⟩
   have HB:Hid (Below j w U):=(Y.out.back K.out).trans M
   have Z:Hid (zaq C q= .error p):=J.out.trans H
   unfold Pan
   go_wp2
   refine⟨rfl,?_⟩
   rw[Z.out]
   exact⟨rfl,HB.out⟩
  |ok a6=>
   rintro e U ⟨rfl,S6,m,s⟩
   have Q:=zc m
   have ab:Hid (IS o S w S6 U):=K.out.trans s
   clear m s
   have aa:=zc (J.out.trans H)
   go_wp2
   go_end0
   rw[aa.out]
   exact⟨rfl,S6,Q.out,ab.out⟩
theorem zqi (C:Cx) (z n j o:Nat) (S:Sv) (q:PS) (w:World) (h:IM C z n j o S q w) (hC:zbf C) (h1:isT C q.pos 4 zJ=false) (h2:isT C q.pos 4 zw=false) (h3:isT C q.pos 1 sDefault=false) (h4:isT C q.pos 1 zC=false) (h5:isT C q.pos 1 zT=true):
  Calls Tryz.prog 150 #[.pointer (some ⟨o,0,none⟩)] w (zQ C z n j o (zaq C q) id (fun _=>.tuple #[]) S w):=by
 have HH:=zc h
 have HY:Hid (zaq C q=bd (fnI C (adv q)) fun a=>zo C ⟨1,(ze C (q.pos+1)).text,(ze C (q.pos+1)).text,sNone⟩ a):=by show _=_;rw[zaq,h1,h2,h3,h4,h5];rfl
 clear h
 go_enter Tryz.func150,Tryz.ntmps150
 go_wp2_with fail
 refine (zK C z n j o S q 4 zJ _ HH.out (by decide)).mono ?_
 rintro e w1 ⟨rfl,m,s⟩
 rw[h1] at m ⊢
 have ae:=zc m
 have af:=zc s
 clear m s
 go_wp2_with fail
 refine (zK C z n j o S q 4 zw _ ae.out (by decide)).mono ?_
 rintro e w2 ⟨rfl,m,s⟩
 rw[h2] at m ⊢
 have ac:=zc m
 have ab:Hid (IS o S w S w2):=af.out.trans s
 clear m s
 go_wp2_with fail
 refine (zK C z n j o S q 1 sDefault _ ac.out (by decide)).mono ?_
 rintro e w3 ⟨rfl,m,s⟩
 rw[h3] at m ⊢
 have O:=zc m
 have aa:Hid (IS o S w S w3):=ab.out.trans s
 clear m s
 go_wp2_with fail
 refine (zK C z n j o S q 1 zC _ O.out (by decide)).mono ?_
 rintro e w4 ⟨rfl,m,s⟩
 rw[h4] at m ⊢
 have L:=zc m
 have Y:Hid (IS o S w S w4):=aa.out.trans s
 clear m s
 go_wp2_with fail
 refine (zK C z n j o S q 1 zT _ L.out (by decide)).mono ?_
 rintro e w5 ⟨rfl,m,s⟩
 rw[h5] at m ⊢
 have N:=zc m
 have J:Hid (IS o S w S w5):=Y.out.trans s
 clear m s
 go_wp2_with fail
 refine (zg6 C z n j o S (adv q) _ N.out).mono ?_
 cases A:fnI C (adv q) with
 |error p=>
  rintro e Z ⟨rfl,M⟩
  have HB:Hid (Below j w Z):=(HH.out.back J.out).trans M
  have HX:Hid (zaq C q= .error p):=bdE HY.out A
  unfold Pan
  go_wp2
  refine⟨rfl,?_⟩
  rw[HX.out]
  exact⟨rfl,HB.out⟩
 |ok a6=>
  rintro e Z ⟨rfl,S6,m,s⟩
  have Q:=zc m
  have K:Hid (IS o S w S6 Z):=J.out.trans s
  clear m s
  have I:=zc (bdO HY.out A)
  obtain⟨⟨l,e,D⟩,H⟩:=zqd A
  have ad:=zc D
  clear D
  go_wp2_with fail
  refine (zjM C z n j o S6 a6 l _ _ (ze C (q.pos+1)).text _ Q.out ad.out (hC _) H).mono ?_
  cases E:zo C ⟨1,(ze C (q.pos+1)).text,(ze C (q.pos+1)).text,sNone⟩ a6 with
  |error p=>
   rintro e w7 ⟨rfl,M⟩
   have HB:Hid (Below j w w7):=(HH.out.back K.out).trans M
   have HX:Hid (zaq C q= .error p):=I.out.trans E
   unfold Pan
   go_wp2
   refine⟨rfl,?_⟩
   rw[HX.out]
   exact⟨rfl,HB.out⟩
  |ok a7=>
   rintro e w7 ⟨rfl,S7,m,s⟩
   have U:=zc m
   have X:Hid (IS o S w S7 w7):=K.out.trans s
   clear m s
   have V:=zc (I.out.trans E)
   go_wp2
   go_end0
   rw[V.out]
   exact⟨rfl,S7,U.out,X.out⟩
theorem zqj (C:Cx) (z n j o:Nat) (S:Sv) (q:PS) (w:World) (h:IM C z n j o S q w) (Q:isT C q.pos 4 zJ=false) (O:isT C q.pos 4 zw=false) (Y:isT C q.pos 1 sDefault=false) (V:isT C q.pos 1 zC=false) (X:isT C q.pos 1 zT=false):
  Calls Tryz.prog 150 #[.pointer (some ⟨o,0,none⟩)] w (zQ C z n j o (zaq C q) id (fun _=>.tuple #[]) S w):=by
 have U:=zc h
 have HY:Hid (zaq C q= .error (zr C q.pos)):=by show _=_;rw[zaq,Q,O,Y,V,X];rfl
 clear h
 go_enter Tryz.func150,Tryz.ntmps150
 go_wp2_with fail
 refine (zK C z n j o S q 4 zJ _ U.out (by decide)).mono ?_
 rintro e w1 ⟨rfl,m,s⟩
 rw[Q] at m ⊢
 have M:=zc m
 have N:=zc s
 clear m s
 go_wp2_with fail
 refine (zK C z n j o S q 4 zw _ M.out (by decide)).mono ?_
 rintro e w2 ⟨rfl,m,s⟩
 rw[O] at m ⊢
 have L:=zc m
 have J:Hid (IS o S w S w2):=N.out.trans s
 clear m s
 go_wp2_with fail
 refine (zK C z n j o S q 1 sDefault _ L.out (by decide)).mono ?_
 rintro e w3 ⟨rfl,m,s⟩
 rw[Y] at m ⊢
 have E:=zc m
 have I:Hid (IS o S w S w3):=J.out.trans s
 clear m s
 go_wp2_with fail
 refine (zK C z n j o S q 1 zC _ E.out (by decide)).mono ?_
 rintro e w4 ⟨rfl,m,s⟩
 rw[V] at m ⊢
 have D:=zc m
 have H:Hid (IS o S w S w4):=I.out.trans s
 clear m s
 go_wp2_with fail
 refine (zK C z n j o S q 1 zT _ D.out (by decide)).mono ?_
 rintro e w5 ⟨rfl,m,s⟩
 rw[X] at m ⊢
 have A:=zc m
 have K:Hid (IS o S w S w5):=H.out.trans s
 clear m s
 go_wp2_with fail
 refine (zdZ C z n j o S q _ A.out).mono ?_
 rintro e wz ⟨rfl,Z⟩
 have HB:Hid (Below j w wz):=(U.out.back K.out).trans (Z.mono A.out.mem.base)
 have HX:Hid (zaq C q= .error (zr C q.pos)):=HY.out
 unfold Pan
 go_wp2
 refine⟨rfl,?_⟩
 rw[HX.out]
 exact⟨rfl,HB.out⟩
theorem zqk (C:Cx) (z n j o:Nat) (S:Sv) (q:PS) (w:World) (h:IM C z n j o S q w) (E:zbf C):
  Calls Tryz.prog 150 #[.pointer (some ⟨o,0,none⟩)] w (zQ C z n j o (zaq C q) id (fun _=>.tuple #[]) S w):=by
 cases A:isT C q.pos 4 zJ with
 |true=>exact zqe C z n j o S q w h E A
 |false=>
  cases D:isT C q.pos 4 zw with
  |true=>exact zqf C z n j o S q w h E A D
  |false=>
   cases H:isT C q.pos 1 sDefault with
   |true=>exact zqg C z n j o S q w h A D H
   |false=>
    cases I:isT C q.pos 1 zC with
    |true=>exact zqh C z n j o S q w h E A D H I
    |false=>
     cases J:isT C q.pos 1 zT with
     |true=>exact zqi C z n j o S q w h E A D H I J
     |false=>exact zqj C z n j o S q w h A D H I J
end Go.Proofs.YticdggnnpjachaaGreat
