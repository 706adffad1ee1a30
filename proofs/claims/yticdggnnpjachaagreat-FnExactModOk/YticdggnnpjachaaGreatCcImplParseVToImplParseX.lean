/-
  What ContainsFunc over Exps answers,and a row of Exps whose elements are written: the walks.
  What exportNames of impl's parser answers: the walks. (It writes into the row that it is handed: so what is told is told from a world on in which that row was not yet there.)
  What exportItem of impl's parser answers: the walks.
-/
import Derived.Laws.OwnMore
import Derived.Test.YticdggnnpjachaaGreatCcImplParseU
namespace Go.Proofs.YticdggnnpjachaaGreat
set_option maxRecDepth 100000
set_option maxHeartbeats 3200000
open Go.RowKit Go.PlainAid Go.Sort
theorem zi0 {α:Type} (f:α→List Value) (m:Nat) (n: ∀x,(f x).length=m): ∀(l:List α) (j i:Nat) (x y:α) (v:Value),l[j]? =some x→i<m→f y=(f x).set i v→(l.flatMap f).set (j*m+i) v=(l.set j y).flatMap f:=by
 intro l
 induction l with
 |nil=>intro j i x y v h;simp at h
 |cons z l w=>
  intro j i x y v h o q
  match j with
  |0=>
   simp only[List.getElem?_cons_zero,Option.some.injEq] at h
   subst h
   rw[List.flatMap_cons,Nat.zero_mul,Nat.zero_add,List.set_append_left _ _ (by rw[n];exact o),List.set_cons_zero,List.flatMap_cons,q]
  |j+1=>
   simp only[List.getElem?_cons_succ] at h
   rw[List.flatMap_cons,List.set_append_right _ _ (by rw[n,Nat.succ_mul];omega),n,List.set_cons_succ,List.flatMap_cons,←w j i x y v h o q]
   congr 2
   rw[Nat.succ_mul]
   omega
def mxE (s:ByteArray) (l:List Ep) (j:Nat):List Ep:=(l.take j).map (zal s)++(l.drop j).map zz
theorem zi1 (s:ByteArray) (l:List Ep) (j:Nat):(mxE s l j).length=l.length:=by simp[mxE];omega
theorem zi2 {s:ByteArray} {l:List Ep} {j:Nat} {x:Ep} (h:l[j]? =some x):(mxE s l j)[j]? =some (zz x):=by
 obtain⟨o,rfl⟩:=List.getElem?_eq_some_iff.1 h
 have n:((l.take j).map (zal s)).length=j:=by simp;omega
 rw[mxE,List.getElem?_append_right (by omega),n,Nat.sub_self,List.drop_eq_getElem_cons o]
 rfl
theorem zmY {s:ByteArray} {l:List Ep} {j:Nat} {x:Ep} (h:l[j]? =some x):(mxE s l j).set j (zal s x)=mxE s l (j+1):=by
 obtain⟨n,rfl⟩:=List.getElem?_eq_some_iff.1 h
 have o:((l.take j).map (zal s)).length=j:=by simp;omega
 rw[mxE,List.set_append_right _ _ (by omega),o,Nat.sub_self,List.drop_eq_getElem_cons n,List.map_cons,List.set_cons_zero,mxE,List.take_succ_eq_append_getElem n,List.map_append,List.append_assoc]
 rfl
theorem zmZ (s:ByteArray) (l:List Ep):mxE s l 0=l.map zz:=by simp[mxE]
theorem zna (s:ByteArray) (l:List Ep):mxE s l l.length=l.map (zal s):=by simp[mxE]
theorem znb (x:Ep) (w:World):
  Calls Tryz.prog 198 #[epV x] w fun e h=>e= .returned (.bool (x.loc.toList==[100,101,102,97,117,108,116]))∧Below w.heap.size w h:=by
 unfold epV
 cases j:(x.loc.toList==[100,101,102,97,117,108,116]) with
 |true=>
  go_enter Tryz.func198,Tryz.ntmps198
  go_wp2
  go_ret
  exact⟨rfl,(Below.refl _ _).alloc (Nat.le_refl _) _⟩
 |false=>
  go_enter Tryz.func198,Tryz.ntmps198
  go_wp2
  go_ret
  exact⟨rfl,(Below.refl _ _).alloc (Nat.le_refl _) _⟩
theorem znc {l:List Ep} {j:Nat} {x:Ep} (h:l[j]? =some x):za5 (l.drop j)=((x.loc.toList==[100,101,102,97,117,108,116])||za5 (l.drop (j+1))):=by
 obtain⟨n,rfl⟩:=List.getElem?_eq_some_iff.1 h
 rw[List.drop_eq_getElem_cons n]
 simp only[za5,List.any_cons]
theorem znd (D g:Nat) (r:Rw) (l:List Ep) (w:World) (h:OwnR w D 102 4 r l.length (l.flatMap fun e=>epL (zz e))) (hl:l.length≤4000) (U:r.a=some ⟨g,0,none⟩):
  Calls Tryz.prog 205 #[.slice (some ⟨g,0,none⟩) l.length r.cap,.func (.func 198) #[] #[]] w fun e w'=>(∃v:Int,e= .returned (.int .i64 v)∧decide (0≤v)=za5 l)∧Below w.heap.size w w':=by
 have V:=zc h
 have N:=zc U
 clear h U
 go_enter Tryz.func205,Tryz.ntmps205
 go_wp2
 go_loopg [8] (l.length+1) (fun k i wr=>∃j:Nat,i= .int .i64 j∧j+k=l.length+1∧za5 (l.drop j)=za5 l∧Below w.heap.size w wr)
 case atStart=>exact⟨0,rfl,by omega,by simp,Below.refl _ _⟩
 case round=>
  obtain⟨j,rfl,hj,O,Z⟩:=hrel
  have M:=zc O
  have I:=zc Z
  clear O Z
  by_cases L:j<l.length
  ·have E:(j:Int)<(l.length:Int):=by omega
   obtain⟨x,K⟩:=ze1 L
   have J:=zc (V.out.keep fun k g=>I.out.block k (V.out.typed g).2.1)
   obtain⟨g',A,n⟩:=OwnR.elem (f:=fun e=>epL (zz e)) (m:=4) (fun _=>rfl) J.out K
   have eg:g'=g:=by have:=A.symm.trans N.out;simpa using this
   subst eg
   have k0:=n 0 (by omega)
   have k1:=n 1 (by omega)
   have k2:=n 2 (by omega)
   have k3:=n 3 (by omega)
   simp only[epL,zz,Nat.add_zero,List.getElem?_cons_zero,List.getElem?_cons_succ] at k0 k1 k2 k3
   have Y:=zc (znc K)
   clear n A K
   obtain⟨H,q⟩: ∃H,H=j+1:=⟨_,rfl⟩
   have ej:(j:Int)+1=(H:Int):=by omega
   have HJ:=zc q
   clear q
   go_wp2_with fail
   refine (znb (zz x) _).mono ?_
   rintro e w1 ⟨rfl,z⟩
   have o:Hid (Below w.heap.size w w1):=I.out.trans (z.mono I.out.size)
   clear z
   rw[show (zz x).loc=x.loc from rfl]
   cases X:(x.loc.toList==[100,101,102,97,117,108,116]) with
   |true=>
    go_wp2
    go_ret
    refine⟨⟨_,rfl,?_⟩,o.out⟩
    rw[←M.out,Y.out,X]
    simp
   |false=>
    go_wp2
    go_roundg (gk-1)
    case rel=>
     refine⟨H,rfl,by have:=HJ.out;omega,?_,o.out⟩
     rw[←M.out,Y.out,X,HJ.out]
     simp
    case measure=>omega
  ·have E: ¬(j:Int)<(l.length:Int):=by omega
   go_wp2
   go_ret
   refine⟨⟨_,rfl,?_⟩,I.out⟩
   rw[←M.out,List.drop_eq_nil_of_le (by omega)]
   rfl
theorem zi3 (j g:Nat) (r:Rw) (l:List Ep) (w:World) (h:OwnR w j 102 4 r l.length (l.flatMap fun e=>epL (zz e))) (H:l.length≤4000) (q:r.a=some ⟨g,0,none⟩):
  Calls Tryz.prog 199 #[.slice (some ⟨g,0,none⟩) l.length r.cap,.func (.func 198) #[] #[]] w fun e A=>e= .returned (.bool (za5 l))∧Below w.heap.size w A:=by
 have E:=zc h
 have n:=zc q
 clear h q
 go_enter Tryz.func199,Tryz.ntmps199
 go_wp2_with fail
 refine (znd j g r l _ E.out H n.out).mono ?_
 rintro e J ⟨⟨v,rfl,o⟩,z⟩
 have D:=zc o
 have I:=zc z
 clear o z
 go_wp2
 go_ret
 exact⟨zl D.out,I.out⟩
def za2 (C:Cx) (l:List Ep) (q:PS):PR:=
 if isT C q.pos 1 zP||za5 l then bd (zd C 1 zP q) fun a=>bd (zG C a) fun b=>bd (zd C 4 cSemi b.1) fun c=>zR (fun e=>zn C (zal b.2 e)) l (.ok c)
 else bd (zd C 4 cSemi q) fun c=>zR (fun e=>zn C (zz e)) l (.ok c)
theorem zi4 (X:Ep→Ep) (l:List Ep):(l.map X).flatMap epL=l.flatMap fun e=>epL (X e):=by rw[List.flatMap_map]
theorem zne (C:Cx) (H o n z b0 g:Nat) (r:Rw) (S D:Sv) (q0 q:PS) (l:List Ep) (w wc:World) (hh:IM C H o n z S q0 w) (h:IM C H o n z D q wc) (h0:IS z S w D wc) (hl:l.length≤4000) (hf:Fr 102 4 wc b0 r l.length (l.flatMap (fun e=>epL (zz e))) D) (hg:r.a=some ⟨g,0,none⟩) (hi:isT C q.pos 1 zP=false) (ha:za5 l=false):
  Calls Tryz.prog 176 #[.pointer (some ⟨z,0,none⟩),.slice (some ⟨g,0,none⟩) l.length r.cap] wc (zN C H o n z (za2 C l q) id (fun _=>.tuple #[]) S w):=by
 have HH:=zc hh
 have HC:=zc h
 have H0:=zc h0
 have HF:=zc hf
 have HG:=zc hg
 have HY:Hid (za2 C l q=bd (zd C 4 cSemi q) fun c=>zR (fun e=>zn C (zz e)) l (.ok c)):=by show _=_;rw[za2,hi,ha];rfl
 clear hh h h0 hf hg
 go_enter Tryz.func176,Tryz.ntmps176
 go_wp2_with fail
 refine (zbI C H o n z D q 1 zP _ HC.out).mono ?_
 rintro e w1 ⟨rfl,A⟩
 rw[hi]
 have ar:Hid (IM C H o n z D q w1):=HC.out.later A
 have am:Hid (IS z S w D w1):=(H0.out.trans (IS.below A))
 have ad:IS z D wc D w1:=IS.below A
 clear A
 have Y:Hid (Fr 102 4 w1 b0 r l.length (l.flatMap (fun e=>epL (zz e))) D):=HF.out.step HC.out (by decide) ad
 clear ad
 go_wp2_with fail
 refine (zi3 b0 g r l _ Y.out.1 hl HG.out).mono ?_
 rintro e w2 ⟨rfl,A⟩
 rw[ha]
 have ai:Hid (Fr 102 4 w2 b0 r l.length (l.flatMap (fun e=>epL (zz e))) D):=Y.out.later A
 have U:Hid (IM C H o n z D q w2):=ar.out.later A
 have ab:Hid (IS z S w D w2):=(am.out.trans (IS.below A))
 clear A
 go_wp2_with fail
 refine (zbQ C H o n z D q 59 _ U.out).mono ?_
 cases M:zd C 4 cSemi q with
 |error p=>
  rintro e w3 ⟨rfl,A⟩
  have HB:Hid (Below n w w3):=(HH.out.back ab.out).trans A
  have HX:Hid (za2 C l q= .error p):=bdE HY.out M
  unfold Pan
  go_wp2
  refine⟨rfl,?_⟩
  rw[HX.out]
  exact⟨rfl,HB.out⟩
 |ok a3=>
  rintro e w3 ⟨rfl,S3,m,s⟩
  have ag:Hid (Fr 102 4 w3 b0 r l.length (l.flatMap (fun e=>epL (zz e))) S3):=ai.out.step U.out (by decide) s
  have ah:=zc m
  have ao:Hid (IS z S w S3 w3):=ab.out.trans s
  clear m s
  have aq:=zc (bdO HY.out M)
  have X:0<a3.pos:=by rw[(zb0 M).1];exact Nat.succ_pos _
  go_wp2
  go_loopg [39] l.length (fun k i wr=>∃(j:Nat) (K:Sv) (J:PS),i= .int .i64 j∧j+k=l.length∧za2 C l q=zR (fun e=>zn C (zz e)) (l.drop j) (.ok J)∧0<J.pos∧IM C H o n z K J wr∧IS z S w K wr∧Fr 102 4 wr b0 r l.length (l.flatMap fun e=>epL (zz e)) K)
  case atStart=>exact⟨0,S3,a3,rfl,by omega,aq.out,X,ah.out,ao.out,ag.out⟩
  case round=>
   obtain⟨j,K,J,rfl,hj,hy,ae,m',s',f'⟩:=hrel
   have V:=zc hy
   have I:Hid (IM C H o n z K J wr):=m'
   have L:Hid (IS z S w K wr):=s'
   have Z:Hid (Fr 102 4 wr b0 r l.length (l.flatMap fun e=>epL (zz e)) K):=f'
   clear hy m' s' f'
   by_cases af:j<l.length
   ·have aa:(j:Int)<(l.length:Int):=by omega
    obtain⟨x,hx⟩:=ze1 af
    obtain⟨g',ac,E⟩:=OwnR.elem (f:=fun e=>epL (zz e)) (m:=4) (fun _=>rfl) Z.out.1 hx
    have eg:g'=g:=by have:=ac.symm.trans HG.out;simpa using this
    subst eg
    have k0:=E 0 (by omega)
    have k1:=E 1 (by omega)
    have k2:=E 2 (by omega)
    have k3:=E 3 (by omega)
    simp only[epL,zz,Nat.add_zero,List.getElem?_cons_zero,List.getElem?_cons_succ] at k0 k1 k2 k3
    have HZ:=zc (V.out.trans (zgi (fun e=>zn C (zz e)) hx J))
    clear E ac hx
    obtain⟨O,N⟩: ∃O,O=j+1:=⟨_,rfl⟩
    have ej:(j:Int)+1=(O:Int):=by omega
    rw[←N] at HZ
    have au:=I.out.lt
    have HJ:=zc N
    clear N
    go_wp2_with fail
    refine (zet C H o n z K J (zz x) _ (I.out.alloc _) ae).mono ?_
    cases hn:zn C (zz x) J with
    |error p=>
     rintro e wy ⟨rfl,A⟩
     have HB:Hid (Below n w wy):=(HH.out.back (L.out.alloc _)).trans A
     have HX:Hid (za2 C l q= .error p):=by show _=_;rw[HZ.out,hn];exact zfr _ _ _
     unfold Pan
     go_wp2
     refine⟨rfl,?_⟩
     rw[HX.out]
     exact⟨rfl,HB.out⟩
    |ok ay=>
     rintro e wy ⟨rfl,Sy,m,s⟩
     have aj:=zc m
     have ap:Hid (IS z S w Sy wy):=(L.out.alloc _).trans s
     have al:Hid (Fr 102 4 wy b0 r l.length (l.flatMap fun e=>epL (zz e)) Sy):=(Z.out.later ((Below.refl _ _).alloc (Nat.le_refl _) _)).step (I.out.alloc _) (by decide) s
     have ak:Hid (za2 C l q=zR (fun e=>zn C (zz e)) (l.drop O) (.ok ay)):=by show _=_;rw[HZ.out,hn]
     have an:Hid (0<ay.pos):=by show 0<ay.pos;rw[ziy hn];exact ae
     clear m s
     go_wp2
     go_roundg (gk-1)
     case rel=>exact⟨O,Sy,ay,rfl,by have:=HJ.out;omega,ak.out,an.out,aj.out,ap.out,al.out⟩
     case measure=>omega
   ·have aa: ¬(j:Int)<(l.length:Int):=by omega
    have HZ:Hid (za2 C l q= .ok J):=by show _=_;rw[V.out,List.drop_eq_nil_of_le (by omega)];rfl
    go_wp2
    go_end0
    rw[HZ.out]
    exact⟨rfl,K,I.out,L.out⟩
theorem znf (C:Cx) (D n j z b0 g:Nat) (r:Rw) (S o:Sv) (q0 q:PS) (l:List Ep) (w wc:World) (V:IM C D n j z S q0 w) (h:IM C D n j z o q wc) (h0:IS z S w o wc) (hl:l.length≤4000) (Y:Fr 102 4 wc b0 r l.length (l.flatMap (fun e=>epL (zz e))) o) (X:r.a=some ⟨g,0,none⟩) (J:isT C q.pos 1 zP=false) (Z:za5 l=true):
  Calls Tryz.prog 176 #[.pointer (some ⟨z,0,none⟩),.slice (some ⟨g,0,none⟩) l.length r.cap] wc (zN C D n j z (za2 C l q) id (fun _=>.tuple #[]) S w):=by
 have HH:=zc V
 have M:=zc h
 have H0:=zc h0
 have HF:=zc Y
 have HG:=zc X
 have HY:Hid (za2 C l q= .error (zq C q.pos)):=by show _=_;rw[za2,J,Z,if_pos (by decide),zfN J];rfl
 clear V h h0 Y X
 go_enter Tryz.func176,Tryz.ntmps176
 go_wp2_with fail
 refine (zbI C D n j z o q 1 zP _ M.out).mono ?_
 rintro e I ⟨rfl,A⟩
 rw[J]
 have U:Hid (IM C D n j z o q I):=M.out.later A
 have K:Hid (IS z S w o I):=(H0.out.trans (IS.below A))
 have E:IS z o wc o I:=IS.below A
 clear A
 have H:Hid (Fr 102 4 I b0 r l.length (l.flatMap (fun e=>epL (zz e))) o):=HF.out.step M.out (by decide) E
 clear E
 go_wp2_with fail
 refine (zi3 b0 g r l _ H.out.1 hl HG.out).mono ?_
 rintro e N ⟨rfl,A⟩
 rw[Z]
 have aa:Hid (Fr 102 4 N b0 r l.length (l.flatMap (fun e=>epL (zz e))) o):=H.out.later A
 have L:Hid (IM C D n j z o q N):=U.out.later A
 have O:Hid (IS z S w o N):=(K.out.trans (IS.below A))
 clear A
 go_wp2_with fail
 refine (zdH C D n j z o q zP _ L.out).mono ?_
 rw[zfN J]
 rintro e w3 ⟨rfl,A⟩
 have HB:Hid (Below j w w3):=(HH.out.back O.out).trans A
 have HX:Hid (za2 C l q= .error (zq C q.pos)):=HY.out
 unfold Pan
 go_wp2
 refine⟨rfl,?_⟩
 rw[HX.out]
 exact⟨rfl,HB.out⟩
theorem zng (C:Cx) (I o n z b0 g:Nat) (r:Rw) (S Z:Sv) (q0 q:PS) (l:List Ep) (w wc:World) (hh:IM C I o n z S q0 w) (h:IM C I o n z Z q wc) (h0:IS z S w Z wc) (hC:zaV C) (hl:l.length≤4000) (hf:Fr 102 4 wc b0 r l.length (l.flatMap (fun e=>epL (zz e))) Z) (hg:r.a=some ⟨g,0,none⟩) (ar:w.heap.size≤g) (hi:isT C q.pos 1 zP=true):
  Calls Tryz.prog 176 #[.pointer (some ⟨z,0,none⟩),.slice (some ⟨g,0,none⟩) l.length r.cap] wc (zN C I o n z (za2 C l q) id (fun _=>.tuple #[]) S w):=by
 have HH:=zc hh
 have HC:=zc h
 have H0:=zc h0
 have HF:=zc hf
 have HG:=zc hg
 have am:=zc ar
 have HY:Hid (za2 C l q=bd (zd C 1 zP q) fun a=>bd (zG C a) fun b=>bd (zd C 4 cSemi b.1) fun c=>zR (fun e=>zn C (zal b.2 e)) l (.ok c)):=by show _=_;rw[za2,hi];rfl
 clear hh h h0 hf hg ar
 go_enter Tryz.func176,Tryz.ntmps176
 go_wp2_with fail
 refine (zbI C I o n z Z q 1 zP _ HC.out).mono ?_
 rintro e w1 ⟨rfl,N⟩
 rw[hi]
 have az:Hid (IM C I o n z Z q w1):=HC.out.later N
 have an:Hid (IS z S w Z w1):=(H0.out.trans (IS.below N))
 have av:IS z Z wc Z w1:=IS.below N
 clear N
 have aE:Hid (Fr 102 4 w1 b0 r l.length (l.flatMap (fun e=>epL (zz e))) Z):=HF.out.step HC.out (by decide) av
 clear av
 go_wp2_with fail
 refine (zdH C I o n z Z q zP _ az.out).mono ?_
 cases aq:zd C 1 zP q with
 |error p=>
  rintro e w2 ⟨rfl,N⟩
  have HB:Hid (Below n w w2):=(HH.out.back an.out).trans N
  have Y:Hid (za2 C l q= .error p):=bdE HY.out aq
  unfold Pan
  go_wp2
  refine⟨rfl,?_⟩
  rw[Y.out]
  exact⟨rfl,HB.out⟩
 |ok a2=>
  rintro e w2 ⟨rfl,S2,m,s⟩
  have aC:Hid (Fr 102 4 w2 b0 r l.length (l.flatMap (fun e=>epL (zz e))) S2):=aE.out.step az.out (by decide) s
  have ag:=zc m
  have al:Hid (IS z S w S2 w2):=an.out.trans s
  clear m s
  have ap:=zc (bdO HY.out aq)
  go_wp2_with fail
  refine (zfa C I o n z S2 a2 _ ag.out hC).mono ?_
  cases ai:zG C a2 with
  |error p=>
   rintro e w3 ⟨rfl,N⟩
   have HB:Hid (Below n w w3):=(HH.out.back al.out).trans N
   have Y:Hid (za2 C l q= .error p):=bdE ap.out ai
   unfold Pan
   go_wp2
   refine⟨rfl,?_⟩
   rw[Y.out]
   exact⟨rfl,HB.out⟩
  |ok A=>
   rintro e w3 ⟨rfl,M,m,s⟩
   have ab:Hid (Fr 102 4 w3 b0 r l.length (l.flatMap (fun e=>epL (zz e))) M):=aC.out.step ag.out (by decide) s
   have ac:=zc m
   have aM:Hid (IS z S w M w3):=al.out.trans s
   clear m s
   have ax:=zc (bdO ap.out ai)
   have ad:Hid (Fr 102 4 w3 b0 r l.length ((mxE A.2 l 0).flatMap epL) M):=by show Fr _ _ _ _ _ _ _ _;rw[zmZ,zi4];exact ab.out
   have af:g≠z:=ab.out.ngp ac.out (by decide) (by rw[Rw.blk,HG.out];rfl)
   have ao:g≠I:=ab.out.ngt ac.out (by decide) (by rw[Rw.blk,HG.out];rfl)
   have V:Hid (¬M.has g):=ab.out.2 g (by rw[Rw.blk,HG.out];rfl)
   have au:=zc af
   have ak:=zc ao
   clear af ao
   go_wp2
   go_loopg [22] l.length (fun k i wr=>∃(j:Nat),i= .int .i64 j∧j+k=l.length∧IM C I o n z M A.1 wr∧IS z S w M wr∧Fr 102 4 wr b0 r l.length ((mxE A.2 l j).flatMap epL) M)
   case atStart=>exact⟨0,rfl,by omega,ac.out,aM.out,ad.out⟩
   case round=>
    obtain⟨j,rfl,hj,m',s',f'⟩:=hrel
    have E:Hid (IM C I o n z M A.1 wr):=m'
    have H:Hid (IS z S w M wr):=s'
    have J:Hid (Fr 102 4 wr b0 r l.length ((mxE A.2 l j).flatMap epL) M):=f'
    clear m' s' f'
    by_cases aa:j<l.length
    ·have O:(j:Int)<(l.length:Int):=by omega
     obtain⟨x,hx⟩:=ze1 aa
     have Y:=zc hx
     have K:=J.out.1
     have ho:OwnR wr b0 102 4 r (mxE A.2 l j).length ((mxE A.2 l j).flatMap epL):=by rw[zi1];exact K
     obtain⟨g',U,D⟩:=OwnR.elem (f:=epL) (m:=4) (fun _=>rfl) ho (zi2 hx)
     have eg:g'=g:=by have:=U.symm.trans HG.out;simpa using this
     subst eg
     have k0:=D 0 (by omega)
     have k3:=D 3 (by omega)
     simp only[epL,zz,Nat.add_zero,List.getElem?_cons_zero,List.getElem?_cons_succ] at k0 k3
     unfold OwnR at K
     rw[HG.out] at K
     have aQ:=K.frozenAt
     have aG:=zc K
     clear D U hx K ho
     obtain⟨X,L⟩: ∃X,X=j+1:=⟨_,rfl⟩
     have ej:(j:Int)+1=(X:Int):=by omega
     have HJ:=zc L
     clear L
     go_wp2
     go_roundg (gk-1)
     case rel=>
      refine⟨X,rfl,by have:=HJ.out;omega,(E.out.set au.out ak.out V.out _ _).set au.out ak.out V.out _ _,(H.out.new am.out _ _).new am.out _ _,?_,J.out.2⟩
      have aB:=(aG.out.stored (j*4+0) (.int .i64 2)).1
      have aw:=(aB.stored (j*4+3) (.string A.2)).1
      rw[zi0 epL 4 (fun _=>rfl) _ j 0 (zz x) ⟨2,x.name,x.loc,sNone⟩ (.int .i64 2) (zi2 Y.out) (by omega) rfl,zi0 epL 4 (fun _=>rfl) ((mxE A.2 l j).set j ⟨2,x.name,x.loc,sNone⟩) j 3 ⟨2,x.name,x.loc,sNone⟩ (zal A.2 x) (.string A.2) (List.getElem?_set_self (by rw[zi1];exact aa)) (by omega) rfl,List.set_set,zmY Y.out,←HJ.out] at aw
      unfold OwnR
      rw[HG.out]
      exact aw
     case measure=>omega
    ·have O: ¬(j:Int)<(l.length:Int):=by omega
     have aP:j=l.length:=by omega
     subst aP
     have aK:Hid (Fr 102 4 wr b0 r l.length (l.flatMap fun e=>epL (zal A.2 e)) M):=by show Fr _ _ _ _ _ _ _ _;rw[←zi4,←zna A.2 l];exact J.out
     go_wp2_with fail
     refine (zbQ C I o n z M A.1 59 _ E.out).mono ?_
     cases ae:zd C 4 cSemi A.1 with
     |error p=>
      rintro e w4 ⟨rfl,N⟩
      have HB:Hid (Below n w w4):=(HH.out.back H.out).trans N
      have Y:Hid (za2 C l q= .error p):=bdE ax.out ae
      unfold Pan
      go_wp2
      refine⟨rfl,?_⟩
      rw[Y.out]
      exact⟨rfl,HB.out⟩
     |ok a4=>
      rintro e w4 ⟨rfl,S4,m,s⟩
      have ad:Hid (Fr 102 4 w4 b0 r l.length (l.flatMap fun e=>epL (zal A.2 e)) S4):=aK.out.step E.out (by decide) s
      have aN:=zc m
      have aH:Hid (IS z S w S4 w4):=H.out.trans s
      clear m s
      have aD:=zc (bdO ax.out ae)
      have aj:0<a4.pos:=by rw[(zb0 ae).1];exact Nat.succ_pos _
      go_wp2
      go_loopg [39] l.length (fun k i wr=>∃(j:Nat) (S':Sv) (q':PS),i= .int .i64 j∧j+k=l.length∧za2 C l q=zR (fun e=>zn C (zal A.2 e)) (l.drop j) (.ok q')∧0<q'.pos∧IM C I o n z S' q' wr∧IS z S w S' wr∧Fr 102 4 wr b0 r l.length (l.flatMap fun e=>epL (zal A.2 e)) S')
      case atStart=>exact⟨0,S4,a4,rfl,by omega,aD.out,aj,aN.out,aH.out,ad.out⟩
      case round=>
       obtain⟨j,S',q',rfl,hj,hy,aA,m',s',f'⟩:=hrel
       have ah:=zc hy
       have E:Hid (IM C I o n z S' q' wr):=m'
       have H:Hid (IS z S w S' wr):=s'
       have J:Hid (Fr 102 4 wr b0 r l.length (l.flatMap fun e=>epL (zal A.2 e)) S'):=f'
       clear hy m' s' f'
       by_cases aa:j<l.length
       ·have O:(j:Int)<(l.length:Int):=by omega
        obtain⟨x,hx⟩:=ze1 aa
        obtain⟨g',U,D⟩:=OwnR.elem (f:=fun e=>epL (zal A.2 e)) (m:=4) (fun _=>rfl) J.out.1 hx
        have eg:g'=g:=by have:=U.symm.trans HG.out;simpa using this
        subst eg
        have k0:=D 0 (by omega)
        have k1:=D 1 (by omega)
        have k2:=D 2 (by omega)
        have k3:=D 3 (by omega)
        simp only[epL,zal,Nat.add_zero,List.getElem?_cons_zero,List.getElem?_cons_succ] at k0 k1 k2 k3
        have HZ:=zc (ah.out.trans (zgi (fun e=>zn C (zal A.2 e)) hx q'))
        clear D U hx
        obtain⟨X,L⟩: ∃X,X=j+1:=⟨_,rfl⟩
        have ej:(j:Int)+1=(X:Int):=by omega
        rw[←L] at HZ
        have af:=E.out.lt
        have HJ:=zc L
        clear L
        go_wp2_with fail
        refine (zet C I o n z S' q' (zal A.2 x) _ (E.out.alloc _) aA).mono ?_
        cases hn:zn C (zal A.2 x) q' with
        |error p=>
         rintro e wy ⟨rfl,N⟩
         have HB:Hid (Below n w wy):=(HH.out.back (H.out.alloc _)).trans N
         have Y:Hid (za2 C l q= .error p):=by show _=_;rw[HZ.out,hn];exact zfr _ _ _
         unfold Pan
         go_wp2
         refine⟨rfl,?_⟩
         rw[Y.out]
         exact⟨rfl,HB.out⟩
        |ok ay=>
         rintro e wy ⟨rfl,Sy,m,s⟩
         have aF:=zc m
         have aO:Hid (IS z S w Sy wy):=(H.out.alloc _).trans s
         have aJ:Hid (Fr 102 4 wy b0 r l.length (l.flatMap fun e=>epL (zal A.2 e)) Sy):=(J.out.later ((Below.refl _ _).alloc (Nat.le_refl _) _)).step (E.out.alloc _) (by decide) s
         have aI:Hid (za2 C l q=zR (fun e=>zn C (zal A.2 e)) (l.drop X) (.ok ay)):=by show _=_;rw[HZ.out,hn]
         have aL:Hid (0<ay.pos):=by show 0<ay.pos;rw[ziy hn];exact aA
         clear m s
         go_wp2
         go_roundg (gk-1)
         case rel=>exact⟨X,Sy,ay,rfl,by have:=HJ.out;omega,aI.out,aL.out,aF.out,aO.out,aJ.out⟩
         case measure=>omega
       ·have O: ¬(j:Int)<(l.length:Int):=by omega
        have HZ:Hid (za2 C l q= .ok q'):=by show _=_;rw[ah.out,List.drop_eq_nil_of_le (by omega)];rfl
        go_wp2
        go_end0
        rw[HZ.out]
        exact⟨rfl,S',E.out,H.out⟩
theorem znh (C:Cx) (z n j o b0:Nat) (r:Rw) (S A:Sv) (H q:PS) (l:List Ep) (w wc:World) (K:IM C z n j o S H w) (h:IM C z n j o A q wc) (L:IS o S w A wc) (V:zaV C) (N:l.length≤4000) (M:l.length≠0) (E:Fr 102 4 wc b0 r l.length (l.flatMap (fun e=>epL (zz e))) A) (O:w.heap.size≤b0):
  Calls Tryz.prog 176 #[.pointer (some ⟨o,0,none⟩),.slice r.a l.length r.cap] wc (zN C z n j o (za2 C l q) id (fun _=>.tuple #[]) S w):=by
 rcases E.1.nil_or with ⟨_,_,e⟩|⟨g,D⟩
 ·exact absurd e M
 ·have J:w.heap.size≤g:=Nat.le_trans O (E.1.typed (show r.blk=some g by rw[Rw.blk,D];rfl)).1
  rw[D]
  cases I:isT C q.pos 1 zP with
  |true=>exact zng C z n j o b0 g r S A H q l w wc K h L V N E D J I
  |false=>
   cases U:za5 l with
   |true=>exact znf C z n j o b0 g r S A H q l w wc K h L N E D I U
   |false=>exact zne C z n j o b0 g r S A H q l w wc K h L N E D I U
theorem zni {C:Cx} {k:Int} {n:ByteArray} {q b:PS} (h:zX C k n q= .ok b):b={q with st:=q.st++[⟨k,n,(q.ex.length:Int)-1⟩]}:=by
 unfold zX at h
 split at h
 ·cases h
 ·cases h
  rfl
theorem zgk {C:Cx} {k:Int} {n s:ByteArray} {q b:PS} (h:stmtI C k n s q= .ok b) (D:0<s.size):(∃l e,b.st=l++[⟨k,n,e⟩])∧0<b.pos:=by
 obtain⟨a,E,o⟩:=zi h
 obtain⟨c,j,z⟩:=zi o
 have w:=zhr _ j
 have A:=zni z
 subst A
 refine⟨⟨_,_,rfl⟩,?_⟩
 rw[w]
 show 0<a.pos+s.size
 omega
theorem znj {C:Cx} {k:Int} {q b:PS} (h:letJ C k q= .ok b):(∃l e,b.st=l++[⟨k,(ze C q.pos).text,e⟩])∧0<b.pos:=by
 obtain⟨a,n,o⟩:=zi h
 obtain⟨c,w,j⟩:=zi o
 have:=zgk j (by decide)
 rw[(zbe n).1] at this
 exact this
theorem znk {C:Cx} {q b:PS} (h:fnI C q= .ok b):(∃l e,b.st=l++[⟨2,(ze C q.pos).text,e⟩])∧0<b.pos:=by
 obtain⟨a,j,n⟩:=zi h
 obtain⟨c,A,o⟩:=zi n
 obtain⟨d,z,w⟩:=zi o
 have:=zgk w (by decide)
 rw[(zbe j).1] at this
 exact this
theorem zi5 (C:Cx) (A o j z:Nat) (S:Sv) (q:PS) (l:List Sm) (k e:Int) (n:ByteArray) (w:World) (h:IM C A o j z S q w) (H:q.st=l++[⟨k,n,e⟩]) (D:n.size≤281474976710656) (E:0<q.pos):
  Calls Tryz.prog 179 #[.pointer (some ⟨z,0,none⟩)] w (zN C A o j z (zn C ⟨1,n,n,sNone⟩ q) id (fun _=>.tuple #[]) S w):=zkZ C A o j z S q l ⟨k,n,e⟩ w h H D E
def zan (C:Cx) (q:PS):PR:=
 if isT C q.pos 4 zF then bd (zav C true (adv q) []) fun a=>za2 C a.2 a.1
 else if isT C q.pos 4 zv then bd (zd C 1 zP (adv q)) fun a=>bd (zG C a) fun b=>bd (zd C 4 cSemi b.1) fun c=>zn C ⟨3,sNone,sNone,b.2⟩ c
 else if isT C q.pos 1 sDefault then bd (stmtI C 1 zbG cSemi (adv q)) fun a=>zn C ⟨1,sDefault,zbG,sNone⟩ a
 else if isT C q.pos 1 zA then bd (letJ C 1 (adv q)) fun a=>zn C ⟨1,(ze C (q.pos+1)).text,(ze C (q.pos+1)).text,sNone⟩ a
 else if isT C q.pos 1 zO then bd (fnI C (adv q)) fun a=>zn C ⟨1,(ze C (q.pos+1)).text,(ze C (q.pos+1)).text,sNone⟩ a
 else .error (zq C q.pos)
theorem znl (C:Cx) (E n j z:Nat) (S:Sv) (q:PS) (w:World) (h:IM C E n j z S q w) (hC:zaV C) (h1:isT C q.pos 4 zF=true):
  Calls Tryz.prog 150 #[.pointer (some ⟨z,0,none⟩)] w (zN C E n j z (zan C q) id (fun _=>.tuple #[]) S w):=by
 have N:=zc h
 have HY:Hid (zan C q=bd (zav C true (adv q) []) fun a=>za2 C a.2 a.1):=by show _=_;rw[zan,h1];rfl
 clear h
 go_enter Tryz.func150,Tryz.ntmps150
 go_wp2_with fail
 refine (zH C E n j z S q 4 zF _ N.out (by decide)).mono ?_
 rintro e w1 ⟨rfl,m,s⟩
 rw[h1] at m ⊢
 have X:=zc m
 have o:=zc s
 clear m s
 go_wp2_with fail
 refine (zmX C E n j z S (adv q) _ X.out).mono ?_
 cases D:zav C true (adv q) [] with
 |error p=>
  rintro e M ⟨rfl,O⟩
  have Z:Hid (Below j w M):=(N.out.back o.out).trans O
  have A:Hid (zan C q= .error p):=bdE HY.out D
  unfold Pan
  go_wp2
  refine⟨rfl,?_⟩
  rw[A.out]
  exact⟨rfl,Z.out⟩
 |ok J=>
  rintro e M ⟨r,S3,rfl,m,s,f,l0,l1⟩
  have V:=zc m
  have Y:Hid (IS z S w S3 M):=o.out.trans s
  have L:=zc f
  clear m s f
  have I:=zc (bdO HY.out D)
  go_wp2_with fail
  refine (znh C E n j z _ r S S3 q J.1 J.2 w _ N.out V.out Y.out hC l1 (by omega) L.out o.out.size).mono ?_
  cases H:za2 C J.2 J.1 with
  |error p=>
   rintro e w4 ⟨rfl,O⟩
   have Z:=zc O
   have A:=zc (I.out.trans H)
   unfold Pan
   go_wp2
   refine⟨rfl,?_⟩
   rw[A.out]
   exact⟨rfl,Z.out⟩
  |ok a4=>
   rintro e w4 ⟨rfl,S4,m,s⟩
   have K:=zc m
   have U:=zc s
   clear m s
   have A:=zc (I.out.trans H)
   go_wp2
   go_end0
   rw[A.out]
   exact⟨rfl,S4,K.out,U.out⟩
theorem znm (C:Cx) (z n j o:Nat) (S:Sv) (q:PS) (w:World) (h:IM C z n j o S q w) (hC:zaV C) (h1:isT C q.pos 4 zF=false) (h2:isT C q.pos 4 zv=true):
  Calls Tryz.prog 150 #[.pointer (some ⟨o,0,none⟩)] w (zN C z n j o (zan C q) id (fun _=>.tuple #[]) S w):=by
 have N:=zc h
 have HY:Hid (zan C q=bd (zd C 1 zP (adv q)) fun a=>bd (zG C a) fun b=>bd (zd C 4 cSemi b.1) fun c=>zn C ⟨3,sNone,sNone,b.2⟩ c):=by show _=_;rw[zan,h1,h2];rfl
 clear h
 go_enter Tryz.func150,Tryz.ntmps150
 go_wp2_with fail
 refine (zH C z n j o S q 4 zF _ N.out (by decide)).mono ?_
 rintro e w1 ⟨rfl,m,s⟩
 rw[h1] at m ⊢
 have ai:=zc m
 have aa:=zc s
 clear m s
 go_wp2_with fail
 refine (zH C z n j o S q 4 zv _ ai.out (by decide)).mono ?_
 rintro e w2 ⟨rfl,m,s⟩
 rw[h2] at m ⊢
 have ad:=zc m
 have M:Hid (IS o S w S w2):=aa.out.trans s
 clear m s
 go_wp2_with fail
 refine (zdH C z n j o S (adv q) zP _ ad.out).mono ?_
 cases J:zd C 1 zP (adv q) with
 |error p=>
  rintro e w3 ⟨rfl,E⟩
  have H:Hid (Below j w w3):=(N.out.back M.out).trans E
  have A:Hid (zan C q= .error p):=bdE HY.out J
  unfold Pan
  go_wp2
  refine⟨rfl,?_⟩
  rw[A.out]
  exact⟨rfl,H.out⟩
 |ok a3=>
  rintro e w3 ⟨rfl,S3,m,s⟩
  have ah:=zc m
  have Z:Hid (IS o S w S3 w3):=M.out.trans s
  clear m s
  have Y:=zc (bdO HY.out J)
  go_wp2_with fail
  refine (zfa C z n j o S3 a3 _ ah.out hC).mono ?_
  cases V:zG C a3 with
  |error p=>
   rintro e w4 ⟨rfl,E⟩
   have H:Hid (Below j w w4):=(N.out.back Z.out).trans E
   have A:Hid (zan C q= .error p):=bdE Y.out V
   unfold Pan
   go_wp2
   refine⟨rfl,?_⟩
   rw[A.out]
   exact⟨rfl,H.out⟩
  |ok a4=>
   rintro e w4 ⟨rfl,S4,m,s⟩
   have ag:=zc m
   have O:Hid (IS o S w S4 w4):=Z.out.trans s
   clear m s
   have X:=zc (bdO Y.out V)
   go_wp2_with fail
   refine (zbQ C z n j o S4 a4.1 59 _ ag.out).mono ?_
   cases D:zd C 4 cSemi a4.1 with
   |error p=>
    rintro e w5 ⟨rfl,E⟩
    have H:Hid (Below j w w5):=(N.out.back O.out).trans E
    have A:Hid (zan C q= .error p):=bdE X.out D
    unfold Pan
    go_wp2
    refine⟨rfl,?_⟩
    rw[A.out]
    exact⟨rfl,H.out⟩
   |ok a5=>
    rintro e w5 ⟨rfl,S5,m,s⟩
    have af:=zc m
    have U:Hid (IS o S w S5 w5):=O.out.trans s
    clear m s
    have L:=zc (bdO X.out D)
    have K:0<a5.pos:=by rw[(zb0 D).1];exact Nat.succ_pos _
    go_wp2_with fail
    refine (zet C z n j o S5 a5 ⟨3,sNone,sNone,a4.2⟩ _ af.out K).mono ?_
    cases I:zn C ⟨3,sNone,sNone,a4.2⟩ a5 with
    |error p=>
     rintro e w6 ⟨rfl,E⟩
     have H:Hid (Below j w w6):=(N.out.back U.out).trans E
     have A:Hid (zan C q= .error p):=L.out.trans I
     unfold Pan
     go_wp2
     refine⟨rfl,?_⟩
     rw[A.out]
     exact⟨rfl,H.out⟩
    |ok a6=>
     rintro e w6 ⟨rfl,S6,m,s⟩
     have ae:=zc m
     have ab:Hid (IS o S w S6 w6):=U.out.trans s
     clear m s
     have ac:=zc (L.out.trans I)
     go_wp2
     go_end0
     rw[ac.out]
     exact⟨rfl,S6,ae.out,ab.out⟩
theorem znn (C:Cx) (z n j o:Nat) (S:Sv) (q:PS) (w:World) (h:IM C z n j o S q w) (h1:isT C q.pos 4 zF=false) (h2:isT C q.pos 4 zv=false) (h3:isT C q.pos 1 sDefault=true):
  Calls Tryz.prog 150 #[.pointer (some ⟨o,0,none⟩)] w (zN C z n j o (zan C q) id (fun _=>.tuple #[]) S w):=by
 have Y:=zc h
 have HY:Hid (zan C q=bd (stmtI C 1 zbG cSemi (adv q)) fun a=>zn C ⟨1,sDefault,zbG,sNone⟩ a):=by show _=_;rw[zan,h1,h2,h3];rfl
 clear h
 go_enter Tryz.func150,Tryz.ntmps150
 go_wp2_with fail
 refine (zH C z n j o S q 4 zF _ Y.out (by decide)).mono ?_
 rintro e w1 ⟨rfl,m,s⟩
 rw[h1] at m ⊢
 have ab:=zc m
 have L:=zc s
 clear m s
 go_wp2_with fail
 refine (zH C z n j o S q 4 zv _ ab.out (by decide)).mono ?_
 rintro e w2 ⟨rfl,m,s⟩
 rw[h2] at m ⊢
 have M:=zc m
 have X:Hid (IS o S w S w2):=L.out.trans s
 clear m s
 go_wp2_with fail
 refine (zH C z n j o S q 1 sDefault _ M.out (by decide)).mono ?_
 rintro e w3 ⟨rfl,m,s⟩
 rw[h3] at m ⊢
 have Z:=zc m
 have J:Hid (IS o S w S w3):=X.out.trans s
 clear m s
 go_wp2_with fail
 refine (zdo C z n j o S (adv q) 1 zbG cSemi _ Z.out (by decide) (by decide)).mono ?_
 cases A:stmtI C 1 zbG cSemi (adv q) with
 |error p=>
  rintro e N ⟨rfl,hb⟩
  have HB:Hid (Below j w N):=(Y.out.back J.out).trans hb
  have K:Hid (zan C q= .error p):=bdE HY.out A
  unfold Pan
  go_wp2
  refine⟨rfl,?_⟩
  rw[K.out]
  exact⟨rfl,HB.out⟩
 |ok a4=>
  rintro e N ⟨rfl,S4,m,s⟩
  have U:=zc m
  have H:Hid (IS o S w S4 N):=J.out.trans s
  clear m s
  have I:=zc (bdO HY.out A)
  have E:=(zgk A (by decide)).2
  go_wp2_with fail
  refine (zet C z n j o S4 a4 ⟨1,sDefault,zbG,sNone⟩ _ U.out E).mono ?_
  cases D:zn C ⟨1,sDefault,zbG,sNone⟩ a4 with
  |error p=>
   rintro e w5 ⟨rfl,hb⟩
   have HB:Hid (Below j w w5):=(Y.out.back H.out).trans hb
   have K:Hid (zan C q= .error p):=I.out.trans D
   unfold Pan
   go_wp2
   refine⟨rfl,?_⟩
   rw[K.out]
   exact⟨rfl,HB.out⟩
  |ok a5=>
   rintro e w5 ⟨rfl,S5,m,s⟩
   have O:=zc m
   have aa:Hid (IS o S w S5 w5):=H.out.trans s
   clear m s
   have V:=zc (I.out.trans D)
   go_wp2
   go_end0
   rw[V.out]
   exact⟨rfl,S5,O.out,aa.out⟩
theorem zno (C:Cx) (z n j o:Nat) (S:Sv) (q:PS) (w:World) (h:IM C z n j o S q w) (hC:zaV C) (h1:isT C q.pos 4 zF=false) (h2:isT C q.pos 4 zv=false) (h3:isT C q.pos 1 sDefault=false) (h4:isT C q.pos 1 zA=true):
  Calls Tryz.prog 150 #[.pointer (some ⟨o,0,none⟩)] w (zN C z n j o (zan C q) id (fun _=>.tuple #[]) S w):=by
 have HH:=zc h
 have HY:Hid (zan C q=bd (letJ C 1 (adv q)) fun a=>zn C ⟨1,(ze C (q.pos+1)).text,(ze C (q.pos+1)).text,sNone⟩ a):=by show _=_;rw[zan,h1,h2,h3,h4];rfl
 clear h
 go_enter Tryz.func150,Tryz.ntmps150
 go_wp2_with fail
 refine (zH C z n j o S q 4 zF _ HH.out (by decide)).mono ?_
 rintro e w1 ⟨rfl,m,s⟩
 rw[h1] at m ⊢
 have ad:=zc m
 have M:=zc s
 clear m s
 go_wp2_with fail
 refine (zH C z n j o S q 4 zv _ ad.out (by decide)).mono ?_
 rintro e w2 ⟨rfl,m,s⟩
 rw[h2] at m ⊢
 have U:=zc m
 have aa:Hid (IS o S w S w2):=M.out.trans s
 clear m s
 go_wp2_with fail
 refine (zH C z n j o S q 1 sDefault _ U.out (by decide)).mono ?_
 rintro e w3 ⟨rfl,m,s⟩
 rw[h3] at m ⊢
 have ab:=zc m
 have ae:Hid (IS o S w S w3):=aa.out.trans s
 clear m s
 go_wp2_with fail
 refine (zH C z n j o S q 1 zA _ ab.out (by decide)).mono ?_
 rintro e w4 ⟨rfl,m,s⟩
 rw[h4] at m ⊢
 have Y:=zc m
 have I:Hid (IS o S w S w4):=ae.out.trans s
 clear m s
 go_wp2_with fail
 refine (zfV C z n j o S (adv q) _ Y.out).mono ?_
 cases A:letJ C 1 (adv q) with
 |error p=>
  rintro e w5 ⟨rfl,hb⟩
  have HB:Hid (Below j w w5):=(HH.out.back I.out).trans hb
  have L:Hid (zan C q= .error p):=bdE HY.out A
  unfold Pan
  go_wp2
  refine⟨rfl,?_⟩
  rw[L.out]
  exact⟨rfl,HB.out⟩
 |ok a5=>
  rintro e w5 ⟨rfl,S5,m,s⟩
  have X:=zc m
  have K:Hid (IS o S w S5 w5):=I.out.trans s
  clear m s
  have H:=zc (bdO HY.out A)
  obtain⟨⟨l,e,J⟩,E⟩:=znj A
  have ac:=zc J
  clear J
  go_wp2_with fail
  refine (zi5 C z n j o S5 a5 l _ _ (ze C (q.pos+1)).text _ X.out ac.out (hC _) E).mono ?_
  cases D:zn C ⟨1,(ze C (q.pos+1)).text,(ze C (q.pos+1)).text,sNone⟩ a5 with
  |error p=>
   rintro e Z ⟨rfl,hb⟩
   have HB:Hid (Below j w Z):=(HH.out.back K.out).trans hb
   have L:Hid (zan C q= .error p):=H.out.trans D
   unfold Pan
   go_wp2
   refine⟨rfl,?_⟩
   rw[L.out]
   exact⟨rfl,HB.out⟩
  |ok a6=>
   rintro e Z ⟨rfl,S6,m,s⟩
   have V:=zc m
   have N:Hid (IS o S w S6 Z):=K.out.trans s
   clear m s
   have O:=zc (H.out.trans D)
   go_wp2
   go_end0
   rw[O.out]
   exact⟨rfl,S6,V.out,N.out⟩
theorem znp (C:Cx) (z n j o:Nat) (S:Sv) (q:PS) (w:World) (h:IM C z n j o S q w) (hC:zaV C) (h1:isT C q.pos 4 zF=false) (h2:isT C q.pos 4 zv=false) (h3:isT C q.pos 1 sDefault=false) (h4:isT C q.pos 1 zA=false) (h5:isT C q.pos 1 zO=true):
  Calls Tryz.prog 150 #[.pointer (some ⟨o,0,none⟩)] w (zN C z n j o (zan C q) id (fun _=>.tuple #[]) S w):=by
 have HH:=zc h
 have HY:Hid (zan C q=bd (fnI C (adv q)) fun a=>zn C ⟨1,(ze C (q.pos+1)).text,(ze C (q.pos+1)).text,sNone⟩ a):=by show _=_;rw[zan,h1,h2,h3,h4,h5];rfl
 clear h
 go_enter Tryz.func150,Tryz.ntmps150
 go_wp2_with fail
 refine (zH C z n j o S q 4 zF _ HH.out (by decide)).mono ?_
 rintro e w1 ⟨rfl,m,s⟩
 rw[h1] at m ⊢
 have ag:=zc m
 have M:=zc s
 clear m s
 go_wp2_with fail
 refine (zH C z n j o S q 4 zv _ ag.out (by decide)).mono ?_
 rintro e w2 ⟨rfl,m,s⟩
 rw[h2] at m ⊢
 have N:=zc m
 have aa:Hid (IS o S w S w2):=M.out.trans s
 clear m s
 go_wp2_with fail
 refine (zH C z n j o S q 1 sDefault _ N.out (by decide)).mono ?_
 rintro e w3 ⟨rfl,m,s⟩
 rw[h3] at m ⊢
 have ab:=zc m
 have ah:Hid (IS o S w S w3):=aa.out.trans s
 clear m s
 go_wp2_with fail
 refine (zH C z n j o S q 1 zA _ ab.out (by decide)).mono ?_
 rintro e w4 ⟨rfl,m,s⟩
 rw[h4] at m ⊢
 have X:=zc m
 have ac:Hid (IS o S w S w4):=ah.out.trans s
 clear m s
 go_wp2_with fail
 refine (zH C z n j o S q 1 zO _ X.out (by decide)).mono ?_
 rintro e w5 ⟨rfl,m,s⟩
 rw[h5] at m ⊢
 have V:=zc m
 have K:Hid (IS o S w S w5):=ac.out.trans s
 clear m s
 go_wp2_with fail
 refine (zfW C z n j o S (adv q) _ V.out).mono ?_
 cases A:fnI C (adv q) with
 |error p=>
  rintro e Y ⟨rfl,hb⟩
  have HB:Hid (Below j w Y):=(HH.out.back K.out).trans hb
  have L:Hid (zan C q= .error p):=bdE HY.out A
  unfold Pan
  go_wp2
  refine⟨rfl,?_⟩
  rw[L.out]
  exact⟨rfl,HB.out⟩
 |ok a6=>
  rintro e Y ⟨rfl,S6,m,s⟩
  have U:=zc m
  have D:Hid (IS o S w S6 Y):=K.out.trans s
  clear m s
  have E:=zc (bdO HY.out A)
  obtain⟨⟨l,e,J⟩,I⟩:=znk A
  have ad:=zc J
  clear J
  go_wp2_with fail
  refine (zi5 C z n j o S6 a6 l _ _ (ze C (q.pos+1)).text _ U.out ad.out (hC _) I).mono ?_
  cases H:zn C ⟨1,(ze C (q.pos+1)).text,(ze C (q.pos+1)).text,sNone⟩ a6 with
  |error p=>
   rintro e Z ⟨rfl,hb⟩
   have HB:Hid (Below j w Z):=(HH.out.back D.out).trans hb
   have L:Hid (zan C q= .error p):=E.out.trans H
   unfold Pan
   go_wp2
   refine⟨rfl,?_⟩
   rw[L.out]
   exact⟨rfl,HB.out⟩
  |ok a7=>
   rintro e Z ⟨rfl,S7,m,s⟩
   have O:=zc m
   have ae:Hid (IS o S w S7 Z):=D.out.trans s
   clear m s
   have af:=zc (E.out.trans H)
   go_wp2
   go_end0
   rw[af.out]
   exact⟨rfl,S7,O.out,ae.out⟩
theorem znq (C:Cx) (z n j o:Nat) (S:Sv) (q:PS) (w:World) (h:IM C z n j o S q w) (U:isT C q.pos 4 zF=false) (X:isT C q.pos 4 zv=false) (V:isT C q.pos 1 sDefault=false) (Z:isT C q.pos 1 zA=false) (Y:isT C q.pos 1 zO=false):
  Calls Tryz.prog 150 #[.pointer (some ⟨o,0,none⟩)] w (zN C z n j o (zan C q) id (fun _=>.tuple #[]) S w):=by
 have O:=zc h
 have HY:Hid (zan C q= .error (zq C q.pos)):=by show _=_;rw[zan,U,X,V,Z,Y];rfl
 clear h
 go_enter Tryz.func150,Tryz.ntmps150
 go_wp2_with fail
 refine (zH C z n j o S q 4 zF _ O.out (by decide)).mono ?_
 rintro e w1 ⟨rfl,m,s⟩
 rw[U] at m ⊢
 have M:=zc m
 have D:=zc s
 clear m s
 go_wp2_with fail
 refine (zH C z n j o S q 4 zv _ M.out (by decide)).mono ?_
 rintro e w2 ⟨rfl,m,s⟩
 rw[X] at m ⊢
 have E:=zc m
 have I:Hid (IS o S w S w2):=D.out.trans s
 clear m s
 go_wp2_with fail
 refine (zH C z n j o S q 1 sDefault _ E.out (by decide)).mono ?_
 rintro e w3 ⟨rfl,m,s⟩
 rw[V] at m ⊢
 have J:=zc m
 have N:Hid (IS o S w S w3):=I.out.trans s
 clear m s
 go_wp2_with fail
 refine (zH C z n j o S q 1 zA _ J.out (by decide)).mono ?_
 rintro e w4 ⟨rfl,m,s⟩
 rw[Z] at m ⊢
 have H:=zc m
 have K:Hid (IS o S w S w4):=N.out.trans s
 clear m s
 go_wp2_with fail
 refine (zH C z n j o S q 1 zO _ H.out (by decide)).mono ?_
 rintro e w5 ⟨rfl,m,s⟩
 rw[Y] at m ⊢
 have A:=zc m
 have L:Hid (IS o S w S w5):=K.out.trans s
 clear m s
 go_wp2_with fail
 refine (zdG C z n j o S q _ A.out).mono ?_
 rintro e wz ⟨rfl,hb⟩
 have HB:Hid (Below j w wz):=(O.out.back L.out).trans (hb.mono A.out.mem.base)
 have HX:Hid (zan C q= .error (zq C q.pos)):=HY.out
 unfold Pan
 go_wp2
 refine⟨rfl,?_⟩
 rw[HX.out]
 exact⟨rfl,HB.out⟩
theorem znr (C:Cx) (z n j o:Nat) (S:Sv) (q:PS) (w:World) (h:IM C z n j o S q w) (H:zaV C):
  Calls Tryz.prog 150 #[.pointer (some ⟨o,0,none⟩)] w (zN C z n j o (zan C q) id (fun _=>.tuple #[]) S w):=by
 cases A:isT C q.pos 4 zF with
 |true=>exact znl C z n j o S q w h H A
 |false=>
  cases D:isT C q.pos 4 zv with
  |true=>exact znm C z n j o S q w h H A D
  |false=>
   cases E:isT C q.pos 1 sDefault with
   |true=>exact znn C z n j o S q w h A D E
   |false=>
    cases I:isT C q.pos 1 zA with
    |true=>exact zno C z n j o S q w h H A D E I
    |false=>
     cases J:isT C q.pos 1 zO with
     |true=>exact znp C z n j o S q w h H A D E I J
     |false=>exact znq C z n j o S q w h A D E I J
end Go.Proofs.YticdggnnpjachaaGreat
