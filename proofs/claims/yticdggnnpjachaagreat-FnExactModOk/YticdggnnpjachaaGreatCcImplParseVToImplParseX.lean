/-
  What ContainsFunc over Exps answers,and a row of Exps whose elements are written: the walks.
  What exportNames of impl's parser answers: the walks. (It writes into the row that it is handed: so what is told is told from a world on in which that row was not yet there.)
  What exportItem of impl's parser answers: the walks.
-/
import Derived.Laws.OwnMore
import Derived.Test.YticdggnnpjachaaGreatCcImplParseU
namespace Go.Proofs.YticdggnnpjachaaGreat
set_option maxRecDepth 100000
set_option maxHeartbeats 3200000
open Go.RowKit Go.PlainAid Go.Sort
theorem zi0 {α:Type} (f:α→List Value) (m:Nat) (n: ∀x,(f x).length=m): ∀(l:List α) (j i:Nat) (x y:α) (v:Value),l[j]? =some x→i<m→f y=(f x).set i v→(l.flatMap f).set (j*m+i) v=(l.set j y).flatMap f:=by
 intro l
 induction l with
 |nil=>intro j i x y v h;simp at h
 |cons z l w=>
  intro j i x y v h q o
  match j with
  |0=>
   simp only[List.getElem?_cons_zero,Option.some.injEq] at h
   subst h
   rw[List.flatMap_cons,Nat.zero_mul,Nat.zero_add,List.set_append_left _ _ (by rw[n];exact q),List.set_cons_zero,List.flatMap_cons,o]
  |j+1=>
   simp only[List.getElem?_cons_succ] at h
   rw[List.flatMap_cons,List.set_append_right _ _ (by rw[n,Nat.succ_mul];omega),n,List.set_cons_succ,List.flatMap_cons,←w j i x y v h q o]
   congr 2
   rw[Nat.succ_mul]
   omega
def mxE (s:ByteArray) (l:List Ep) (j:Nat):List Ep:=(l.take j).map (zal s)++(l.drop j).map zz
theorem zi1 (s:ByteArray) (l:List Ep) (j:Nat):(mxE s l j).length=l.length:=by simp[mxE];omega
theorem zi2 {s:ByteArray} {l:List Ep} {j:Nat} {x:Ep} (h:l[j]? =some x):(mxE s l j)[j]? =some (zz x):=by
 obtain⟨o,rfl⟩:=List.getElem?_eq_some_iff.1 h
 have n:((l.take j).map (zal s)).length=j:=by simp;omega
 rw[mxE,List.getElem?_append_right (by omega),n,Nat.sub_self,List.drop_eq_getElem_cons o]
 rfl
theorem zmY {s:ByteArray} {l:List Ep} {j:Nat} {x:Ep} (h:l[j]? =some x):(mxE s l j).set j (zal s x)=mxE s l (j+1):=by
 obtain⟨n,rfl⟩:=List.getElem?_eq_some_iff.1 h
 have o:((l.take j).map (zal s)).length=j:=by simp;omega
 rw[mxE,List.set_append_right _ _ (by omega),o,Nat.sub_self,List.drop_eq_getElem_cons n,List.map_cons,List.set_cons_zero,mxE,List.take_succ_eq_append_getElem n,List.map_append,List.append_assoc]
 rfl
theorem zmZ (s:ByteArray) (l:List Ep):mxE s l 0=l.map zz:=by simp[mxE]
theorem zna (s:ByteArray) (l:List Ep):mxE s l l.length=l.map (zal s):=by simp[mxE]
theorem znb (x:Ep) (w:World):
  Calls Tryz.prog 198 #[epV x] w fun e h=>e= .returned (.bool (x.loc.toList==[100,101,102,97,117,108,116]))∧Below w.heap.size w h:=by
 unfold epV
 cases j:(x.loc.toList==[100,101,102,97,117,108,116]) with
 |true=>
  go_enter Tryz.func198,Tryz.ntmps198
  go_wp2
  go_ret
  exact⟨rfl,(Below.refl _ _).alloc (Nat.le_refl _) _⟩
 |false=>
  go_enter Tryz.func198,Tryz.ntmps198
  go_wp2
  go_ret
  exact⟨rfl,(Below.refl _ _).alloc (Nat.le_refl _) _⟩
theorem znc {l:List Ep} {j:Nat} {x:Ep} (h:l[j]? =some x):za5 (l.drop j)=((x.loc.toList==[100,101,102,97,117,108,116])||za5 (l.drop (j+1))):=by
 obtain⟨n,rfl⟩:=List.getElem?_eq_some_iff.1 h
 rw[List.drop_eq_getElem_cons n]
 simp only[za5,List.any_cons]
theorem znd (z g:Nat) (r:Rw) (l:List Ep) (w:World) (h:OwnR w z 102 4 r l.length (l.flatMap fun e=>epL (zz e))) (hl:l.length≤4000) (hg:r.a=some ⟨g,0,none⟩):
  Calls Tryz.prog 205 #[.slice (some ⟨g,0,none⟩) l.length r.cap,.func (.func 198) #[] #[]] w fun e w'=>(∃v:Int,e= .returned (.int .i64 v)∧decide (0≤v)=za5 l)∧Below w.heap.size w w':=by
 have U:=zc h
 have J:=zc hg
 clear h hg
 go_enter Tryz.func205,Tryz.ntmps205
 go_wp2
 go_loopg [8] (l.length+1) (fun k i wr=>∃j:Nat,i= .int .i64 j∧j+k=l.length+1∧za5 (l.drop j)=za5 l∧Below w.heap.size w wr)
 case atStart=>exact⟨0,rfl,by omega,by simp,Below.refl _ _⟩
 case round=>
  obtain⟨j,rfl,hj,Y,V⟩:=hrel
  have N:=zc Y
  have H:=zc V
  clear Y V
  by_cases L:j<l.length
  ·have D:(j:Int)<(l.length:Int):=by omega
   obtain⟨x,M⟩:=ze1 L
   have K:=zc (U.out.keep fun k g=>H.out.block k (U.out.typed g).2.1)
   obtain⟨g',q,n⟩:=OwnR.elem (f:=fun e=>epL (zz e)) (m:=4) (fun _=>rfl) K.out M
   have eg:g'=g:=by have:=q.symm.trans J.out;simpa using this
   subst eg
   have k0:=n 0 (by omega)
   have k1:=n 1 (by omega)
   have k2:=n 2 (by omega)
   have k3:=n 3 (by omega)
   simp only[epL,zz,Nat.add_zero,List.getElem?_cons_zero,List.getElem?_cons_succ] at k0 k1 k2 k3
   have O:=zc (znc M)
   clear n q M
   obtain⟨I,o⟩: ∃I,I=j+1:=⟨_,rfl⟩
   have ej:(j:Int)+1=(I:Int):=by omega
   have Z:=zc o
   clear o
   go_wp2_with fail
   refine (znb (zz x) _).mono ?_
   rintro e w1 ⟨rfl,A⟩
   have E:Hid (Below w.heap.size w w1):=H.out.trans (A.mono H.out.size)
   clear A
   rw[show (zz x).loc=x.loc from rfl]
   cases X:(x.loc.toList==[100,101,102,97,117,108,116]) with
   |true=>
    go_wp2
    go_ret
    refine⟨⟨_,rfl,?_⟩,E.out⟩
    rw[←N.out,O.out,X]
    simp
   |false=>
    go_wp2
    go_roundg (gk-1)
    case rel=>
     refine⟨I,rfl,by have:=Z.out;omega,?_,E.out⟩
     rw[←N.out,O.out,X,Z.out]
     simp
    case measure=>omega
  ·have D: ¬(j:Int)<(l.length:Int):=by omega
   go_wp2
   go_ret
   refine⟨⟨_,rfl,?_⟩,H.out⟩
   rw[←N.out,List.drop_eq_nil_of_le (by omega)]
   rfl
theorem zi3 (j g:Nat) (r:Rw) (l:List Ep) (w:World) (h:OwnR w j 102 4 r l.length (l.flatMap fun e=>epL (zz e))) (E:l.length≤4000) (o:r.a=some ⟨g,0,none⟩):
  Calls Tryz.prog 199 #[.slice (some ⟨g,0,none⟩) l.length r.cap,.func (.func 198) #[] #[]] w fun e A=>e= .returned (.bool (za5 l))∧Below w.heap.size w A:=by
 have H:=zc h
 have n:=zc o
 clear h o
 go_enter Tryz.func199,Tryz.ntmps199
 go_wp2_with fail
 refine (znd j g r l _ H.out E n.out).mono ?_
 rintro e J ⟨⟨v,rfl,q⟩,z⟩
 have I:=zc q
 have D:=zc z
 clear q z
 go_wp2
 go_ret
 exact⟨zl I.out,D.out⟩
def za2 (C:Cx) (l:List Ep) (q:PS):PR:=
 if isT C q.pos 1 zP||za5 l then bd (zd C 1 zP q) fun a=>bd (zG C a) fun b=>bd (zd C 4 cSemi b.1) fun c=>zR (fun e=>zn C (zal b.2 e)) l (.ok c)
 else bd (zd C 4 cSemi q) fun c=>zR (fun e=>zn C (zz e)) l (.ok c)
theorem zi4 (X:Ep→Ep) (l:List Ep):(l.map X).flatMap epL=l.flatMap fun e=>epL (X e):=by rw[List.flatMap_map]
theorem zne (C:Cx) (H o n z b0 g:Nat) (r:Rw) (S D:Sv) (q0 q:PS) (l:List Ep) (w wc:World) (hh:IM C H o n z S q0 w) (h:IM C H o n z D q wc) (h0:IS z S w D wc) (hl:l.length≤4000) (hf:Fr 102 4 wc b0 r l.length (l.flatMap (fun e=>epL (zz e))) D) (hg:r.a=some ⟨g,0,none⟩) (hi:isT C q.pos 1 zP=false) (ha:za5 l=false):
  Calls Tryz.prog 176 #[.pointer (some ⟨z,0,none⟩),.slice (some ⟨g,0,none⟩) l.length r.cap] wc (zN C H o n z (za2 C l q) id (fun _=>.tuple #[]) S w):=by
 have HH:=zc hh
 have HC:=zc h
 have H0:=zc h0
 have HF:=zc hf
 have HG:=zc hg
 have HY:Hid (za2 C l q=bd (zd C 4 cSemi q) fun c=>zR (fun e=>zn C (zz e)) l (.ok c)):=by show _=_;rw[za2,hi,ha];rfl
 clear hh h h0 hf hg
 go_enter Tryz.func176,Tryz.ntmps176
 go_wp2_with fail
 refine (zbI C H o n z D q 1 zP _ HC.out).mono ?_
 rintro e w1 ⟨rfl,A⟩
 rw[hi]
 have ap:Hid (IM C H o n z D q w1):=HC.out.later A
 have am:Hid (IS z S w D w1):=(H0.out.trans (IS.below A))
 have ac:IS z D wc D w1:=IS.below A
 clear A
 have ab:Hid (Fr 102 4 w1 b0 r l.length (l.flatMap (fun e=>epL (zz e))) D):=HF.out.step HC.out (by decide) ac
 clear ac
 go_wp2_with fail
 refine (zi3 b0 g r l _ ab.out.1 hl HG.out).mono ?_
 rintro e w2 ⟨rfl,A⟩
 rw[ha]
 have ag:Hid (Fr 102 4 w2 b0 r l.length (l.flatMap (fun e=>epL (zz e))) D):=ab.out.later A
 have ae:Hid (IM C H o n z D q w2):=ap.out.later A
 have Y:Hid (IS z S w D w2):=(am.out.trans (IS.below A))
 clear A
 go_wp2_with fail
 refine (zbQ C H o n z D q 59 _ ae.out).mono ?_
 cases L:zd C 4 cSemi q with
 |error p=>
  rintro e w3 ⟨rfl,A⟩
  have HB:Hid (Below n w w3):=(HH.out.back Y.out).trans A
  have HX:Hid (za2 C l q= .error p):=bdE HY.out L
  unfold Pan
  go_wp2
  refine⟨rfl,?_⟩
  rw[HX.out]
  exact⟨rfl,HB.out⟩
 |ok a3=>
  rintro e w3 ⟨rfl,S3,m,s⟩
  have ar:Hid (Fr 102 4 w3 b0 r l.length (l.flatMap (fun e=>epL (zz e))) S3):=ag.out.step ae.out (by decide) s
  have an:=zc m
  have ao:Hid (IS z S w S3 w3):=Y.out.trans s
  clear m s
  have au:=zc (bdO HY.out L)
  have Z:0<a3.pos:=by rw[(zb0 L).1];exact Nat.succ_pos _
  go_wp2
  go_loopg [39] l.length (fun k i wr=>∃(j:Nat) (J:Sv) (K:PS),i= .int .i64 j∧j+k=l.length∧za2 C l q=zR (fun e=>zn C (zz e)) (l.drop j) (.ok K)∧0<K.pos∧IM C H o n z J K wr∧IS z S w J wr∧Fr 102 4 wr b0 r l.length (l.flatMap fun e=>epL (zz e)) J)
  case atStart=>exact⟨0,S3,a3,rfl,by omega,au.out,Z,an.out,ao.out,ar.out⟩
  case round=>
   obtain⟨j,J,K,rfl,hj,hy,aa,m',s',f'⟩:=hrel
   have V:=zc hy
   have I:Hid (IM C H o n z J K wr):=m'
   have N:Hid (IS z S w J wr):=s'
   have O:Hid (Fr 102 4 wr b0 r l.length (l.flatMap fun e=>epL (zz e)) J):=f'
   clear hy m' s' f'
   by_cases aq:j<l.length
   ·have af:(j:Int)<(l.length:Int):=by omega
    obtain⟨x,hx⟩:=ze1 aq
    obtain⟨g',ad,E⟩:=OwnR.elem (f:=fun e=>epL (zz e)) (m:=4) (fun _=>rfl) O.out.1 hx
    have eg:g'=g:=by have:=ad.symm.trans HG.out;simpa using this
    subst eg
    have k0:=E 0 (by omega)
    have k1:=E 1 (by omega)
    have k2:=E 2 (by omega)
    have k3:=E 3 (by omega)
    simp only[epL,zz,Nat.add_zero,List.getElem?_cons_zero,List.getElem?_cons_succ] at k0 k1 k2 k3
    have X:=zc (V.out.trans (zgi (fun e=>zn C (zz e)) hx K))
    clear E ad hx
    obtain⟨U,M⟩: ∃U,U=j+1:=⟨_,rfl⟩
    have ej:(j:Int)+1=(U:Int):=by omega
    rw[←M] at X
    have av:=I.out.lt
    have HJ:=zc M
    clear M
    go_wp2_with fail
    refine (zet C H o n z J K (zz x) _ (I.out.alloc _) aa).mono ?_
    cases hn:zn C (zz x) K with
    |error p=>
     rintro e wy ⟨rfl,A⟩
     have HB:Hid (Below n w wy):=(HH.out.back (N.out.alloc _)).trans A
     have HX:Hid (za2 C l q= .error p):=by show _=_;rw[X.out,hn];exact zfr _ _ _
     unfold Pan
     go_wp2
     refine⟨rfl,?_⟩
     rw[HX.out]
     exact⟨rfl,HB.out⟩
    |ok ay=>
     rintro e wy ⟨rfl,Sy,m,s⟩
     have ak:=zc m
     have ah:Hid (IS z S w Sy wy):=(N.out.alloc _).trans s
     have al:Hid (Fr 102 4 wy b0 r l.length (l.flatMap fun e=>epL (zz e)) Sy):=(O.out.later ((Below.refl _ _).alloc (Nat.le_refl _) _)).step (I.out.alloc _) (by decide) s
     have aj:Hid (za2 C l q=zR (fun e=>zn C (zz e)) (l.drop U) (.ok ay)):=by show _=_;rw[X.out,hn]
     have ai:Hid (0<ay.pos):=by show 0<ay.pos;rw[ziy hn];exact aa
     clear m s
     go_wp2
     go_roundg (gk-1)
     case rel=>exact⟨U,Sy,ay,rfl,by have:=HJ.out;omega,aj.out,ai.out,ak.out,ah.out,al.out⟩
     case measure=>omega
   ·have af: ¬(j:Int)<(l.length:Int):=by omega
    have X:Hid (za2 C l q= .ok K):=by show _=_;rw[V.out,List.drop_eq_nil_of_le (by omega)];rfl
    go_wp2
    go_end0
    rw[X.out]
    exact⟨rfl,J,I.out,N.out⟩
theorem znf (C:Cx) (D n j z b0 g:Nat) (r:Rw) (S o:Sv) (q0 q:PS) (l:List Ep) (w wc:World) (hh:IM C D n j z S q0 w) (h:IM C D n j z o q wc) (V:IS z S w o wc) (hl:l.length≤4000) (X:Fr 102 4 wc b0 r l.length (l.flatMap (fun e=>epL (zz e))) o) (Y:r.a=some ⟨g,0,none⟩) (J:isT C q.pos 1 zP=false) (Z:za5 l=true):
  Calls Tryz.prog 176 #[.pointer (some ⟨z,0,none⟩),.slice (some ⟨g,0,none⟩) l.length r.cap] wc (zN C D n j z (za2 C l q) id (fun _=>.tuple #[]) S w):=by
 have HH:=zc hh
 have K:=zc h
 have H0:=zc V
 have HF:=zc X
 have HG:=zc Y
 have HY:Hid (za2 C l q= .error (zq C q.pos)):=by show _=_;rw[za2,J,Z,if_pos (by decide),zfN J];rfl
 clear hh h V X Y
 go_enter Tryz.func176,Tryz.ntmps176
 go_wp2_with fail
 refine (zbI C D n j z o q 1 zP _ K.out).mono ?_
 rintro e I ⟨rfl,A⟩
 rw[J]
 have M:Hid (IM C D n j z o q I):=K.out.later A
 have N:Hid (IS z S w o I):=(H0.out.trans (IS.below A))
 have H:IS z o wc o I:=IS.below A
 clear A
 have E:Hid (Fr 102 4 I b0 r l.length (l.flatMap (fun e=>epL (zz e))) o):=HF.out.step K.out (by decide) H
 clear H
 go_wp2_with fail
 refine (zi3 b0 g r l _ E.out.1 hl HG.out).mono ?_
 rintro e U ⟨rfl,A⟩
 rw[Z]
 have aa:Hid (Fr 102 4 U b0 r l.length (l.flatMap (fun e=>epL (zz e))) o):=E.out.later A
 have L:Hid (IM C D n j z o q U):=M.out.later A
 have O:Hid (IS z S w o U):=(N.out.trans (IS.below A))
 clear A
 go_wp2_with fail
 refine (zdH C D n j z o q zP _ L.out).mono ?_
 rw[zfN J]
 rintro e w3 ⟨rfl,A⟩
 have HB:Hid (Below j w w3):=(HH.out.back O.out).trans A
 have HX:Hid (za2 C l q= .error (zq C q.pos)):=HY.out
 unfold Pan
 go_wp2
 refine⟨rfl,?_⟩
 rw[HX.out]
 exact⟨rfl,HB.out⟩
theorem zng (C:Cx) (I o n z b0 g:Nat) (r:Rw) (S Y:Sv) (q0 q:PS) (l:List Ep) (w wc:World) (hh:IM C I o n z S q0 w) (h:IM C I o n z Y q wc) (h0:IS z S w Y wc) (hC:zaV C) (hl:l.length≤4000) (hf:Fr 102 4 wc b0 r l.length (l.flatMap (fun e=>epL (zz e))) Y) (hg:r.a=some ⟨g,0,none⟩) (ai:w.heap.size≤g) (hi:isT C q.pos 1 zP=true):
  Calls Tryz.prog 176 #[.pointer (some ⟨z,0,none⟩),.slice (some ⟨g,0,none⟩) l.length r.cap] wc (zN C I o n z (za2 C l q) id (fun _=>.tuple #[]) S w):=by
 have HH:=zc hh
 have HC:=zc h
 have H0:=zc h0
 have HF:=zc hf
 have HG:=zc hg
 have an:=zc ai
 have HY:Hid (za2 C l q=bd (zd C 1 zP q) fun a=>bd (zG C a) fun b=>bd (zd C 4 cSemi b.1) fun c=>zR (fun e=>zn C (zal b.2 e)) l (.ok c)):=by show _=_;rw[za2,hi];rfl
 clear hh h h0 hf hg ai
 go_enter Tryz.func176,Tryz.ntmps176
 go_wp2_with fail
 refine (zbI C I o n z Y q 1 zP _ HC.out).mono ?_
 rintro e w1 ⟨rfl,N⟩
 rw[hi]
 have au:Hid (IM C I o n z Y q w1):=HC.out.later N
 have ao:Hid (IS z S w Y w1):=(H0.out.trans (IS.below N))
 have av:IS z Y wc Y w1:=IS.below N
 clear N
 have aM:Hid (Fr 102 4 w1 b0 r l.length (l.flatMap (fun e=>epL (zz e))) Y):=HF.out.step HC.out (by decide) av
 clear av
 go_wp2_with fail
 refine (zdH C I o n z Y q zP _ au.out).mono ?_
 cases ap:zd C 1 zP q with
 |error p=>
  rintro e w2 ⟨rfl,N⟩
  have HB:Hid (Below n w w2):=(HH.out.back ao.out).trans N
  have Z:Hid (za2 C l q= .error p):=bdE HY.out ap
  unfold Pan
  go_wp2
  refine⟨rfl,?_⟩
  rw[Z.out]
  exact⟨rfl,HB.out⟩
 |ok a2=>
  rintro e w2 ⟨rfl,S2,m,s⟩
  have aC:Hid (Fr 102 4 w2 b0 r l.length (l.flatMap (fun e=>epL (zz e))) S2):=aM.out.step au.out (by decide) s
  have aw:=zc m
  have aA:Hid (IS z S w S2 w2):=ao.out.trans s
  clear m s
  have ax:=zc (bdO HY.out ap)
  go_wp2_with fail
  refine (zfa C I o n z S2 a2 _ aw.out hC).mono ?_
  cases al:zG C a2 with
  |error p=>
   rintro e w3 ⟨rfl,N⟩
   have HB:Hid (Below n w w3):=(HH.out.back aA.out).trans N
   have Z:Hid (za2 C l q= .error p):=bdE ax.out al
   unfold Pan
   go_wp2
   refine⟨rfl,?_⟩
   rw[Z.out]
   exact⟨rfl,HB.out⟩
  |ok A=>
   rintro e w3 ⟨rfl,M,m,s⟩
   have ab:Hid (Fr 102 4 w3 b0 r l.length (l.flatMap (fun e=>epL (zz e))) M):=aC.out.step aw.out (by decide) s
   have ac:=zc m
   have aL:Hid (IS z S w M w3):=aA.out.trans s
   clear m s
   have az:=zc (bdO ax.out al)
   have ae:Hid (Fr 102 4 w3 b0 r l.length ((mxE A.2 l 0).flatMap epL) M):=by show Fr _ _ _ _ _ _ _ _;rw[zmZ,zi4];exact ab.out
   have ad:g≠z:=ab.out.ngp ac.out (by decide) (by rw[Rw.blk,HG.out];rfl)
   have ak:g≠I:=ab.out.ngt ac.out (by decide) (by rw[Rw.blk,HG.out];rfl)
   have O:Hid (¬M.has g):=ab.out.2 g (by rw[Rw.blk,HG.out];rfl)
   have ah:=zc ad
   have ar:=zc ak
   clear ad ak
   go_wp2
   go_loopg [22] l.length (fun k i wr=>∃(j:Nat),i= .int .i64 j∧j+k=l.length∧IM C I o n z M A.1 wr∧IS z S w M wr∧Fr 102 4 wr b0 r l.length ((mxE A.2 l j).flatMap epL) M)
   case atStart=>exact⟨0,rfl,by omega,ac.out,aL.out,ae.out⟩
   case round=>
    obtain⟨j,rfl,hj,m',s',f'⟩:=hrel
    have E:Hid (IM C I o n z M A.1 wr):=m'
    have H:Hid (IS z S w M wr):=s'
    have J:Hid (Fr 102 4 wr b0 r l.length ((mxE A.2 l j).flatMap epL) M):=f'
    clear m' s' f'
    by_cases aa:j<l.length
    ·have V:(j:Int)<(l.length:Int):=by omega
     obtain⟨x,hx⟩:=ze1 aa
     have Z:=zc hx
     have L:=J.out.1
     have ho:OwnR wr b0 102 4 r (mxE A.2 l j).length ((mxE A.2 l j).flatMap epL):=by rw[zi1];exact L
     obtain⟨g',U,D⟩:=OwnR.elem (f:=epL) (m:=4) (fun _=>rfl) ho (zi2 hx)
     have eg:g'=g:=by have:=U.symm.trans HG.out;simpa using this
     subst eg
     have k0:=D 0 (by omega)
     have k3:=D 3 (by omega)
     simp only[epL,zz,Nat.add_zero,List.getElem?_cons_zero,List.getElem?_cons_succ] at k0 k3
     unfold OwnR at L
     rw[HG.out] at L
     have aQ:=L.frozenAt
     have aB:=zc L
     clear D U hx L ho
     obtain⟨X,K⟩: ∃X,X=j+1:=⟨_,rfl⟩
     have ej:(j:Int)+1=(X:Int):=by omega
     have HJ:=zc K
     clear K
     go_wp2
     go_roundg (gk-1)
     case rel=>
      refine⟨X,rfl,by have:=HJ.out;omega,(E.out.set ah.out ar.out O.out _ _).set ah.out ar.out O.out _ _,(H.out.new an.out _ _).new an.out _ _,?_,J.out.2⟩
      have aN:=(aB.out.stored (j*4+0) (.int .i64 2)).1
      have ag:=(aN.stored (j*4+3) (.string A.2)).1
      rw[zi0 epL 4 (fun _=>rfl) _ j 0 (zz x) ⟨2,x.name,x.loc,sNone⟩ (.int .i64 2) (zi2 Z.out) (by omega) rfl,zi0 epL 4 (fun _=>rfl) ((mxE A.2 l j).set j ⟨2,x.name,x.loc,sNone⟩) j 3 ⟨2,x.name,x.loc,sNone⟩ (zal A.2 x) (.string A.2) (List.getElem?_set_self (by rw[zi1];exact aa)) (by omega) rfl,List.set_set,zmY Z.out,←HJ.out] at ag
      unfold OwnR
      rw[HG.out]
      exact ag
     case measure=>omega
    ·have V: ¬(j:Int)<(l.length:Int):=by omega
     have aJ:j=l.length:=by omega
     subst aJ
     have aF:Hid (Fr 102 4 wr b0 r l.length (l.flatMap fun e=>epL (zal A.2 e)) M):=by show Fr _ _ _ _ _ _ _ _;rw[←zi4,←zna A.2 l];exact J.out
     go_wp2_with fail
     refine (zbQ C I o n z M A.1 59 _ E.out).mono ?_
     cases af:zd C 4 cSemi A.1 with
     |error p=>
      rintro e w4 ⟨rfl,N⟩
      have HB:Hid (Below n w w4):=(HH.out.back H.out).trans N
      have Z:Hid (za2 C l q= .error p):=bdE az.out af
      unfold Pan
      go_wp2
      refine⟨rfl,?_⟩
      rw[Z.out]
      exact⟨rfl,HB.out⟩
     |ok a4=>
      rintro e w4 ⟨rfl,S4,m,s⟩
      have ae:Hid (Fr 102 4 w4 b0 r l.length (l.flatMap fun e=>epL (zal A.2 e)) S4):=aF.out.step E.out (by decide) s
      have aP:=zc m
      have aG:Hid (IS z S w S4 w4):=H.out.trans s
      clear m s
      have aO:=zc (bdO az.out af)
      have am:0<a4.pos:=by rw[(zb0 af).1];exact Nat.succ_pos _
      go_wp2
      go_loopg [39] l.length (fun k i wr=>∃(j:Nat) (S':Sv) (q':PS),i= .int .i64 j∧j+k=l.length∧za2 C l q=zR (fun e=>zn C (zal A.2 e)) (l.drop j) (.ok q')∧0<q'.pos∧IM C I o n z S' q' wr∧IS z S w S' wr∧Fr 102 4 wr b0 r l.length (l.flatMap fun e=>epL (zal A.2 e)) S')
      case atStart=>exact⟨0,S4,a4,rfl,by omega,aO.out,am,aP.out,aG.out,ae.out⟩
      case round=>
       obtain⟨j,S',q',rfl,hj,hy,aq,m',s',f'⟩:=hrel
       have aj:=zc hy
       have E:Hid (IM C I o n z S' q' wr):=m'
       have H:Hid (IS z S w S' wr):=s'
       have J:Hid (Fr 102 4 wr b0 r l.length (l.flatMap fun e=>epL (zal A.2 e)) S'):=f'
       clear hy m' s' f'
       by_cases aa:j<l.length
       ·have V:(j:Int)<(l.length:Int):=by omega
        obtain⟨x,hx⟩:=ze1 aa
        obtain⟨g',U,D⟩:=OwnR.elem (f:=fun e=>epL (zal A.2 e)) (m:=4) (fun _=>rfl) J.out.1 hx
        have eg:g'=g:=by have:=U.symm.trans HG.out;simpa using this
        subst eg
        have k0:=D 0 (by omega)
        have k1:=D 1 (by omega)
        have k2:=D 2 (by omega)
        have k3:=D 3 (by omega)
        simp only[epL,zal,Nat.add_zero,List.getElem?_cons_zero,List.getElem?_cons_succ] at k0 k1 k2 k3
        have HZ:=zc (aj.out.trans (zgi (fun e=>zn C (zal A.2 e)) hx q'))
        clear D U hx
        obtain⟨X,K⟩: ∃X,X=j+1:=⟨_,rfl⟩
        have ej:(j:Int)+1=(X:Int):=by omega
        rw[←K] at HZ
        have ad:=E.out.lt
        have HJ:=zc K
        clear K
        go_wp2_with fail
        refine (zet C I o n z S' q' (zal A.2 x) _ (E.out.alloc _) aq).mono ?_
        cases hn:zn C (zal A.2 x) q' with
        |error p=>
         rintro e wy ⟨rfl,N⟩
         have HB:Hid (Below n w wy):=(HH.out.back (H.out.alloc _)).trans N
         have Z:Hid (za2 C l q= .error p):=by show _=_;rw[HZ.out,hn];exact zfr _ _ _
         unfold Pan
         go_wp2
         refine⟨rfl,?_⟩
         rw[Z.out]
         exact⟨rfl,HB.out⟩
        |ok ay=>
         rintro e wy ⟨rfl,Sy,m,s⟩
         have aI:=zc m
         have aD:Hid (IS z S w Sy wy):=(H.out.alloc _).trans s
         have aK:Hid (Fr 102 4 wy b0 r l.length (l.flatMap fun e=>epL (zal A.2 e)) Sy):=(J.out.later ((Below.refl _ _).alloc (Nat.le_refl _) _)).step (E.out.alloc _) (by decide) s
         have aH:Hid (za2 C l q=zR (fun e=>zn C (zal A.2 e)) (l.drop X) (.ok ay)):=by show _=_;rw[HZ.out,hn]
         have aE:Hid (0<ay.pos):=by show 0<ay.pos;rw[ziy hn];exact aq
         clear m s
         go_wp2
         go_roundg (gk-1)
         case rel=>exact⟨X,Sy,ay,rfl,by have:=HJ.out;omega,aH.out,aE.out,aI.out,aD.out,aK.out⟩
         case measure=>omega
       ·have V: ¬(j:Int)<(l.length:Int):=by omega
        have HZ:Hid (za2 C l q= .ok q'):=by show _=_;rw[aj.out,List.drop_eq_nil_of_le (by omega)];rfl
        go_wp2
        go_end0
        rw[HZ.out]
        exact⟨rfl,S',E.out,H.out⟩
theorem znh (C:Cx) (A n j o b0:Nat) (r:Rw) (S z:Sv) (H q:PS) (l:List Ep) (w wc:World) (O:IM C A n j o S H w) (h:IM C A n j o z q wc) (N:IS o S w z wc) (V:zaV C) (J:l.length≤4000) (K:l.length≠0) (E:Fr 102 4 wc b0 r l.length (l.flatMap (fun e=>epL (zz e))) z) (I:w.heap.size≤b0):
  Calls Tryz.prog 176 #[.pointer (some ⟨o,0,none⟩),.slice r.a l.length r.cap] wc (zN C A n j o (za2 C l q) id (fun _=>.tuple #[]) S w):=by
 rcases E.1.nil_or with ⟨_,_,e⟩|⟨g,D⟩
 ·exact absurd e K
 ·have M:w.heap.size≤g:=Nat.le_trans I (E.1.typed (show r.blk=some g by rw[Rw.blk,D];rfl)).1
  rw[D]
  cases L:isT C q.pos 1 zP with
  |true=>exact zng C A n j o b0 g r S z H q l w wc O h N V J E D M L
  |false=>
   cases U:za5 l with
   |true=>exact znf C A n j o b0 g r S z H q l w wc O h N J E D L U
   |false=>exact zne C A n j o b0 g r S z H q l w wc O h N J E D L U
theorem zni {C:Cx} {k:Int} {n:ByteArray} {q b:PS} (h:zX C k n q= .ok b):b={q with st:=q.st++[⟨k,n,(q.ex.length:Int)-1⟩]}:=by
 unfold zX at h
 split at h
 ·cases h
 ·cases h
  rfl
theorem zgk {C:Cx} {k:Int} {n s:ByteArray} {q b:PS} (h:stmtI C k n s q= .ok b) (D:0<s.size):(∃l e,b.st=l++[⟨k,n,e⟩])∧0<b.pos:=by
 obtain⟨a,E,z⟩:=zi h
 obtain⟨c,w,j⟩:=zi z
 have A:=zhr _ w
 have o:=zni j
 subst o
 refine⟨⟨_,_,rfl⟩,?_⟩
 rw[A]
 show 0<a.pos+s.size
 omega
theorem znj {C:Cx} {k:Int} {q b:PS} (h:letJ C k q= .ok b):(∃l e,b.st=l++[⟨k,(ze C q.pos).text,e⟩])∧0<b.pos:=by
 obtain⟨a,j,o⟩:=zi h
 obtain⟨c,w,n⟩:=zi o
 have:=zgk n (by decide)
 rw[(zbe j).1] at this
 exact this
theorem znk {C:Cx} {q b:PS} (h:fnI C q= .ok b):(∃l e,b.st=l++[⟨2,(ze C q.pos).text,e⟩])∧0<b.pos:=by
 obtain⟨a,n,w⟩:=zi h
 obtain⟨c,z,j⟩:=zi w
 obtain⟨d,A,o⟩:=zi j
 have:=zgk o (by decide)
 rw[(zbe n).1] at this
 exact this
theorem zi5 (C:Cx) (D o j z:Nat) (S:Sv) (q:PS) (l:List Sm) (k e:Int) (n:ByteArray) (w:World) (h:IM C D o j z S q w) (E:q.st=l++[⟨k,n,e⟩]) (A:n.size≤281474976710656) (H:0<q.pos):
  Calls Tryz.prog 179 #[.pointer (some ⟨z,0,none⟩)] w (zN C D o j z (zn C ⟨1,n,n,sNone⟩ q) id (fun _=>.tuple #[]) S w):=zkZ C D o j z S q l ⟨k,n,e⟩ w h E A H
def zan (C:Cx) (q:PS):PR:=
 if isT C q.pos 4 zF then bd (zav C true (adv q) []) fun a=>za2 C a.2 a.1
 else if isT C q.pos 4 zv then bd (zd C 1 zP (adv q)) fun a=>bd (zG C a) fun b=>bd (zd C 4 cSemi b.1) fun c=>zn C ⟨3,sNone,sNone,b.2⟩ c
 else if isT C q.pos 1 sDefault then bd (stmtI C 1 zbG cSemi (adv q)) fun a=>zn C ⟨1,sDefault,zbG,sNone⟩ a
 else if isT C q.pos 1 zA then bd (letJ C 1 (adv q)) fun a=>zn C ⟨1,(ze C (q.pos+1)).text,(ze C (q.pos+1)).text,sNone⟩ a
 else if isT C q.pos 1 zO then bd (fnI C (adv q)) fun a=>zn C ⟨1,(ze C (q.pos+1)).text,(ze C (q.pos+1)).text,sNone⟩ a
 else .error (zq C q.pos)
theorem znl (C:Cx) (E n j o:Nat) (S:Sv) (q:PS) (w:World) (h:IM C E n j o S q w) (hC:zaV C) (h1:isT C q.pos 4 zF=true):
  Calls Tryz.prog 150 #[.pointer (some ⟨o,0,none⟩)] w (zN C E n j o (zan C q) id (fun _=>.tuple #[]) S w):=by
 have O:=zc h
 have HY:Hid (zan C q=bd (zav C true (adv q) []) fun a=>za2 C a.2 a.1):=by show _=_;rw[zan,h1];rfl
 clear h
 go_enter Tryz.func150,Tryz.ntmps150
 go_wp2_with fail
 refine (zH C E n j o S q 4 zF _ O.out (by decide)).mono ?_
 rintro e w1 ⟨rfl,m,s⟩
 rw[h1] at m ⊢
 have X:=zc m
 have z:=zc s
 clear m s
 go_wp2_with fail
 refine (zmX C E n j o S (adv q) _ X.out).mono ?_
 cases A:zav C true (adv q) [] with
 |error p=>
  rintro e K ⟨rfl,V⟩
  have L:Hid (Below j w K):=(O.out.back z.out).trans V
  have D:Hid (zan C q= .error p):=bdE HY.out A
  unfold Pan
  go_wp2
  refine⟨rfl,?_⟩
  rw[D.out]
  exact⟨rfl,L.out⟩
 |ok J=>
  rintro e K ⟨r,S3,rfl,m,s,f,l0,l1⟩
  have N:=zc m
  have M:Hid (IS o S w S3 K):=z.out.trans s
  have U:=zc f
  clear m s f
  have H:=zc (bdO HY.out A)
  go_wp2_with fail
  refine (znh C E n j o _ r S S3 q J.1 J.2 w _ O.out N.out M.out hC l1 (by omega) U.out z.out.size).mono ?_
  cases I:za2 C J.2 J.1 with
  |error p=>
   rintro e w4 ⟨rfl,V⟩
   have L:=zc V
   have D:=zc (H.out.trans I)
   unfold Pan
   go_wp2
   refine⟨rfl,?_⟩
   rw[D.out]
   exact⟨rfl,L.out⟩
  |ok a4=>
   rintro e w4 ⟨rfl,S4,m,s⟩
   have Y:=zc m
   have Z:=zc s
   clear m s
   have D:=zc (H.out.trans I)
   go_wp2
   go_end0
   rw[D.out]
   exact⟨rfl,S4,Y.out,Z.out⟩
theorem znm (C:Cx) (z n j o:Nat) (S:Sv) (q:PS) (w:World) (h:IM C z n j o S q w) (hC:zaV C) (h1:isT C q.pos 4 zF=false) (h2:isT C q.pos 4 zv=true):
  Calls Tryz.prog 150 #[.pointer (some ⟨o,0,none⟩)] w (zN C z n j o (zan C q) id (fun _=>.tuple #[]) S w):=by
 have L:=zc h
 have HY:Hid (zan C q=bd (zd C 1 zP (adv q)) fun a=>bd (zG C a) fun b=>bd (zd C 4 cSemi b.1) fun c=>zn C ⟨3,sNone,sNone,b.2⟩ c):=by show _=_;rw[zan,h1,h2];rfl
 clear h
 go_enter Tryz.func150,Tryz.ntmps150
 go_wp2_with fail
 refine (zH C z n j o S q 4 zF _ L.out (by decide)).mono ?_
 rintro e w1 ⟨rfl,m,s⟩
 rw[h1] at m ⊢
 have ae:=zc m
 have ag:=zc s
 clear m s
 go_wp2_with fail
 refine (zH C z n j o S q 4 zv _ ae.out (by decide)).mono ?_
 rintro e w2 ⟨rfl,m,s⟩
 rw[h2] at m ⊢
 have ac:=zc m
 have Y:Hid (IS o S w S w2):=ag.out.trans s
 clear m s
 go_wp2_with fail
 refine (zdH C z n j o S (adv q) zP _ ac.out).mono ?_
 cases N:zd C 1 zP (adv q) with
 |error p=>
  rintro e w3 ⟨rfl,D⟩
  have A:Hid (Below j w w3):=(L.out.back Y.out).trans D
  have E:Hid (zan C q= .error p):=bdE HY.out N
  unfold Pan
  go_wp2
  refine⟨rfl,?_⟩
  rw[E.out]
  exact⟨rfl,A.out⟩
 |ok a3=>
  rintro e w3 ⟨rfl,S3,m,s⟩
  have ab:=zc m
  have K:Hid (IS o S w S3 w3):=Y.out.trans s
  clear m s
  have U:=zc (bdO HY.out N)
  go_wp2_with fail
  refine (zfa C z n j o S3 a3 _ ab.out hC).mono ?_
  cases Z:zG C a3 with
  |error p=>
   rintro e w4 ⟨rfl,D⟩
   have A:Hid (Below j w w4):=(L.out.back K.out).trans D
   have E:Hid (zan C q= .error p):=bdE U.out Z
   unfold Pan
   go_wp2
   refine⟨rfl,?_⟩
   rw[E.out]
   exact⟨rfl,A.out⟩
  |ok a4=>
   rintro e w4 ⟨rfl,S4,m,s⟩
   have af:=zc m
   have X:Hid (IS o S w S4 w4):=K.out.trans s
   clear m s
   have J:=zc (bdO U.out Z)
   go_wp2_with fail
   refine (zbQ C z n j o S4 a4.1 59 _ af.out).mono ?_
   cases H:zd C 4 cSemi a4.1 with
   |error p=>
    rintro e w5 ⟨rfl,D⟩
    have A:Hid (Below j w w5):=(L.out.back X.out).trans D
    have E:Hid (zan C q= .error p):=bdE J.out H
    unfold Pan
    go_wp2
    refine⟨rfl,?_⟩
    rw[E.out]
    exact⟨rfl,A.out⟩
   |ok a5=>
    rintro e w5 ⟨rfl,S5,m,s⟩
    have ai:=zc m
    have V:Hid (IS o S w S5 w5):=X.out.trans s
    clear m s
    have M:=zc (bdO J.out H)
    have O:0<a5.pos:=by rw[(zb0 H).1];exact Nat.succ_pos _
    go_wp2_with fail
    refine (zet C z n j o S5 a5 ⟨3,sNone,sNone,a4.2⟩ _ ai.out O).mono ?_
    cases I:zn C ⟨3,sNone,sNone,a4.2⟩ a5 with
    |error p=>
     rintro e w6 ⟨rfl,D⟩
     have A:Hid (Below j w w6):=(L.out.back V.out).trans D
     have E:Hid (zan C q= .error p):=M.out.trans I
     unfold Pan
     go_wp2
     refine⟨rfl,?_⟩
     rw[E.out]
     exact⟨rfl,A.out⟩
    |ok a6=>
     rintro e w6 ⟨rfl,S6,m,s⟩
     have ah:=zc m
     have aa:Hid (IS o S w S6 w6):=V.out.trans s
     clear m s
     have ad:=zc (M.out.trans I)
     go_wp2
     go_end0
     rw[ad.out]
     exact⟨rfl,S6,ah.out,aa.out⟩
theorem znn (C:Cx) (z n j o:Nat) (S:Sv) (q:PS) (w:World) (h:IM C z n j o S q w) (h1:isT C q.pos 4 zF=false) (h2:isT C q.pos 4 zv=false) (h3:isT C q.pos 1 sDefault=true):
  Calls Tryz.prog 150 #[.pointer (some ⟨o,0,none⟩)] w (zN C z n j o (zan C q) id (fun _=>.tuple #[]) S w):=by
 have M:=zc h
 have HY:Hid (zan C q=bd (stmtI C 1 zbG cSemi (adv q)) fun a=>zn C ⟨1,sDefault,zbG,sNone⟩ a):=by show _=_;rw[zan,h1,h2,h3];rfl
 clear h
 go_enter Tryz.func150,Tryz.ntmps150
 go_wp2_with fail
 refine (zH C z n j o S q 4 zF _ M.out (by decide)).mono ?_
 rintro e w1 ⟨rfl,m,s⟩
 rw[h1] at m ⊢
 have X:=zc m
 have ac:=zc s
 clear m s
 go_wp2_with fail
 refine (zH C z n j o S q 4 zv _ X.out (by decide)).mono ?_
 rintro e w2 ⟨rfl,m,s⟩
 rw[h2] at m ⊢
 have N:=zc m
 have ad:Hid (IS o S w S w2):=ac.out.trans s
 clear m s
 go_wp2_with fail
 refine (zH C z n j o S q 1 sDefault _ N.out (by decide)).mono ?_
 rintro e w3 ⟨rfl,m,s⟩
 rw[h3] at m ⊢
 have L:=zc m
 have E:Hid (IS o S w S w3):=ad.out.trans s
 clear m s
 go_wp2_with fail
 refine (zdo C z n j o S (adv q) 1 zbG cSemi _ L.out (by decide) (by decide)).mono ?_
 cases A:stmtI C 1 zbG cSemi (adv q) with
 |error p=>
  rintro e V ⟨rfl,U⟩
  have K:Hid (Below j w V):=(M.out.back E.out).trans U
  have Z:Hid (zan C q= .error p):=bdE HY.out A
  unfold Pan
  go_wp2
  refine⟨rfl,?_⟩
  rw[Z.out]
  exact⟨rfl,K.out⟩
 |ok a4=>
  rintro e V ⟨rfl,S4,m,s⟩
  have aa:=zc m
  have I:Hid (IS o S w S4 V):=E.out.trans s
  clear m s
  have D:=zc (bdO HY.out A)
  have H:=(zgk A (by decide)).2
  go_wp2_with fail
  refine (zet C z n j o S4 a4 ⟨1,sDefault,zbG,sNone⟩ _ aa.out H).mono ?_
  cases J:zn C ⟨1,sDefault,zbG,sNone⟩ a4 with
  |error p=>
   rintro e Y ⟨rfl,U⟩
   have K:Hid (Below j w Y):=(M.out.back I.out).trans U
   have Z:Hid (zan C q= .error p):=D.out.trans J
   unfold Pan
   go_wp2
   refine⟨rfl,?_⟩
   rw[Z.out]
   exact⟨rfl,K.out⟩
  |ok a5=>
   rintro e Y ⟨rfl,S5,m,s⟩
   have ae:=zc m
   have ab:Hid (IS o S w S5 Y):=I.out.trans s
   clear m s
   have O:=zc (D.out.trans J)
   go_wp2
   go_end0
   rw[O.out]
   exact⟨rfl,S5,ae.out,ab.out⟩
theorem zno (C:Cx) (z n j o:Nat) (S:Sv) (q:PS) (w:World) (h:IM C z n j o S q w) (hC:zaV C) (h1:isT C q.pos 4 zF=false) (h2:isT C q.pos 4 zv=false) (h3:isT C q.pos 1 sDefault=false) (h4:isT C q.pos 1 zA=true):
  Calls Tryz.prog 150 #[.pointer (some ⟨o,0,none⟩)] w (zN C z n j o (zan C q) id (fun _=>.tuple #[]) S w):=by
 have V:=zc h
 have HY:Hid (zan C q=bd (letJ C 1 (adv q)) fun a=>zn C ⟨1,(ze C (q.pos+1)).text,(ze C (q.pos+1)).text,sNone⟩ a):=by show _=_;rw[zan,h1,h2,h3,h4];rfl
 clear h
 go_enter Tryz.func150,Tryz.ntmps150
 go_wp2_with fail
 refine (zH C z n j o S q 4 zF _ V.out (by decide)).mono ?_
 rintro e w1 ⟨rfl,m,s⟩
 rw[h1] at m ⊢
 have aa:=zc m
 have ac:=zc s
 clear m s
 go_wp2_with fail
 refine (zH C z n j o S q 4 zv _ aa.out (by decide)).mono ?_
 rintro e w2 ⟨rfl,m,s⟩
 rw[h2] at m ⊢
 have X:=zc m
 have ae:Hid (IS o S w S w2):=ac.out.trans s
 clear m s
 go_wp2_with fail
 refine (zH C z n j o S q 1 sDefault _ X.out (by decide)).mono ?_
 rintro e w3 ⟨rfl,m,s⟩
 rw[h3] at m ⊢
 have O:=zc m
 have U:Hid (IS o S w S w3):=ae.out.trans s
 clear m s
 go_wp2_with fail
 refine (zH C z n j o S q 1 zA _ O.out (by decide)).mono ?_
 rintro e w4 ⟨rfl,m,s⟩
 rw[h4] at m ⊢
 have ab:=zc m
 have K:Hid (IS o S w S w4):=U.out.trans s
 clear m s
 go_wp2_with fail
 refine (zfV C z n j o S (adv q) _ ab.out).mono ?_
 cases A:letJ C 1 (adv q) with
 |error p=>
  rintro e w5 ⟨rfl,hb⟩
  have L:Hid (Below j w w5):=(V.out.back K.out).trans hb
  have HX:Hid (zan C q= .error p):=bdE HY.out A
  unfold Pan
  go_wp2
  refine⟨rfl,?_⟩
  rw[HX.out]
  exact⟨rfl,L.out⟩
 |ok a5=>
  rintro e w5 ⟨rfl,S5,m,s⟩
  have af:=zc m
  have J:Hid (IS o S w S5 w5):=K.out.trans s
  clear m s
  have E:=zc (bdO HY.out A)
  obtain⟨⟨l,e,H⟩,I⟩:=znj A
  have Y:=zc H
  clear H
  go_wp2_with fail
  refine (zi5 C z n j o S5 a5 l _ _ (ze C (q.pos+1)).text _ af.out Y.out (hC _) I).mono ?_
  cases D:zn C ⟨1,(ze C (q.pos+1)).text,(ze C (q.pos+1)).text,sNone⟩ a5 with
  |error p=>
   rintro e M ⟨rfl,hb⟩
   have L:Hid (Below j w M):=(V.out.back J.out).trans hb
   have HX:Hid (zan C q= .error p):=E.out.trans D
   unfold Pan
   go_wp2
   refine⟨rfl,?_⟩
   rw[HX.out]
   exact⟨rfl,L.out⟩
  |ok a6=>
   rintro e M ⟨rfl,S6,m,s⟩
   have ad:=zc m
   have N:Hid (IS o S w S6 M):=J.out.trans s
   clear m s
   have Z:=zc (E.out.trans D)
   go_wp2
   go_end0
   rw[Z.out]
   exact⟨rfl,S6,ad.out,N.out⟩
theorem znp (C:Cx) (z n j o:Nat) (S:Sv) (q:PS) (w:World) (h:IM C z n j o S q w) (hC:zaV C) (h1:isT C q.pos 4 zF=false) (h2:isT C q.pos 4 zv=false) (h3:isT C q.pos 1 sDefault=false) (h4:isT C q.pos 1 zA=false) (h5:isT C q.pos 1 zO=true):
  Calls Tryz.prog 150 #[.pointer (some ⟨o,0,none⟩)] w (zN C z n j o (zan C q) id (fun _=>.tuple #[]) S w):=by
 have U:=zc h
 have HY:Hid (zan C q=bd (fnI C (adv q)) fun a=>zn C ⟨1,(ze C (q.pos+1)).text,(ze C (q.pos+1)).text,sNone⟩ a):=by show _=_;rw[zan,h1,h2,h3,h4,h5];rfl
 clear h
 go_enter Tryz.func150,Tryz.ntmps150
 go_wp2_with fail
 refine (zH C z n j o S q 4 zF _ U.out (by decide)).mono ?_
 rintro e w1 ⟨rfl,m,s⟩
 rw[h1] at m ⊢
 have Z:=zc m
 have ab:=zc s
 clear m s
 go_wp2_with fail
 refine (zH C z n j o S q 4 zv _ Z.out (by decide)).mono ?_
 rintro e w2 ⟨rfl,m,s⟩
 rw[h2] at m ⊢
 have V:=zc m
 have ah:Hid (IS o S w S w2):=ab.out.trans s
 clear m s
 go_wp2_with fail
 refine (zH C z n j o S q 1 sDefault _ V.out (by decide)).mono ?_
 rintro e w3 ⟨rfl,m,s⟩
 rw[h3] at m ⊢
 have N:=zc m
 have O:Hid (IS o S w S w3):=ah.out.trans s
 clear m s
 go_wp2_with fail
 refine (zH C z n j o S q 1 zA _ N.out (by decide)).mono ?_
 rintro e w4 ⟨rfl,m,s⟩
 rw[h4] at m ⊢
 have aa:=zc m
 have ag:Hid (IS o S w S w4):=O.out.trans s
 clear m s
 go_wp2_with fail
 refine (zH C z n j o S q 1 zO _ aa.out (by decide)).mono ?_
 rintro e w5 ⟨rfl,m,s⟩
 rw[h5] at m ⊢
 have ai:=zc m
 have K:Hid (IS o S w S w5):=ag.out.trans s
 clear m s
 go_wp2_with fail
 refine (zfW C z n j o S (adv q) _ ai.out).mono ?_
 cases A:fnI C (adv q) with
 |error p=>
  rintro e M ⟨rfl,Y⟩
  have L:Hid (Below j w M):=(U.out.back K.out).trans Y
  have HX:Hid (zan C q= .error p):=bdE HY.out A
  unfold Pan
  go_wp2
  refine⟨rfl,?_⟩
  rw[HX.out]
  exact⟨rfl,L.out⟩
 |ok a6=>
  rintro e M ⟨rfl,S6,m,s⟩
  have af:=zc m
  have E:Hid (IS o S w S6 M):=K.out.trans s
  clear m s
  have H:=zc (bdO HY.out A)
  obtain⟨⟨l,e,I⟩,J⟩:=znk A
  have X:=zc I
  clear I
  go_wp2_with fail
  refine (zi5 C z n j o S6 a6 l _ _ (ze C (q.pos+1)).text _ af.out X.out (hC _) J).mono ?_
  cases D:zn C ⟨1,(ze C (q.pos+1)).text,(ze C (q.pos+1)).text,sNone⟩ a6 with
  |error p=>
   rintro e w7 ⟨rfl,Y⟩
   have L:Hid (Below j w w7):=(U.out.back E.out).trans Y
   have HX:Hid (zan C q= .error p):=H.out.trans D
   unfold Pan
   go_wp2
   refine⟨rfl,?_⟩
   rw[HX.out]
   exact⟨rfl,L.out⟩
  |ok a7=>
   rintro e w7 ⟨rfl,S7,m,s⟩
   have ae:=zc m
   have ac:Hid (IS o S w S7 w7):=E.out.trans s
   clear m s
   have ad:=zc (H.out.trans D)
   go_wp2
   go_end0
   rw[ad.out]
   exact⟨rfl,S7,ae.out,ac.out⟩
theorem znq (C:Cx) (z n j o:Nat) (S:Sv) (q:PS) (w:World) (h:IM C z n j o S q w) (V:isT C q.pos 4 zF=false) (Y:isT C q.pos 4 zv=false) (Z:isT C q.pos 1 sDefault=false) (U:isT C q.pos 1 zA=false) (X:isT C q.pos 1 zO=false):
  Calls Tryz.prog 150 #[.pointer (some ⟨o,0,none⟩)] w (zN C z n j o (zan C q) id (fun _=>.tuple #[]) S w):=by
 have O:=zc h
 have HY:Hid (zan C q= .error (zq C q.pos)):=by show _=_;rw[zan,V,Y,Z,U,X];rfl
 clear h
 go_enter Tryz.func150,Tryz.ntmps150
 go_wp2_with fail
 refine (zH C z n j o S q 4 zF _ O.out (by decide)).mono ?_
 rintro e w1 ⟨rfl,m,s⟩
 rw[V] at m ⊢
 have I:=zc m
 have L:=zc s
 clear m s
 go_wp2_with fail
 refine (zH C z n j o S q 4 zv _ I.out (by decide)).mono ?_
 rintro e w2 ⟨rfl,m,s⟩
 rw[Y] at m ⊢
 have H:=zc m
 have N:Hid (IS o S w S w2):=L.out.trans s
 clear m s
 go_wp2_with fail
 refine (zH C z n j o S q 1 sDefault _ H.out (by decide)).mono ?_
 rintro e w3 ⟨rfl,m,s⟩
 rw[Z] at m ⊢
 have D:=zc m
 have E:Hid (IS o S w S w3):=N.out.trans s
 clear m s
 go_wp2_with fail
 refine (zH C z n j o S q 1 zA _ D.out (by decide)).mono ?_
 rintro e w4 ⟨rfl,m,s⟩
 rw[U] at m ⊢
 have J:=zc m
 have M:Hid (IS o S w S w4):=E.out.trans s
 clear m s
 go_wp2_with fail
 refine (zH C z n j o S q 1 zO _ J.out (by decide)).mono ?_
 rintro e w5 ⟨rfl,m,s⟩
 rw[X] at m ⊢
 have A:=zc m
 have K:Hid (IS o S w S w5):=M.out.trans s
 clear m s
 go_wp2_with fail
 refine (zdG C z n j o S q _ A.out).mono ?_
 rintro e wz ⟨rfl,hb⟩
 have HB:Hid (Below j w wz):=(O.out.back K.out).trans (hb.mono A.out.mem.base)
 have HX:Hid (zan C q= .error (zq C q.pos)):=HY.out
 unfold Pan
 go_wp2
 refine⟨rfl,?_⟩
 rw[HX.out]
 exact⟨rfl,HB.out⟩
theorem znr (C:Cx) (z n j o:Nat) (S:Sv) (q:PS) (w:World) (h:IM C z n j o S q w) (E:zaV C):
  Calls Tryz.prog 150 #[.pointer (some ⟨o,0,none⟩)] w (zN C z n j o (zan C q) id (fun _=>.tuple #[]) S w):=by
 cases A:isT C q.pos 4 zF with
 |true=>exact znl C z n j o S q w h E A
 |false=>
  cases D:isT C q.pos 4 zv with
  |true=>exact znm C z n j o S q w h E A D
  |false=>
   cases H:isT C q.pos 1 sDefault with
   |true=>exact znn C z n j o S q w h A D H
   |false=>
    cases I:isT C q.pos 1 zA with
    |true=>exact zno C z n j o S q w h E A D H I
    |false=>
     cases J:isT C q.pos 1 zO with
     |true=>exact znp C z n j o S q w h E A D H I J
     |false=>exact znq C z n j o S q w h A D H I J
end Go.Proofs.YticdggnnpjachaaGreat
