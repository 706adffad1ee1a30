/-
  What ContainsFunc over Exps answers,and a row of Exps whose elements are written: the walks.
  What exportNames of impl's parser answers: the walks. (It writes into the row that it is handed: so what is told is told from a world on in which that row was not yet there.)
  What exportItem of impl's parser answers: the walks.
-/
import Derived.Test.YtjdddblpfbmpaaaGreatCoImplParseU
namespace Go.Proofs.YtjdddblpfbmpaaaGreat
set_option maxRecDepth 100000
set_option maxHeartbeats 3200000
open Go.RowKit Go.PlainAid Go.Sort
theorem zi3 {α:Type} (f:α→List Value) (m:Nat) (n: ∀x,(f x).length=m): ∀(l:List α) (j i:Nat) (x y:α) (v:Value),l[j]? =some x→i<m→f y=(f x).set i v→(l.flatMap f).set (j*m+i) v=(l.set j y).flatMap f:=by
 intro l
 induction l with
 |nil=>intro j i x y v h;simp at h
 |cons z l A=>
  intro j i x y v h q w
  match j with
  |0=>
   simp only[List.getElem?_cons_zero,Option.some.injEq] at h
   subst h
   rw[List.flatMap_cons,Nat.zero_mul,Nat.zero_add,List.set_append_left _ _ (by rw[n];exact q),List.set_cons_zero,List.flatMap_cons,w]
  |j+1=>
   simp only[List.getElem?_cons_succ] at h
   rw[List.flatMap_cons,List.set_append_right _ _ (by rw[n,Nat.succ_mul];omega),n,List.set_cons_succ,List.flatMap_cons,←A j i x y v h q w]
   congr 2
   rw[Nat.succ_mul]
   omega
def mxE (s:ByteArray) (l:List Ep) (j:Nat):List Ep:=(l.take j).map (zak s)++(l.drop j).map zz
theorem zi4 (s:ByteArray) (l:List Ep) (j:Nat):(mxE s l j).length=l.length:=by simp[mxE];omega
theorem zi5 {s:ByteArray} {l:List Ep} {j:Nat} {x:Ep} (h:l[j]? =some x):(mxE s l j)[j]? =some (zz x):=by
 obtain⟨q,rfl⟩:=List.getElem?_eq_some_iff.1 h
 have n:((l.take j).map (zak s)).length=j:=by simp;omega
 rw[mxE,List.getElem?_append_right (by omega),n,Nat.sub_self,List.drop_eq_getElem_cons q]
 rfl
theorem zni {s:ByteArray} {l:List Ep} {j:Nat} {x:Ep} (h:l[j]? =some x):(mxE s l j).set j (zak s x)=mxE s l (j+1):=by
 obtain⟨n,rfl⟩:=List.getElem?_eq_some_iff.1 h
 have q:((l.take j).map (zak s)).length=j:=by simp;omega
 rw[mxE,List.set_append_right _ _ (by omega),q,Nat.sub_self,List.drop_eq_getElem_cons n,List.map_cons,List.set_cons_zero,mxE,List.take_succ_eq_append_getElem n,List.map_append,List.append_assoc]
 rfl
theorem znj (s:ByteArray) (l:List Ep):mxE s l 0=l.map zz:=by simp[mxE]
theorem znk (s:ByteArray) (l:List Ep):mxE s l l.length=l.map (zak s):=by simp[mxE]
theorem znl (x:Ep) (w:World):
  Calls Tryz.prog 228 #[epV x] w fun e h=>e= .returned (.bool (x.loc.toList==[100,101,102,97,117,108,116]))∧Below w.heap.size w h:=by
 unfold epV
 cases j:(x.loc.toList==[100,101,102,97,117,108,116]) with
 |true=>
  go_enter Tryz.func228,Tryz.ntmps228
  go_wp2
  go_ret
  exact⟨rfl,(Below.refl _ _).alloc (Nat.le_refl _) _⟩
 |false=>
  go_enter Tryz.func228,Tryz.ntmps228
  go_wp2
  go_ret
  exact⟨rfl,(Below.refl _ _).alloc (Nat.le_refl _) _⟩
theorem znm {l:List Ep} {j:Nat} {x:Ep} (h:l[j]? =some x):za4 (l.drop j)=((x.loc.toList==[100,101,102,97,117,108,116])||za4 (l.drop (j+1))):=by
 obtain⟨n,rfl⟩:=List.getElem?_eq_some_iff.1 h
 rw[List.drop_eq_getElem_cons n]
 simp only[za4,List.any_cons]
theorem znn (z g:Nat) (r:Rw) (l:List Ep) (w:World) (h:OwnR w z 86 4 r l.length (l.flatMap fun e=>epL (zz e))) (hl:l.length≤4000) (X:r.a=some ⟨g,0,none⟩):
  Calls Tryz.prog 234 #[.slice (some ⟨g,0,none⟩) l.length r.cap,.func (.func 228) #[] #[]] w fun e w'=>(∃v:Int,e= .returned (.int .i64 v)∧decide (0≤v)=za4 l)∧Below w.heap.size w w':=by
 have Y:=zc h
 have M:=zc X
 clear h X
 go_enter Tryz.func234,Tryz.ntmps234
 go_wp2
 go_loopg [8] (l.length+1) (fun k i wr=>∃j:Nat,i= .int .i64 j∧j+k=l.length+1∧za4 (l.drop j)=za4 l∧Below w.heap.size w wr)
 case atStart=>exact⟨0,rfl,by omega,by simp,Below.refl _ _⟩
 case round=>
  obtain⟨j,rfl,hj,he,J⟩:=hrel
  have O:=zc he
  clear he
  by_cases K:j<l.length
  ·have H:(j:Int)<(l.length:Int):=by omega
   obtain⟨x,N⟩:=zey K
   have L:=zc (Y.out.keep fun k g=>J.block k (Y.out.typed g).2.1)
   obtain⟨g',A,n⟩:=OwnR.elem (f:=fun e=>epL (zz e)) (m:=4) (fun _=>rfl) L.out N
   have eg:g'=g:=by have:=A.symm.trans M.out;simpa using this
   subst eg
   have k0:=n 0 (by omega)
   have k1:=n 1 (by omega)
   have k2:=n 2 (by omega)
   have k3:=n 3 (by omega)
   simp only[epL,zz,Nat.add_zero,List.getElem?_cons_zero,List.getElem?_cons_succ] at k0 k1 k2 k3
   have Z:=znm N
   clear n A N
   obtain⟨I,q⟩: ∃I,I=j+1:=⟨_,rfl⟩
   have ej:(j:Int)+1=(I:Int):=by omega
   have V:=zc q
   clear q
   go_wp2_with fail
   refine (znl (zz x) _).mono ?_
   rintro e w1 ⟨rfl,E⟩
   have D:=J.trans (E.mono J.size)
   clear E
   rw[show (zz x).loc=x.loc from rfl]
   cases U:(x.loc.toList==[100,101,102,97,117,108,116]) with
   |true=>
    go_wp2
    go_ret
    refine⟨⟨_,rfl,?_⟩,D⟩
    rw[←O.out,Z,U]
    simp
   |false=>
    go_wp2
    go_roundg (gk-1)
    case rel=>
     refine⟨I,rfl,by have:=V.out;omega,?_,D⟩
     rw[←O.out,Z,U,V.out]
     simp
    case measure=>omega
  ·have H: ¬(j:Int)<(l.length:Int):=by omega
   go_wp2
   go_ret
   refine⟨⟨_,rfl,?_⟩,J⟩
   rw[←O.out,List.drop_eq_nil_of_le (by omega)]
   rfl
theorem zi6 (j g:Nat) (r:Rw) (l:List Ep) (w:World) (h:OwnR w j 86 4 r l.length (l.flatMap fun e=>epL (zz e))) (E:l.length≤4000) (z:r.a=some ⟨g,0,none⟩):
  Calls Tryz.prog 229 #[.slice (some ⟨g,0,none⟩) l.length r.cap,.func (.func 228) #[] #[]] w fun e D=>e= .returned (.bool (za4 l))∧Below w.heap.size w D:=by
 have A:=zc h
 have n:=zc z
 clear h z
 go_enter Tryz.func229,Tryz.ntmps229
 go_wp2_with fail
 refine (znn j g r l _ A.out E n.out).mono ?_
 rintro e J ⟨⟨v,rfl,q⟩,H⟩
 have I:=zc q
 clear q
 go_wp2
 go_ret
 exact⟨zl I.out,H⟩
def za1 (C:Cx) (l:List Ep) (q:PS):PR:=
 if isT C q.pos 1 zO||za4 l then bd (zd C 1 zO q) fun a=>bd (zG C a) fun b=>bd (zd C 4 cSemi b.1) fun c=>zQ (fun e=>zn C (zak b.2 e)) l (.ok c)
 else bd (zd C 4 cSemi q) fun c=>zQ (fun e=>zn C (zz e)) l (.ok c)
theorem zi7 (X:Ep→Ep) (l:List Ep):(l.map X).flatMap epL=l.flatMap fun e=>epL (X e):=by rw[List.flatMap_map]
theorem zno (C:Cx) (M z n D b0 g:Nat) (r:Rw) (S I:Sv) (q0 q:PS) (l:List Ep) (w wc:World) (hh:IM C M z n D S q0 w) (h:IM C M z n D I q wc) (h0:IS D S w I wc) (hl:l.length≤4000) (hf:Fr 86 4 wc b0 r l.length (l.flatMap (fun e=>epL (zz e))) I) (hg:r.a=some ⟨g,0,none⟩) (hi:isT C q.pos 1 zO=false) (ha:za4 l=false):
  Calls Tryz.prog 210 #[.pointer (some ⟨D,0,none⟩),.slice (some ⟨g,0,none⟩) l.length r.cap] wc (zM C M z n D (za1 C l q) id (fun _=>.tuple #[]) S w):=by
 have HF:=zc hf
 have HG:=zc hg
 have HY:Hid (za1 C l q=bd (zd C 4 cSemi q) fun c=>zQ (fun e=>zn C (zz e)) l (.ok c)):=by show _=_;rw[za1,hi,ha];rfl
 clear hf hg
 go_enter Tryz.func210,Tryz.ntmps210
 go_wp2_with fail
 refine (zbE C M z n D I q 1 zO _ h).mono ?_
 rintro e w1 ⟨rfl,A⟩
 rw[hi]
 have aq:=h.later A
 have ai:=(h0.trans (IS.below A))
 have ad:IS D I wc I w1:=IS.below A
 clear A
 have ae:Hid (Fr 86 4 w1 b0 r l.length (l.flatMap (fun e=>epL (zz e))) I):=HF.out.step h (by decide) ad
 clear ad
 go_wp2_with fail
 refine (zi6 b0 g r l _ ae.out.1 hl HG.out).mono ?_
 rintro e w2 ⟨rfl,A⟩
 rw[ha]
 have am:Hid (Fr 86 4 w2 b0 r l.length (l.flatMap (fun e=>epL (zz e))) I):=ae.out.later A
 have V:=aq.later A
 have Z:=(ai.trans (IS.below A))
 clear A
 go_wp2_with fail
 refine (zbM C M z n D I q 59 _ V).mono ?_
 cases L:zd C 4 cSemi q with
 |error p=>
  rintro e w3 ⟨rfl,A⟩
  have HB:=(hh.back Z).trans A
  have HX:Hid (za1 C l q= .error p):=bdE HY.out L
  unfold Pan
  go_wp2
  refine⟨rfl,?_⟩
  rw[HX.out]
  exact⟨rfl,HB⟩
 |ok a3=>
  rintro e w3 ⟨rfl,S3,aj,s⟩
  have an:Hid (Fr 86 4 w3 b0 r l.length (l.flatMap (fun e=>epL (zz e))) S3):=am.out.step V (by decide) s
  have ao:=Z.trans s
  clear s
  have ak:=zc (bdO HY.out L)
  have aa:0<a3.pos:=by rw[(zbx L).1];exact Nat.succ_pos _
  go_wp2
  go_loopg [39] l.length (fun k i wr=>∃(j:Nat) (N:Sv) (J:PS),i= .int .i64 j∧j+k=l.length∧za1 C l q=zQ (fun e=>zn C (zz e)) (l.drop j) (.ok J)∧0<J.pos∧IM C M z n D N J wr∧IS D S w N wr∧Fr 86 4 wr b0 r l.length (l.flatMap fun e=>epL (zz e)) N)
  case atStart=>exact⟨0,S3,a3,rfl,by omega,ak.out,aa,aj,ao,an.out⟩
  case round=>
   obtain⟨j,N,J,rfl,hj,hy,Y,m',s',f'⟩:=hrel
   have ab:=zc hy
   have H:=m'
   have O:=s'
   have ac:Hid (Fr 86 4 wr b0 r l.length (l.flatMap fun e=>epL (zz e)) N):=f'
   clear hy m' s' f'
   by_cases ag:j<l.length
   ·have af:(j:Int)<(l.length:Int):=by omega
    obtain⟨x,hx⟩:=zey ag
    obtain⟨g',X,E⟩:=OwnR.elem (f:=fun e=>epL (zz e)) (m:=4) (fun _=>rfl) ac.out.1 hx
    have eg:g'=g:=by have:=X.symm.trans HG.out;simpa using this
    subst eg
    have k0:=E 0 (by omega)
    have k1:=E 1 (by omega)
    have k2:=E 2 (by omega)
    have k3:=E 3 (by omega)
    simp only[epL,zz,Nat.add_zero,List.getElem?_cons_zero,List.getElem?_cons_succ] at k0 k1 k2 k3
    have HZ:=zc (ab.out.trans (zgf (fun e=>zn C (zz e)) hx J))
    clear E X hx
    obtain⟨U,K⟩: ∃U,U=j+1:=⟨_,rfl⟩
    have ej:(j:Int)+1=(U:Int):=by omega
    rw[←K] at HZ
    have av:=H.lt
    have HJ:=zc K
    clear K
    go_wp2_with fail
    refine (zeq C M z n D N J (zz x) _ (H.alloc _) Y).mono ?_
    cases hn:zn C (zz x) J with
    |error p=>
     rintro e wy ⟨rfl,A⟩
     have HB:Below n w wy:=(hh.back (O.alloc _)).trans A
     have HX:Hid (za1 C l q= .error p):=by show _=_;rw[HZ.out,hn];exact zfo _ _ _
     unfold Pan
     go_wp2
     refine⟨rfl,?_⟩
     rw[HX.out]
     exact⟨rfl,HB⟩
    |ok ay=>
     rintro e wy ⟨rfl,Sy,ah,s⟩
     have au:IS D S w Sy wy:=(O.alloc _).trans s
     have al:Hid (Fr 86 4 wy b0 r l.length (l.flatMap fun e=>epL (zz e)) Sy):=(ac.out.later ((Below.refl _ _).alloc (Nat.le_refl _) _)).step (H.alloc _) (by decide) s
     have ap:Hid (za1 C l q=zQ (fun e=>zn C (zz e)) (l.drop U) (.ok ay)):=by show _=_;rw[HZ.out,hn]
     have ar:Hid (0<ay.pos):=by show 0<ay.pos;rw[zi1 hn];exact Y
     clear s
     go_wp2
     go_roundg (gk-1)
     case rel=>exact⟨U,Sy,ay,rfl,by have:=HJ.out;omega,ap.out,ar.out,ah,au,al.out⟩
     case measure=>omega
   ·have af: ¬(j:Int)<(l.length:Int):=by omega
    have HZ:Hid (za1 C l q= .ok J):=by show _=_;rw[ab.out,List.drop_eq_nil_of_le (by omega)];rfl
    go_wp2
    go_end0
    rw[HZ.out]
    exact⟨rfl,N,H,O⟩
theorem znp (C:Cx) (H z j D b0 g:Nat) (r:Rw) (S A:Sv) (Y q:PS) (l:List Ep) (w wc:World) (hh:IM C H z j D S Y w) (h:IM C H z j D A q wc) (Z:IS D S w A wc) (hl:l.length≤4000) (V:Fr 86 4 wc b0 r l.length (l.flatMap (fun e=>epL (zz e))) A) (U:r.a=some ⟨g,0,none⟩) (J:isT C q.pos 1 zO=false) (X:za4 l=true):
  Calls Tryz.prog 210 #[.pointer (some ⟨D,0,none⟩),.slice (some ⟨g,0,none⟩) l.length r.cap] wc (zM C H z j D (za1 C l q) id (fun _=>.tuple #[]) S w):=by
 have HF:=zc V
 have HG:=zc U
 have HY:Hid (za1 C l q= .error (zp C q.pos)):=by show _=_;rw[za1,J,X,if_pos (by decide),zfK J];rfl
 clear V U
 go_enter Tryz.func210,Tryz.ntmps210
 go_wp2_with fail
 refine (zbE C H z j D A q 1 zO _ h).mono ?_
 rintro e O ⟨rfl,n⟩
 rw[J]
 have N:=h.later n
 have L:=(Z.trans (IS.below n))
 have E:IS D A wc A O:=IS.below n
 clear n
 have I:Hid (Fr 86 4 O b0 r l.length (l.flatMap (fun e=>epL (zz e))) A):=HF.out.step h (by decide) E
 clear E
 go_wp2_with fail
 refine (zi6 b0 g r l _ I.out.1 hl HG.out).mono ?_
 rintro e w2 ⟨rfl,n⟩
 rw[X]
 have aa:Hid (Fr 86 4 w2 b0 r l.length (l.flatMap (fun e=>epL (zz e))) A):=I.out.later n
 have K:=N.later n
 have M:=(L.trans (IS.below n))
 clear n
 go_wp2_with fail
 refine (zdE C H z j D A q zO _ K).mono ?_
 rw[zfK J]
 rintro e w3 ⟨rfl,n⟩
 have HB:=(hh.back M).trans n
 have HX:Hid (za1 C l q= .error (zp C q.pos)):=HY.out
 unfold Pan
 go_wp2
 refine⟨rfl,?_⟩
 rw[HX.out]
 exact⟨rfl,HB⟩
theorem znq (C:Cx) (O A n H b0 g:Nat) (r:Rw) (S Sc:Sv) (q0 q:PS) (l:List Ep) (w wc:World) (hh:IM C O A n H S q0 w) (h:IM C O A n H Sc q wc) (h0:IS H S w Sc wc) (hC:zaT C) (hl:l.length≤4000) (hf:Fr 86 4 wc b0 r l.length (l.flatMap (fun e=>epL (zz e))) Sc) (hg:r.a=some ⟨g,0,none⟩) (ah:w.heap.size≤g) (hi:isT C q.pos 1 zO=true):
  Calls Tryz.prog 210 #[.pointer (some ⟨H,0,none⟩),.slice (some ⟨g,0,none⟩) l.length r.cap] wc (zM C O A n H (za1 C l q) id (fun _=>.tuple #[]) S w):=by
 have HF:=zc hf
 have HG:=zc hg
 have au:=zc ah
 have HY:Hid (za1 C l q=bd (zd C 1 zO q) fun a=>bd (zG C a) fun b=>bd (zd C 4 cSemi b.1) fun c=>zQ (fun e=>zn C (zak b.2 e)) l (.ok c)):=by show _=_;rw[za1,hi];rfl
 clear hf hg ah
 go_enter Tryz.func210,Tryz.ntmps210
 go_wp2_with fail
 refine (zbE C O A n H Sc q 1 zO _ h).mono ?_
 rintro e w1 ⟨rfl,M⟩
 rw[hi]
 have az:=h.later M
 have ag:=(h0.trans (IS.below M))
 have ar:IS H Sc wc Sc w1:=IS.below M
 clear M
 have aB:Hid (Fr 86 4 w1 b0 r l.length (l.flatMap (fun e=>epL (zz e))) Sc):=HF.out.step h (by decide) ar
 clear ar
 go_wp2_with fail
 refine (zdE C O A n H Sc q zO _ az).mono ?_
 cases ax:zd C 1 zO q with
 |error p=>
  rintro e w2 ⟨rfl,M⟩
  have HB:=(hh.back ag).trans M
  have Y:Hid (za1 C l q= .error p):=bdE HY.out ax
  unfold Pan
  go_wp2
  refine⟨rfl,?_⟩
  rw[Y.out]
  exact⟨rfl,HB⟩
 |ok a2=>
  rintro e w2 ⟨rfl,S2,av,s⟩
  have aM:Hid (Fr 86 4 w2 b0 r l.length (l.flatMap (fun e=>epL (zz e))) S2):=aB.out.step az (by decide) s
  have ai:=ag.trans s
  clear s
  have aw:=zc (bdO HY.out ax)
  go_wp2_with fail
  refine (zeX C O A n H S2 a2 _ av hC).mono ?_
  cases am:zG C a2 with
  |error p=>
   rintro e w3 ⟨rfl,M⟩
   have HB:=(hh.back ai).trans M
   have Y:Hid (za1 C l q= .error p):=bdE aw.out am
   unfold Pan
   go_wp2
   refine⟨rfl,?_⟩
   rw[Y.out]
   exact⟨rfl,HB⟩
  |ok z=>
   rintro e w3 ⟨rfl,S3,ae,s⟩
   have aa:Hid (Fr 86 4 w3 b0 r l.length (l.flatMap (fun e=>epL (zz e))) S3):=aM.out.step av (by decide) s
   have aC:=ai.trans s
   clear s
   have an:=zc (bdO aw.out am)
   have ac:Hid (Fr 86 4 w3 b0 r l.length ((mxE z.2 l 0).flatMap epL) S3):=by show Fr _ _ _ _ _ _ _ _;rw[znj,zi7];exact aa.out
   have ab:g≠H:=aa.out.ngp ae (by decide) (by rw[Rw.blk,HG.out];rfl)
   have ap:g≠O:=aa.out.ngt ae (by decide) (by rw[Rw.blk,HG.out];rfl)
   have V:Hid (¬S3.has g):=aa.out.2 g (by rw[Rw.blk,HG.out];rfl)
   have aq:=zc ab
   have al:=zc ap
   clear ab ap
   go_wp2
   go_loopg [22] l.length (fun k i wr=>∃(j:Nat),i= .int .i64 j∧j+k=l.length∧IM C O A n H S3 z.1 wr∧IS H S w S3 wr∧Fr 86 4 wr b0 r l.length ((mxE z.2 l j).flatMap epL) S3)
   case atStart=>exact⟨0,rfl,by omega,ae,aC,ac.out⟩
   case round=>
    obtain⟨j,rfl,hj,m',s',f'⟩:=hrel
    have E:=m'
    have I:=s'
    have L:Hid (Fr 86 4 wr b0 r l.length ((mxE z.2 l j).flatMap epL) S3):=f'
    clear m' s' f'
    by_cases Z:j<l.length
    ·have U:(j:Int)<(l.length:Int):=by omega
     obtain⟨x,hx⟩:=zey Z
     have Y:=zc hx
     have K:=L.out.1
     have ho:OwnR wr b0 86 4 r (mxE z.2 l j).length ((mxE z.2 l j).flatMap epL):=by rw[zi4];exact K
     obtain⟨g',N,D⟩:=OwnR.elem (f:=epL) (m:=4) (fun _=>rfl) ho (zi5 hx)
     have eg:g'=g:=by have:=N.symm.trans HG.out;simpa using this
     subst eg
     have k0:=D 0 (by omega)
     have k3:=D 3 (by omega)
     simp only[epL,zz,Nat.add_zero,List.getElem?_cons_zero,List.getElem?_cons_succ] at k0 k3
     unfold OwnR at K
     rw[HG.out] at K
     have aP:=K.frozenAt
     have aL:=zc K
     clear D N hx K ho
     obtain⟨X,J⟩: ∃X,X=j+1:=⟨_,rfl⟩
     have ej:(j:Int)+1=(X:Int):=by omega
     have HJ:=zc J
     clear J
     go_wp2
     go_roundg (gk-1)
     case rel=>
      refine⟨X,rfl,by have:=HJ.out;omega,(E.set aq.out al.out V.out _ _).set aq.out al.out V.out _ _,(I.new au.out _ _).new au.out _ _,?_,L.out.2⟩
      have aJ:=(aL.out.stored (j*4+0) (.int .i64 2)).1
      have ao:=(aJ.stored (j*4+3) (.string z.2)).1
      rw[zi3 epL 4 (fun _=>rfl) _ j 0 (zz x) ⟨2,x.name,x.loc,sNone⟩ (.int .i64 2) (zi5 Y.out) (by omega) rfl,zi3 epL 4 (fun _=>rfl) ((mxE z.2 l j).set j ⟨2,x.name,x.loc,sNone⟩) j 3 ⟨2,x.name,x.loc,sNone⟩ (zak z.2 x) (.string z.2) (List.getElem?_set_self (by rw[zi4];exact Z)) (by omega) rfl,List.set_set,zni Y.out,←HJ.out] at ao
      unfold OwnR
      rw[HG.out]
      exact ao
     case measure=>omega
    ·have U: ¬(j:Int)<(l.length:Int):=by omega
     have aI:j=l.length:=by omega
     subst aI
     have aE:Hid (Fr 86 4 wr b0 r l.length (l.flatMap fun e=>epL (zak z.2 e)) S3):=by show Fr _ _ _ _ _ _ _ _;rw[←zi7,←znk z.2 l];exact L.out
     go_wp2_with fail
     refine (zbM C O A n H S3 z.1 59 _ E).mono ?_
     cases ad:zd C 4 cSemi z.1 with
     |error p=>
      rintro e w4 ⟨rfl,M⟩
      have HB:=(hh.back I).trans M
      have Y:Hid (za1 C l q= .error p):=bdE an.out ad
      unfold Pan
      go_wp2
      refine⟨rfl,?_⟩
      rw[Y.out]
      exact⟨rfl,HB⟩
     |ok a4=>
      rintro e w4 ⟨rfl,S4,aK,s⟩
      have ac:Hid (Fr 86 4 w4 b0 r l.length (l.flatMap fun e=>epL (zak z.2 e)) S4):=aE.out.step E (by decide) s
      have aG:=I.trans s
      clear s
      have aN:=zc (bdO an.out ad)
      have aj:0<a4.pos:=by rw[(zbx ad).1];exact Nat.succ_pos _
      go_wp2
      go_loopg [39] l.length (fun k i wr=>∃(j:Nat) (S':Sv) (q':PS),i= .int .i64 j∧j+k=l.length∧za1 C l q=zQ (fun e=>zn C (zak z.2 e)) (l.drop j) (.ok q')∧0<q'.pos∧IM C O A n H S' q' wr∧IS H S w S' wr∧Fr 86 4 wr b0 r l.length (l.flatMap fun e=>epL (zak z.2 e)) S')
      case atStart=>exact⟨0,S4,a4,rfl,by omega,aN.out,aj,aK,aG,ac.out⟩
      case round=>
       obtain⟨j,S',q',rfl,hj,hy,af,m',s',f'⟩:=hrel
       have ak:=zc hy
       have E:=m'
       have I:=s'
       have L:Hid (Fr 86 4 wr b0 r l.length (l.flatMap fun e=>epL (zak z.2 e)) S'):=f'
       clear hy m' s' f'
       by_cases Z:j<l.length
       ·have U:(j:Int)<(l.length:Int):=by omega
        obtain⟨x,hx⟩:=zey Z
        obtain⟨g',N,D⟩:=OwnR.elem (f:=fun e=>epL (zak z.2 e)) (m:=4) (fun _=>rfl) L.out.1 hx
        have eg:g'=g:=by have:=N.symm.trans HG.out;simpa using this
        subst eg
        have k0:=D 0 (by omega)
        have k1:=D 1 (by omega)
        have k2:=D 2 (by omega)
        have k3:=D 3 (by omega)
        simp only[epL,zak,Nat.add_zero,List.getElem?_cons_zero,List.getElem?_cons_succ] at k0 k1 k2 k3
        have HZ:=zc (ak.out.trans (zgf (fun e=>zn C (zak z.2 e)) hx q'))
        clear D N hx
        obtain⟨X,J⟩: ∃X,X=j+1:=⟨_,rfl⟩
        have ej:(j:Int)+1=(X:Int):=by omega
        rw[←J] at HZ
        have ab:=E.lt
        have HJ:=zc J
        clear J
        go_wp2_with fail
        refine (zeq C O A n H S' q' (zak z.2 x) _ (E.alloc _) af).mono ?_
        cases hn:zn C (zak z.2 x) q' with
        |error p=>
         rintro e wy ⟨rfl,M⟩
         have HB:Below n w wy:=(hh.back (I.alloc _)).trans M
         have Y:Hid (za1 C l q= .error p):=by show _=_;rw[HZ.out,hn];exact zfo _ _ _
         unfold Pan
         go_wp2
         refine⟨rfl,?_⟩
         rw[Y.out]
         exact⟨rfl,HB⟩
        |ok ay=>
         rintro e wy ⟨rfl,Sy,aH,s⟩
         have aF:IS H S w Sy wy:=(I.alloc _).trans s
         have aA:Hid (Fr 86 4 wy b0 r l.length (l.flatMap fun e=>epL (zak z.2 e)) Sy):=(L.out.later ((Below.refl _ _).alloc (Nat.le_refl _) _)).step (E.alloc _) (by decide) s
         have aD:Hid (za1 C l q=zQ (fun e=>zn C (zak z.2 e)) (l.drop X) (.ok ay)):=by show _=_;rw[HZ.out,hn]
         have aO:Hid (0<ay.pos):=by show 0<ay.pos;rw[zi1 hn];exact af
         clear s
         go_wp2
         go_roundg (gk-1)
         case rel=>exact⟨X,Sy,ay,rfl,by have:=HJ.out;omega,aD.out,aO.out,aH,aF,aA.out⟩
         case measure=>omega
       ·have U: ¬(j:Int)<(l.length:Int):=by omega
        have HZ:Hid (za1 C l q= .ok q'):=by show _=_;rw[ak.out,List.drop_eq_nil_of_le (by omega)];rfl
        go_wp2
        go_end0
        rw[HZ.out]
        exact⟨rfl,S',E,I⟩
theorem znr (C:Cx) (D n j z b0:Nat) (r:Rw) (S A:Sv) (I q:PS) (l:List Ep) (w wc:World) (L:IM C D n j z S I w) (h:IM C D n j z A q wc) (N:IS z S w A wc) (X:zaT C) (K:l.length≤4000) (M:l.length≠0) (E:Fr 86 4 wc b0 r l.length (l.flatMap (fun e=>epL (zz e))) A) (J:w.heap.size≤b0):
  Calls Tryz.prog 210 #[.pointer (some ⟨z,0,none⟩),.slice r.a l.length r.cap] wc (zM C D n j z (za1 C l q) id (fun _=>.tuple #[]) S w):=by
 rcases E.1.nil_or with ⟨_,_,e⟩|⟨g,H⟩
 ·exact absurd e M
 ·have U:w.heap.size≤g:=Nat.le_trans J (E.1.typed (show r.blk=some g by rw[Rw.blk,H];rfl)).1
  rw[H]
  cases O:isT C q.pos 1 zO with
  |true=>exact znq C D n j z b0 g r S A I q l w wc L h N X K E H U O
  |false=>
   cases V:za4 l with
   |true=>exact znp C D n j z b0 g r S A I q l w wc L h N K E H O V
   |false=>exact zno C D n j z b0 g r S A I q l w wc L h N K E H O V
theorem zns {C:Cx} {k:Int} {n:ByteArray} {q b:PS} (h:zV C k n q= .ok b):b={q with st:=q.st++[⟨k,n,(q.ex.length:Int)-1⟩]}:=by
 unfold zV at h
 split at h
 ·cases h
 ·cases h
  rfl
theorem zgh {C:Cx} {k:Int} {n s:ByteArray} {q b:PS} (h:stmtI C k n s q= .ok b) (H:0<s.size):(∃l e,b.st=l++[⟨k,n,e⟩])∧0<b.pos:=by
 obtain⟨a,E,w⟩:=zj h
 obtain⟨c,A,z⟩:=zj w
 have j:=zho _ A
 have D:=zns z
 subst D
 refine⟨⟨_,_,rfl⟩,?_⟩
 rw[j]
 show 0<a.pos+s.size
 omega
theorem znt {C:Cx} {k:Int} {q b:PS} (h:letJ C k q= .ok b):(∃l e,b.st=l++[⟨k,(ze C q.pos).text,e⟩])∧0<b.pos:=by
 obtain⟨a,j,n⟩:=zj h
 obtain⟨c,z,w⟩:=zj n
 have:=zgh w (by decide)
 rw[(zbc j).1] at this
 exact this
theorem znu {C:Cx} {q b:PS} (h:fnI C q= .ok b):(∃l e,b.st=l++[⟨2,(ze C q.pos).text,e⟩])∧0<b.pos:=by
 obtain⟨a,z,n⟩:=zj h
 obtain⟨c,D,w⟩:=zj n
 obtain⟨d,A,j⟩:=zj w
 have:=zgh j (by decide)
 rw[(zbc z).1] at this
 exact this
theorem zi8 (C:Cx) (D z j A:Nat) (S:Sv) (q:PS) (l:List Sm) (k e:Int) (n:ByteArray) (w:World) (h:IM C D z j A S q w) (I:q.st=l++[⟨k,n,e⟩]) (E:n.size≤281474976710656) (H:0<q.pos):
  Calls Tryz.prog 213 #[.pointer (some ⟨A,0,none⟩)] w (zM C D z j A (zn C ⟨1,n,n,sNone⟩ q) id (fun _=>.tuple #[]) S w):=zle C D z j A S q l ⟨k,n,e⟩ w h I E H
def zam (C:Cx) (q:PS):PR:=
 if isT C q.pos 4 zF then bd (zat C true (adv q) []) fun a=>za1 C a.2 a.1
 else if isT C q.pos 4 zv then bd (zd C 1 zO (adv q)) fun a=>bd (zG C a) fun b=>bd (zd C 4 cSemi b.1) fun c=>zn C ⟨3,sNone,sNone,b.2⟩ c
 else if isT C q.pos 1 sDefault then bd (stmtI C 1 zbC cSemi (adv q)) fun a=>zn C ⟨1,sDefault,zbC,sNone⟩ a
 else if isT C q.pos 1 zA then bd (letJ C 1 (adv q)) fun a=>zn C ⟨1,(ze C (q.pos+1)).text,(ze C (q.pos+1)).text,sNone⟩ a
 else if isT C q.pos 1 zN then bd (fnI C (adv q)) fun a=>zn C ⟨1,(ze C (q.pos+1)).text,(ze C (q.pos+1)).text,sNone⟩ a
 else .error (zp C q.pos)
theorem znv (C:Cx) (I n j A:Nat) (S:Sv) (q:PS) (w:World) (h:IM C I n j A S q w) (hC:zaT C) (Y:isT C q.pos 4 zF=true):
  Calls Tryz.prog 192 #[.pointer (some ⟨A,0,none⟩)] w (zM C I n j A (zam C q) id (fun _=>.tuple #[]) S w):=by
 have Z:Hid (zam C q=bd (zat C true (adv q) []) fun a=>za1 C a.2 a.1):=by show _=_;rw[zam,Y];rfl
 go_enter Tryz.func192,Tryz.ntmps192
 go_wp2_with fail
 refine (zH C I n j A S q 4 zF _ h (by decide)).mono ?_
 rintro e w1 ⟨rfl,J,z⟩
 rw[Y] at J ⊢
 go_wp2_with fail
 refine (znh C I n j A S (adv q) _ J).mono ?_
 cases E:zat C true (adv q) [] with
 |error p=>
  rintro e w3 ⟨rfl,hb⟩
  have O:=(h.back z).trans hb
  have K:Hid (zam C q= .error p):=bdE Z.out E
  unfold Pan
  go_wp2
  refine⟨rfl,?_⟩
  rw[K.out]
  exact⟨rfl,O⟩
 |ok L=>
  rintro e w3 ⟨r,S3,rfl,U,s,f,l0,l1⟩
  have V:=z.trans s
  have X:=zc f
  clear s f
  have H:=zc (bdO Z.out E)
  go_wp2_with fail
  refine (znr C I n j A _ r S S3 q L.1 L.2 w _ h U V hC l1 (by omega) X.out z.size).mono ?_
  cases D:za1 C L.2 L.1 with
  |error p=>
   rintro e w4 ⟨rfl,O⟩
   have K:=zc (H.out.trans D)
   unfold Pan
   go_wp2
   refine⟨rfl,?_⟩
   rw[K.out]
   exact⟨rfl,O⟩
  |ok a4=>
   rintro e w4 ⟨rfl,S4,N,M⟩
   have K:=zc (H.out.trans D)
   go_wp2
   go_end0
   rw[K.out]
   exact⟨rfl,S4,N,M⟩
theorem znw (C:Cx) (A n j z:Nat) (S:Sv) (q:PS) (w:World) (h:IM C A n j z S q w) (hC:zaT C) (h1:isT C q.pos 4 zF=false) (h2:isT C q.pos 4 zv=true):
  Calls Tryz.prog 192 #[.pointer (some ⟨z,0,none⟩)] w (zM C A n j z (zam C q) id (fun _=>.tuple #[]) S w):=by
 have HY:Hid (zam C q=bd (zd C 1 zO (adv q)) fun a=>bd (zG C a) fun b=>bd (zd C 4 cSemi b.1) fun c=>zn C ⟨3,sNone,sNone,b.2⟩ c):=by show _=_;rw[zam,h1,h2];rfl
 go_enter Tryz.func192,Tryz.ntmps192
 go_wp2_with fail
 refine (zH C A n j z S q 4 zF _ h (by decide)).mono ?_
 rintro e w1 ⟨rfl,ab,ae⟩
 rw[h1] at ab ⊢
 go_wp2_with fail
 refine (zH C A n j z S q 4 zv _ ab (by decide)).mono ?_
 rintro e w2 ⟨rfl,L,s⟩
 rw[h2] at L ⊢
 have N:=ae.trans s
 clear s
 go_wp2_with fail
 refine (zdE C A n j z S (adv q) zO _ L).mono ?_
 cases V:zd C 1 zO (adv q) with
 |error p=>
  rintro e w3 ⟨rfl,E⟩
  have H:=(h.back N).trans E
  have I:Hid (zam C q= .error p):=bdE HY.out V
  unfold Pan
  go_wp2
  refine⟨rfl,?_⟩
  rw[I.out]
  exact⟨rfl,H⟩
 |ok a3=>
  rintro e w3 ⟨rfl,S3,ag,s⟩
  have Y:=N.trans s
  clear s
  have X:=zc (bdO HY.out V)
  go_wp2_with fail
  refine (zeX C A n j z S3 a3 _ ag hC).mono ?_
  cases J:zG C a3 with
  |error p=>
   rintro e w4 ⟨rfl,E⟩
   have H:=(h.back Y).trans E
   have I:Hid (zam C q= .error p):=bdE X.out J
   unfold Pan
   go_wp2
   refine⟨rfl,?_⟩
   rw[I.out]
   exact⟨rfl,H⟩
  |ok a4=>
   rintro e w4 ⟨rfl,S4,ac,s⟩
   have K:=Y.trans s
   clear s
   have Z:=zc (bdO X.out J)
   go_wp2_with fail
   refine (zbM C A n j z S4 a4.1 59 _ ac).mono ?_
   cases D:zd C 4 cSemi a4.1 with
   |error p=>
    rintro e w5 ⟨rfl,E⟩
    have H:=(h.back K).trans E
    have I:Hid (zam C q= .error p):=bdE Z.out D
    unfold Pan
    go_wp2
    refine⟨rfl,?_⟩
    rw[I.out]
    exact⟨rfl,H⟩
   |ok a5=>
    rintro e w5 ⟨rfl,S5,ad,s⟩
    have aa:=K.trans s
    clear s
    have M:=zc (bdO Z.out D)
    have O:0<a5.pos:=by rw[(zbx D).1];exact Nat.succ_pos _
    go_wp2_with fail
    refine (zeq C A n j z S5 a5 ⟨3,sNone,sNone,a4.2⟩ _ ad O).mono ?_
    cases U:zn C ⟨3,sNone,sNone,a4.2⟩ a5 with
    |error p=>
     rintro e w6 ⟨rfl,E⟩
     have H:=(h.back aa).trans E
     have I:Hid (zam C q= .error p):=M.out.trans U
     unfold Pan
     go_wp2
     refine⟨rfl,?_⟩
     rw[I.out]
     exact⟨rfl,H⟩
    |ok a6=>
     rintro e w6 ⟨rfl,S6,af,s⟩
     have ah:=aa.trans s
     clear s
     have ai:=zc (M.out.trans U)
     go_wp2
     go_end0
     rw[ai.out]
     exact⟨rfl,S6,af,ah⟩
theorem znx (C:Cx) (D n j z:Nat) (S:Sv) (q:PS) (w:World) (h:IM C D n j z S q w) (h1:isT C q.pos 4 zF=false) (h2:isT C q.pos 4 zv=false) (h3:isT C q.pos 1 sDefault=true):
  Calls Tryz.prog 192 #[.pointer (some ⟨z,0,none⟩)] w (zM C D n j z (zam C q) id (fun _=>.tuple #[]) S w):=by
 have HY:Hid (zam C q=bd (stmtI C 1 zbC cSemi (adv q)) fun a=>zn C ⟨1,sDefault,zbC,sNone⟩ a):=by show _=_;rw[zam,h1,h2,h3];rfl
 go_enter Tryz.func192,Tryz.ntmps192
 go_wp2_with fail
 refine (zH C D n j z S q 4 zF _ h (by decide)).mono ?_
 rintro e w1 ⟨rfl,N,Z⟩
 rw[h1] at N ⊢
 go_wp2_with fail
 refine (zH C D n j z S q 4 zv _ N (by decide)).mono ?_
 rintro e w2 ⟨rfl,I,s⟩
 rw[h2] at I ⊢
 have Y:=Z.trans s
 clear s
 go_wp2_with fail
 refine (zH C D n j z S q 1 sDefault _ I (by decide)).mono ?_
 rintro e w3 ⟨rfl,K,s⟩
 rw[h3] at K ⊢
 have L:=Y.trans s
 clear s
 go_wp2_with fail
 refine (zdl C D n j z S (adv q) 1 zbC cSemi _ K (by decide) (by decide)).mono ?_
 cases A:stmtI C 1 zbC cSemi (adv q) with
 |error p=>
  rintro e w4 ⟨rfl,O⟩
  have HB:=(h.back L).trans O
  have HX:Hid (zam C q= .error p):=bdE HY.out A
  unfold Pan
  go_wp2
  refine⟨rfl,?_⟩
  rw[HX.out]
  exact⟨rfl,HB⟩
 |ok a4=>
  rintro e w4 ⟨rfl,S4,U,s⟩
  have H:=L.trans s
  clear s
  have M:=zc (bdO HY.out A)
  have J:=(zgh A (by decide)).2
  go_wp2_with fail
  refine (zeq C D n j z S4 a4 ⟨1,sDefault,zbC,sNone⟩ _ U J).mono ?_
  cases E:zn C ⟨1,sDefault,zbC,sNone⟩ a4 with
  |error p=>
   rintro e w5 ⟨rfl,O⟩
   have HB:=(h.back H).trans O
   have HX:Hid (zam C q= .error p):=M.out.trans E
   unfold Pan
   go_wp2
   refine⟨rfl,?_⟩
   rw[HX.out]
   exact⟨rfl,HB⟩
  |ok a5=>
   rintro e w5 ⟨rfl,S5,V,s⟩
   have aa:=H.trans s
   clear s
   have X:=zc (M.out.trans E)
   go_wp2
   go_end0
   rw[X.out]
   exact⟨rfl,S5,V,aa⟩
theorem zny (C:Cx) (A n j z:Nat) (S:Sv) (q:PS) (w:World) (h:IM C A n j z S q w) (hC:zaT C) (h1:isT C q.pos 4 zF=false) (h2:isT C q.pos 4 zv=false) (h3:isT C q.pos 1 sDefault=false) (h4:isT C q.pos 1 zA=true):
  Calls Tryz.prog 192 #[.pointer (some ⟨z,0,none⟩)] w (zM C A n j z (zam C q) id (fun _=>.tuple #[]) S w):=by
 have HY:Hid (zam C q=bd (letJ C 1 (adv q)) fun a=>zn C ⟨1,(ze C (q.pos+1)).text,(ze C (q.pos+1)).text,sNone⟩ a):=by show _=_;rw[zam,h1,h2,h3,h4];rfl
 go_enter Tryz.func192,Tryz.ntmps192
 go_wp2_with fail
 refine (zH C A n j z S q 4 zF _ h (by decide)).mono ?_
 rintro e w1 ⟨rfl,U,Z⟩
 rw[h1] at U ⊢
 go_wp2_with fail
 refine (zH C A n j z S q 4 zv _ U (by decide)).mono ?_
 rintro e w2 ⟨rfl,H,s⟩
 rw[h2] at H ⊢
 have Y:=Z.trans s
 clear s
 go_wp2_with fail
 refine (zH C A n j z S q 1 sDefault _ H (by decide)).mono ?_
 rintro e w3 ⟨rfl,N,s⟩
 rw[h3] at N ⊢
 have ac:=Y.trans s
 clear s
 go_wp2_with fail
 refine (zH C A n j z S q 1 zA _ N (by decide)).mono ?_
 rintro e w4 ⟨rfl,I,s⟩
 rw[h4] at I ⊢
 have E:=ac.trans s
 clear s
 go_wp2_with fail
 refine (zfS C A n j z S (adv q) _ I).mono ?_
 cases D:letJ C 1 (adv q) with
 |error p=>
  rintro e w5 ⟨rfl,V⟩
  have HB:=(h.back E).trans V
  have HX:Hid (zam C q= .error p):=bdE HY.out D
  unfold Pan
  go_wp2
  refine⟨rfl,?_⟩
  rw[HX.out]
  exact⟨rfl,HB⟩
 |ok a5=>
  rintro e w5 ⟨rfl,S5,X,s⟩
  have O:=E.trans s
  clear s
  have K:=zc (bdO HY.out D)
  obtain⟨⟨l,e,J⟩,M⟩:=znt D
  have ae:=zc J
  clear J
  go_wp2_with fail
  refine (zi8 C A n j z S5 a5 l _ _ (ze C (q.pos+1)).text _ X ae.out (hC _) M).mono ?_
  cases L:zn C ⟨1,(ze C (q.pos+1)).text,(ze C (q.pos+1)).text,sNone⟩ a5 with
  |error p=>
   rintro e w6 ⟨rfl,V⟩
   have HB:=(h.back O).trans V
   have HX:Hid (zam C q= .error p):=K.out.trans L
   unfold Pan
   go_wp2
   refine⟨rfl,?_⟩
   rw[HX.out]
   exact⟨rfl,HB⟩
  |ok a6=>
   rintro e w6 ⟨rfl,S6,aa,s⟩
   have ab:=O.trans s
   clear s
   have ad:=zc (K.out.trans L)
   go_wp2
   go_end0
   rw[ad.out]
   exact⟨rfl,S6,aa,ab⟩
theorem znz (C:Cx) (A n j z:Nat) (S:Sv) (q:PS) (w:World) (h:IM C A n j z S q w) (hC:zaT C) (h1:isT C q.pos 4 zF=false) (h2:isT C q.pos 4 zv=false) (h3:isT C q.pos 1 sDefault=false) (h4:isT C q.pos 1 zA=false) (h5:isT C q.pos 1 zN=true):
  Calls Tryz.prog 192 #[.pointer (some ⟨z,0,none⟩)] w (zM C A n j z (zam C q) id (fun _=>.tuple #[]) S w):=by
 have HY:Hid (zam C q=bd (fnI C (adv q)) fun a=>zn C ⟨1,(ze C (q.pos+1)).text,(ze C (q.pos+1)).text,sNone⟩ a):=by show _=_;rw[zam,h1,h2,h3,h4,h5];rfl
 go_enter Tryz.func192,Tryz.ntmps192
 go_wp2_with fail
 refine (zH C A n j z S q 4 zF _ h (by decide)).mono ?_
 rintro e w1 ⟨rfl,U,ab⟩
 rw[h1] at U ⊢
 go_wp2_with fail
 refine (zH C A n j z S q 4 zv _ U (by decide)).mono ?_
 rintro e w2 ⟨rfl,E,s⟩
 rw[h2] at E ⊢
 have ac:=ab.trans s
 clear s
 go_wp2_with fail
 refine (zH C A n j z S q 1 sDefault _ E (by decide)).mono ?_
 rintro e w3 ⟨rfl,L,s⟩
 rw[h3] at L ⊢
 have ae:=ac.trans s
 clear s
 go_wp2_with fail
 refine (zH C A n j z S q 1 zA _ L (by decide)).mono ?_
 rintro e w4 ⟨rfl,H,s⟩
 rw[h4] at H ⊢
 have X:=ae.trans s
 clear s
 go_wp2_with fail
 refine (zH C A n j z S q 1 zN _ H (by decide)).mono ?_
 rintro e w5 ⟨rfl,J,s⟩
 rw[h5] at J ⊢
 have N:=X.trans s
 clear s
 go_wp2_with fail
 refine (zfT C A n j z S (adv q) _ J).mono ?_
 cases D:fnI C (adv q) with
 |error p=>
  rintro e w6 ⟨rfl,Z⟩
  have HB:=(h.back N).trans Z
  have HX:Hid (zam C q= .error p):=bdE HY.out D
  unfold Pan
  go_wp2
  refine⟨rfl,?_⟩
  rw[HX.out]
  exact⟨rfl,HB⟩
 |ok a6=>
  rintro e w6 ⟨rfl,S6,ad,s⟩
  have M:=N.trans s
  clear s
  have V:=zc (bdO HY.out D)
  obtain⟨⟨l,e,I⟩,K⟩:=znu D
  have ag:=zc I
  clear I
  go_wp2_with fail
  refine (zi8 C A n j z S6 a6 l _ _ (ze C (q.pos+1)).text _ ad ag.out (hC _) K).mono ?_
  cases O:zn C ⟨1,(ze C (q.pos+1)).text,(ze C (q.pos+1)).text,sNone⟩ a6 with
  |error p=>
   rintro e w7 ⟨rfl,Z⟩
   have HB:=(h.back M).trans Z
   have HX:Hid (zam C q= .error p):=V.out.trans O
   unfold Pan
   go_wp2
   refine⟨rfl,?_⟩
   rw[HX.out]
   exact⟨rfl,HB⟩
  |ok a7=>
   rintro e w7 ⟨rfl,S7,aa,s⟩
   have af:=M.trans s
   clear s
   have Y:=zc (V.out.trans O)
   go_wp2
   go_end0
   rw[Y.out]
   exact⟨rfl,S7,aa,af⟩
theorem zn0 (C:Cx) (A n j z:Nat) (S:Sv) (q:PS) (w:World) (h:IM C A n j z S q w) (X:isT C q.pos 4 zF=false) (U:isT C q.pos 4 zv=false) (Z:isT C q.pos 1 sDefault=false) (V:isT C q.pos 1 zA=false) (Y:isT C q.pos 1 zN=false):
  Calls Tryz.prog 192 #[.pointer (some ⟨z,0,none⟩)] w (zM C A n j z (zam C q) id (fun _=>.tuple #[]) S w):=by
 have HY:Hid (zam C q= .error (zp C q.pos)):=by show _=_;rw[zam,X,U,Z,V,Y];rfl
 go_enter Tryz.func192,Tryz.ntmps192
 go_wp2_with fail
 refine (zH C A n j z S q 4 zF _ h (by decide)).mono ?_
 rintro e w1 ⟨rfl,J,L⟩
 rw[X] at J ⊢
 go_wp2_with fail
 refine (zH C A n j z S q 4 zv _ J (by decide)).mono ?_
 rintro e w2 ⟨rfl,E,s⟩
 rw[U] at E ⊢
 have M:=L.trans s
 clear s
 go_wp2_with fail
 refine (zH C A n j z S q 1 sDefault _ E (by decide)).mono ?_
 rintro e w3 ⟨rfl,I,s⟩
 rw[Z] at I ⊢
 have N:=M.trans s
 clear s
 go_wp2_with fail
 refine (zH C A n j z S q 1 zA _ I (by decide)).mono ?_
 rintro e w4 ⟨rfl,H,s⟩
 rw[V] at H ⊢
 have K:=N.trans s
 clear s
 go_wp2_with fail
 refine (zH C A n j z S q 1 zN _ H (by decide)).mono ?_
 rintro e w5 ⟨rfl,D,s⟩
 rw[Y] at D ⊢
 have O:=K.trans s
 clear s
 go_wp2_with fail
 refine (zdD C A n j z S q _ D).mono ?_
 rintro e wz ⟨rfl,hb⟩
 have HB:=(h.back O).trans (hb.mono D.mem.base)
 have HX:Hid (zam C q= .error (zp C q.pos)):=HY.out
 unfold Pan
 go_wp2
 refine⟨rfl,?_⟩
 rw[HX.out]
 exact⟨rfl,HB⟩
theorem zn1 (C:Cx) (A n j z:Nat) (S:Sv) (q:PS) (w:World) (h:IM C A n j z S q w) (H:zaT C):
  Calls Tryz.prog 192 #[.pointer (some ⟨z,0,none⟩)] w (zM C A n j z (zam C q) id (fun _=>.tuple #[]) S w):=by
 cases D:isT C q.pos 4 zF with
 |true=>exact znv C A n j z S q w h H D
 |false=>
  cases E:isT C q.pos 4 zv with
  |true=>exact znw C A n j z S q w h H D E
  |false=>
   cases I:isT C q.pos 1 sDefault with
   |true=>exact znx C A n j z S q w h D E I
   |false=>
    cases J:isT C q.pos 1 zA with
    |true=>exact zny C A n j z S q w h H D E I J
    |false=>
     cases K:isT C q.pos 1 zN with
     |true=>exact znz C A n j z S q w h H D E I J K
     |false=>exact zn0 C A n j z S q w h D E I J K
end Go.Proofs.YtjdddblpfbmpaaaGreat
