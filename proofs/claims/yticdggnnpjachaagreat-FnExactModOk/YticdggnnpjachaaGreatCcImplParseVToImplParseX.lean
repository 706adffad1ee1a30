/-
  What ContainsFunc over Exps answers,and a row of Exps whose elements are written: the walks.
  What exportNames of impl's parser answers: the walks. (It writes into the row that it is handed: so what is told is told from a world on in which that row was not yet there.)
  What exportItem of impl's parser answers: the walks.
-/
import Derived.Laws.OwnMore
import Derived.Test.YticdggnnpjachaaGreatCcImplParseU
namespace Go.Proofs.YticdggnnpjachaaGreat
set_option maxRecDepth 100000
set_option maxHeartbeats 3200000
open Go.RowKit Go.PlainAid Go.Sort
theorem zi0 {α:Type} (f:α→List Value) (m:Nat) (n: ∀x,(f x).length=m): ∀(l:List α) (j i:Nat) (x y:α) (v:Value),l[j]? =some x→i<m→f y=(f x).set i v→(l.flatMap f).set (j*m+i) v=(l.set j y).flatMap f:=by
 intro l
 induction l with
 |nil=>intro j i x y v h;simp at h
 |cons z l w=>
  intro j i x y v h q o
  match j with
  |0=>
   simp only[List.getElem?_cons_zero,Option.some.injEq] at h
   subst h
   rw[List.flatMap_cons,Nat.zero_mul,Nat.zero_add,List.set_append_left _ _ (by rw[n];exact q),List.set_cons_zero,List.flatMap_cons,o]
  |j+1=>
   simp only[List.getElem?_cons_succ] at h
   rw[List.flatMap_cons,List.set_append_right _ _ (by rw[n,Nat.succ_mul];omega),n,List.set_cons_succ,List.flatMap_cons,←w j i x y v h q o]
   congr 2
   rw[Nat.succ_mul]
   omega
def mxE (s:ByteArray) (l:List Ep) (j:Nat):List Ep:=(l.take j).map (zal s)++(l.drop j).map zz
theorem zi1 (s:ByteArray) (l:List Ep) (j:Nat):(mxE s l j).length=l.length:=by simp[mxE];omega
theorem zi2 {s:ByteArray} {l:List Ep} {j:Nat} {x:Ep} (h:l[j]? =some x):(mxE s l j)[j]? =some (zz x):=by
 obtain⟨o,rfl⟩:=List.getElem?_eq_some_iff.1 h
 have n:((l.take j).map (zal s)).length=j:=by simp;omega
 rw[mxE,List.getElem?_append_right (by omega),n,Nat.sub_self,List.drop_eq_getElem_cons o]
 rfl
theorem zmY {s:ByteArray} {l:List Ep} {j:Nat} {x:Ep} (h:l[j]? =some x):(mxE s l j).set j (zal s x)=mxE s l (j+1):=by
 obtain⟨n,rfl⟩:=List.getElem?_eq_some_iff.1 h
 have o:((l.take j).map (zal s)).length=j:=by simp;omega
 rw[mxE,List.set_append_right _ _ (by omega),o,Nat.sub_self,List.drop_eq_getElem_cons n,List.map_cons,List.set_cons_zero,mxE,List.take_succ_eq_append_getElem n,List.map_append,List.append_assoc]
 rfl
theorem zmZ (s:ByteArray) (l:List Ep):mxE s l 0=l.map zz:=by simp[mxE]
theorem zna (s:ByteArray) (l:List Ep):mxE s l l.length=l.map (zal s):=by simp[mxE]
theorem znb (x:Ep) (w:World):
  Calls Tryz.prog 198 #[epV x] w fun e h=>e= .returned (.bool (x.loc.toList==[100,101,102,97,117,108,116]))∧Below w.heap.size w h:=by
 unfold epV
 cases j:(x.loc.toList==[100,101,102,97,117,108,116]) with
 |true=>
  go_enter Tryz.func198,Tryz.ntmps198
  go_wp2
  go_ret
  exact⟨rfl,(Below.refl _ _).alloc (Nat.le_refl _) _⟩
 |false=>
  go_enter Tryz.func198,Tryz.ntmps198
  go_wp2
  go_ret
  exact⟨rfl,(Below.refl _ _).alloc (Nat.le_refl _) _⟩
theorem znc {l:List Ep} {j:Nat} {x:Ep} (h:l[j]? =some x):za5 (l.drop j)=((x.loc.toList==[100,101,102,97,117,108,116])||za5 (l.drop (j+1))):=by
 obtain⟨n,rfl⟩:=List.getElem?_eq_some_iff.1 h
 rw[List.drop_eq_getElem_cons n]
 simp only[za5,List.any_cons]
theorem znd (D g:Nat) (r:Rw) (l:List Ep) (w:World) (h:OwnR w D 102 4 r l.length (l.flatMap fun e=>epL (zz e))) (hl:l.length≤4000) (O:r.a=some ⟨g,0,none⟩):
  Calls Tryz.prog 205 #[.slice (some ⟨g,0,none⟩) l.length r.cap,.func (.func 198) #[] #[]] w fun e w'=>(∃v:Int,e= .returned (.int .i64 v)∧decide (0≤v)=za5 l)∧Below w.heap.size w w':=by
 have V:=zc h
 have L:=zc O
 clear h O
 go_enter Tryz.func205,Tryz.ntmps205
 go_wp2
 go_loopg [8] (l.length+1) (fun k i wr=>∃j:Nat,i= .int .i64 j∧j+k=l.length+1∧za5 (l.drop j)=za5 l∧Below w.heap.size w wr)
 case atStart=>exact⟨0,rfl,by omega,by simp,Below.refl _ _⟩
 case round=>
  obtain⟨j,rfl,hj,Y,Z⟩:=hrel
  have M:=zc Y
  have I:=zc Z
  clear Y Z
  by_cases N:j<l.length
  ·have q:(j:Int)<(l.length:Int):=by omega
   obtain⟨x,K⟩:=ze1 N
   have J:=zc (V.out.keep fun k g=>I.out.block k (V.out.typed g).2.1)
   obtain⟨g',A,n⟩:=OwnR.elem (f:=fun e=>epL (zz e)) (m:=4) (fun _=>rfl) J.out K
   have eg:g'=g:=by have:=A.symm.trans L.out;simpa using this
   subst eg
   have k0:=n 0 (by omega)
   have k1:=n 1 (by omega)
   have k2:=n 2 (by omega)
   have k3:=n 3 (by omega)
   simp only[epL,zz,Nat.add_zero,List.getElem?_cons_zero,List.getElem?_cons_succ] at k0 k1 k2 k3
   have U:=zc (znc K)
   clear n A K
   obtain⟨H,o⟩: ∃H,H=j+1:=⟨_,rfl⟩
   have ej:(j:Int)+1=(H:Int):=by omega
   have HJ:=zc o
   clear o
   go_wp2_with fail
   refine (znb (zz x) _).mono ?_
   rintro e w1 ⟨rfl,E⟩
   have z:Hid (Below w.heap.size w w1):=I.out.trans (E.mono I.out.size)
   clear E
   rw[show (zz x).loc=x.loc from rfl]
   cases X:(x.loc.toList==[100,101,102,97,117,108,116]) with
   |true=>
    go_wp2
    go_ret
    refine⟨⟨_,rfl,?_⟩,z.out⟩
    rw[←M.out,U.out,X]
    simp
   |false=>
    go_wp2
    go_roundg (gk-1)
    case rel=>
     refine⟨H,rfl,by have:=HJ.out;omega,?_,z.out⟩
     rw[←M.out,U.out,X,HJ.out]
     simp
    case measure=>omega
  ·have q: ¬(j:Int)<(l.length:Int):=by omega
   go_wp2
   go_ret
   refine⟨⟨_,rfl,?_⟩,I.out⟩
   rw[←M.out,List.drop_eq_nil_of_le (by omega)]
   rfl
theorem zi3 (j g:Nat) (r:Rw) (l:List Ep) (w:World) (h:OwnR w j 102 4 r l.length (l.flatMap fun e=>epL (zz e))) (H:l.length≤4000) (o:r.a=some ⟨g,0,none⟩):
  Calls Tryz.prog 199 #[.slice (some ⟨g,0,none⟩) l.length r.cap,.func (.func 198) #[] #[]] w fun e A=>e= .returned (.bool (za5 l))∧Below w.heap.size w A:=by
 have E:=zc h
 have n:=zc o
 clear h o
 go_enter Tryz.func199,Tryz.ntmps199
 go_wp2_with fail
 refine (znd j g r l _ E.out H n.out).mono ?_
 rintro e J ⟨⟨v,rfl,z⟩,q⟩
 have D:=zc z
 have I:=zc q
 clear z q
 go_wp2
 go_ret
 exact⟨zl D.out,I.out⟩
def za2 (C:Cx) (l:List Ep) (q:PS):PR:=
 if isT C q.pos 1 zP||za5 l then bd (zd C 1 zP q) fun a=>bd (zG C a) fun b=>bd (zd C 4 cSemi b.1) fun c=>zR (fun e=>zn C (zal b.2 e)) l (.ok c)
 else bd (zd C 4 cSemi q) fun c=>zR (fun e=>zn C (zz e)) l (.ok c)
theorem zi4 (X:Ep→Ep) (l:List Ep):(l.map X).flatMap epL=l.flatMap fun e=>epL (X e):=by rw[List.flatMap_map]
theorem zne (C:Cx) (H o n z b0 g:Nat) (r:Rw) (S A:Sv) (q0 q:PS) (l:List Ep) (w wc:World) (hh:IM C H o n z S q0 w) (h:IM C H o n z A q wc) (h0:IS z S w A wc) (hl:l.length≤4000) (hf:Fr 102 4 wc b0 r l.length (l.flatMap (fun e=>epL (zz e))) A) (hg:r.a=some ⟨g,0,none⟩) (hi:isT C q.pos 1 zP=false) (ha:za5 l=false):
  Calls Tryz.prog 176 #[.pointer (some ⟨z,0,none⟩),.slice (some ⟨g,0,none⟩) l.length r.cap] wc (zN C H o n z (za2 C l q) id (fun _=>.tuple #[]) S w):=by
 have HH:=zc hh
 have HC:=zc h
 have H0:=zc h0
 have HF:=zc hf
 have HG:=zc hg
 have HY:Hid (za2 C l q=bd (zd C 4 cSemi q) fun c=>zR (fun e=>zn C (zz e)) l (.ok c)):=by show _=_;rw[za2,hi,ha];rfl
 clear hh h h0 hf hg
 go_enter Tryz.func176,Tryz.ntmps176
 go_wp2_with fail
 refine (zbI C H o n z A q 1 zP _ HC.out).mono ?_
 rintro e w1 ⟨rfl,D⟩
 rw[hi]
 have an:Hid (IM C H o n z A q w1):=HC.out.later D
 have am:Hid (IS z S w A w1):=(H0.out.trans (IS.below D))
 have X:IS z A wc A w1:=IS.below D
 clear D
 have U:Hid (Fr 102 4 w1 b0 r l.length (l.flatMap (fun e=>epL (zz e))) A):=HF.out.step HC.out (by decide) X
 clear X
 go_wp2_with fail
 refine (zi3 b0 g r l _ U.out.1 hl HG.out).mono ?_
 rintro e w2 ⟨rfl,D⟩
 rw[ha]
 have aj:Hid (Fr 102 4 w2 b0 r l.length (l.flatMap (fun e=>epL (zz e))) A):=U.out.later D
 have V:Hid (IM C H o n z A q w2):=an.out.later D
 have ad:Hid (IS z S w A w2):=(am.out.trans (IS.below D))
 clear D
 go_wp2_with fail
 refine (zbQ C H o n z A q 59 _ V.out).mono ?_
 cases M:zd C 4 cSemi q with
 |error p=>
  rintro e w3 ⟨rfl,D⟩
  have HB:Hid (Below n w w3):=(HH.out.back ad.out).trans D
  have HX:Hid (za2 C l q= .error p):=bdE HY.out M
  unfold Pan
  go_wp2
  refine⟨rfl,?_⟩
  rw[HX.out]
  exact⟨rfl,HB.out⟩
 |ok a3=>
  rintro e w3 ⟨rfl,S3,m,s⟩
  have af:Hid (Fr 102 4 w3 b0 r l.length (l.flatMap (fun e=>epL (zz e))) S3):=aj.out.step V.out (by decide) s
  have al:=zc m
  have ai:Hid (IS z S w S3 w3):=ad.out.trans s
  clear m s
  have ak:=zc (bdO HY.out M)
  have O:0<a3.pos:=by rw[(zb0 M).1];exact Nat.succ_pos _
  go_wp2
  go_loopg [39] l.length (fun k i wr=>∃(j:Nat) (I:Sv) (J:PS),i= .int .i64 j∧j+k=l.length∧za2 C l q=zR (fun e=>zn C (zz e)) (l.drop j) (.ok J)∧0<J.pos∧IM C H o n z I J wr∧IS z S w I wr∧Fr 102 4 wr b0 r l.length (l.flatMap fun e=>epL (zz e)) I)
  case atStart=>exact⟨0,S3,a3,rfl,by omega,ak.out,O,al.out,ai.out,af.out⟩
  case round=>
   obtain⟨j,I,J,rfl,hj,hy,ae,m',s',f'⟩:=hrel
   have Z:=zc hy
   have K:Hid (IM C H o n z I J wr):=m'
   have N:Hid (IS z S w I wr):=s'
   have ac:Hid (Fr 102 4 wr b0 r l.length (l.flatMap fun e=>epL (zz e)) I):=f'
   clear hy m' s' f'
   by_cases ao:j<l.length
   ·have ab:(j:Int)<(l.length:Int):=by omega
    obtain⟨x,hx⟩:=ze1 ao
    obtain⟨g',aa,E⟩:=OwnR.elem (f:=fun e=>epL (zz e)) (m:=4) (fun _=>rfl) ac.out.1 hx
    have eg:g'=g:=by have:=aa.symm.trans HG.out;simpa using this
    subst eg
    have k0:=E 0 (by omega)
    have k1:=E 1 (by omega)
    have k2:=E 2 (by omega)
    have k3:=E 3 (by omega)
    simp only[epL,zz,Nat.add_zero,List.getElem?_cons_zero,List.getElem?_cons_succ] at k0 k1 k2 k3
    have Y:=zc (Z.out.trans (zgi (fun e=>zn C (zz e)) hx J))
    clear E aa hx
    obtain⟨j1,L⟩: ∃j1,j1=j+1:=⟨_,rfl⟩
    have ej:(j:Int)+1=(j1:Int):=by omega
    rw[←L] at Y
    have au:=K.out.lt
    have HJ:=zc L
    clear L
    go_wp2_with fail
    refine (zet C H o n z I J (zz x) _ (K.out.alloc _) ae).mono ?_
    cases hn:zn C (zz x) J with
    |error p=>
     rintro e wy ⟨rfl,D⟩
     have HB:Hid (Below n w wy):=(HH.out.back (N.out.alloc _)).trans D
     have HX:Hid (za2 C l q= .error p):=by show _=_;rw[Y.out,hn];exact zfr _ _ _
     unfold Pan
     go_wp2
     refine⟨rfl,?_⟩
     rw[HX.out]
     exact⟨rfl,HB.out⟩
    |ok ay=>
     rintro e wy ⟨rfl,Sy,m,s⟩
     have aq:=zc m
     have ag:Hid (IS z S w Sy wy):=(N.out.alloc _).trans s
     have ah:Hid (Fr 102 4 wy b0 r l.length (l.flatMap fun e=>epL (zz e)) Sy):=(ac.out.later ((Below.refl _ _).alloc (Nat.le_refl _) _)).step (K.out.alloc _) (by decide) s
     have ap:Hid (za2 C l q=zR (fun e=>zn C (zz e)) (l.drop j1) (.ok ay)):=by show _=_;rw[Y.out,hn]
     have ar:Hid (0<ay.pos):=by show 0<ay.pos;rw[ziy hn];exact ae
     clear m s
     go_wp2
     go_roundg (gk-1)
     case rel=>exact⟨j1,Sy,ay,rfl,by have:=HJ.out;omega,ap.out,ar.out,aq.out,ag.out,ah.out⟩
     case measure=>omega
   ·have ab: ¬(j:Int)<(l.length:Int):=by omega
    have Y:Hid (za2 C l q= .ok J):=by show _=_;rw[Z.out,List.drop_eq_nil_of_le (by omega)];rfl
    go_wp2
    go_end0
    rw[Y.out]
    exact⟨rfl,I,K.out,N.out⟩
theorem znf (C:Cx) (D n j z b0 g:Nat) (r:Rw) (S o:Sv) (q0 q:PS) (l:List Ep) (w wc:World) (Z:IM C D n j z S q0 w) (h:IM C D n j z o q wc) (h0:IS z S w o wc) (hl:l.length≤4000) (X:Fr 102 4 wc b0 r l.length (l.flatMap (fun e=>epL (zz e))) o) (V:r.a=some ⟨g,0,none⟩) (I:isT C q.pos 1 zP=false) (Y:za5 l=true):
  Calls Tryz.prog 176 #[.pointer (some ⟨z,0,none⟩),.slice (some ⟨g,0,none⟩) l.length r.cap] wc (zN C D n j z (za2 C l q) id (fun _=>.tuple #[]) S w):=by
 have HH:=zc Z
 have K:=zc h
 have H0:=zc h0
 have HF:=zc X
 have HG:=zc V
 have HY:Hid (za2 C l q= .error (zq C q.pos)):=by show _=_;rw[za2,I,Y,if_pos (by decide),zfN I];rfl
 clear Z h h0 X V
 go_enter Tryz.func176,Tryz.ntmps176
 go_wp2_with fail
 refine (zbI C D n j z o q 1 zP _ K.out).mono ?_
 rintro e J ⟨rfl,A⟩
 rw[I]
 have M:Hid (IM C D n j z o q J):=K.out.later A
 have U:Hid (IS z S w o J):=(H0.out.trans (IS.below A))
 have H:IS z o wc o J:=IS.below A
 clear A
 have E:Hid (Fr 102 4 J b0 r l.length (l.flatMap (fun e=>epL (zz e))) o):=HF.out.step K.out (by decide) H
 clear H
 go_wp2_with fail
 refine (zi3 b0 g r l _ E.out.1 hl HG.out).mono ?_
 rintro e N ⟨rfl,A⟩
 rw[Y]
 have aa:Hid (Fr 102 4 N b0 r l.length (l.flatMap (fun e=>epL (zz e))) o):=E.out.later A
 have L:Hid (IM C D n j z o q N):=M.out.later A
 have O:Hid (IS z S w o N):=(U.out.trans (IS.below A))
 clear A
 go_wp2_with fail
 refine (zdH C D n j z o q zP _ L.out).mono ?_
 rw[zfN I]
 rintro e w3 ⟨rfl,A⟩
 have HB:Hid (Below j w w3):=(HH.out.back O.out).trans A
 have HX:Hid (za2 C l q= .error (zq C q.pos)):=HY.out
 unfold Pan
 go_wp2
 refine⟨rfl,?_⟩
 rw[HX.out]
 exact⟨rfl,HB.out⟩
theorem zng (C:Cx) (I o n z b0 g:Nat) (r:Rw) (S X:Sv) (q0 q:PS) (l:List Ep) (w wc:World) (hh:IM C I o n z S q0 w) (h:IM C I o n z X q wc) (h0:IS z S w X wc) (hC:zaV C) (hl:l.length≤4000) (hf:Fr 102 4 wc b0 r l.length (l.flatMap (fun e=>epL (zz e))) X) (hg:r.a=some ⟨g,0,none⟩) (aw:w.heap.size≤g) (hi:isT C q.pos 1 zP=true):
  Calls Tryz.prog 176 #[.pointer (some ⟨z,0,none⟩),.slice (some ⟨g,0,none⟩) l.length r.cap] wc (zN C I o n z (za2 C l q) id (fun _=>.tuple #[]) S w):=by
 have HH:=zc hh
 have HC:=zc h
 have H0:=zc h0
 have HF:=zc hf
 have HG:=zc hg
 have au:=zc aw
 have HY:Hid (za2 C l q=bd (zd C 1 zP q) fun a=>bd (zG C a) fun b=>bd (zd C 4 cSemi b.1) fun c=>zR (fun e=>zn C (zal b.2 e)) l (.ok c)):=by show _=_;rw[za2,hi];rfl
 clear hh h h0 hf hg aw
 go_enter Tryz.func176,Tryz.ntmps176
 go_wp2_with fail
 refine (zbI C I o n z X q 1 zP _ HC.out).mono ?_
 rintro e w1 ⟨rfl,N⟩
 rw[hi]
 have ar:Hid (IM C I o n z X q w1):=HC.out.later N
 have aq:Hid (IS z S w X w1):=(H0.out.trans (IS.below N))
 have an:IS z X wc X w1:=IS.below N
 clear N
 have aG:Hid (Fr 102 4 w1 b0 r l.length (l.flatMap (fun e=>epL (zz e))) X):=HF.out.step HC.out (by decide) an
 clear an
 go_wp2_with fail
 refine (zdH C I o n z X q zP _ ar.out).mono ?_
 cases ag:zd C 1 zP q with
 |error p=>
  rintro e w2 ⟨rfl,N⟩
  have HB:Hid (Below n w w2):=(HH.out.back aq.out).trans N
  have Z:Hid (za2 C l q= .error p):=bdE HY.out ag
  unfold Pan
  go_wp2
  refine⟨rfl,?_⟩
  rw[Z.out]
  exact⟨rfl,HB.out⟩
 |ok a2=>
  rintro e w2 ⟨rfl,S2,m,s⟩
  have aF:Hid (Fr 102 4 w2 b0 r l.length (l.flatMap (fun e=>epL (zz e))) S2):=aG.out.step ar.out (by decide) s
  have al:=zc m
  have az:Hid (IS z S w S2 w2):=aq.out.trans s
  clear m s
  have av:=zc (bdO HY.out ag)
  go_wp2_with fail
  refine (zfa C I o n z S2 a2 _ al.out hC).mono ?_
  cases aj:zG C a2 with
  |error p=>
   rintro e w3 ⟨rfl,N⟩
   have HB:Hid (Below n w w3):=(HH.out.back az.out).trans N
   have Z:Hid (za2 C l q= .error p):=bdE av.out aj
   unfold Pan
   go_wp2
   refine⟨rfl,?_⟩
   rw[Z.out]
   exact⟨rfl,HB.out⟩
  |ok A=>
   rintro e w3 ⟨rfl,M,m,s⟩
   have aa:Hid (Fr 102 4 w3 b0 r l.length (l.flatMap (fun e=>epL (zz e))) M):=aF.out.step al.out (by decide) s
   have af:=zc m
   have aE:Hid (IS z S w M w3):=az.out.trans s
   clear m s
   have ak:=zc (bdO av.out aj)
   have ad:Hid (Fr 102 4 w3 b0 r l.length ((mxE A.2 l 0).flatMap epL) M):=by show Fr _ _ _ _ _ _ _ _;rw[zmZ,zi4];exact aa.out
   have ae:g≠z:=aa.out.ngp af.out (by decide) (by rw[Rw.blk,HG.out];rfl)
   have am:g≠I:=aa.out.ngt af.out (by decide) (by rw[Rw.blk,HG.out];rfl)
   have O:Hid (¬M.has g):=aa.out.2 g (by rw[Rw.blk,HG.out];rfl)
   have ao:=zc ae
   have ax:=zc am
   clear ae am
   go_wp2
   go_loopg [22] l.length (fun k i wr=>∃(j:Nat),i= .int .i64 j∧j+k=l.length∧IM C I o n z M A.1 wr∧IS z S w M wr∧Fr 102 4 wr b0 r l.length ((mxE A.2 l j).flatMap epL) M)
   case atStart=>exact⟨0,rfl,by omega,af.out,aE.out,ad.out⟩
   case round=>
    obtain⟨j,rfl,hj,m',s',f'⟩:=hrel
    have E:Hid (IM C I o n z M A.1 wr):=m'
    have H:Hid (IS z S w M wr):=s'
    have L:Hid (Fr 102 4 wr b0 r l.length ((mxE A.2 l j).flatMap epL) M):=f'
    clear m' s' f'
    by_cases ab:j<l.length
    ·have V:(j:Int)<(l.length:Int):=by omega
     obtain⟨x,hx⟩:=ze1 ab
     have Z:=zc hx
     have K:=L.out.1
     have ho:OwnR wr b0 102 4 r (mxE A.2 l j).length ((mxE A.2 l j).flatMap epL):=by rw[zi1];exact K
     obtain⟨g',U,D⟩:=OwnR.elem (f:=epL) (m:=4) (fun _=>rfl) ho (zi2 hx)
     have eg:g'=g:=by have:=U.symm.trans HG.out;simpa using this
     subst eg
     have k0:=D 0 (by omega)
     have k3:=D 3 (by omega)
     simp only[epL,zz,Nat.add_zero,List.getElem?_cons_zero,List.getElem?_cons_succ] at k0 k3
     unfold OwnR at K
     rw[HG.out] at K
     have aQ:=K.frozenAt
     have aJ:=zc K
     clear D U hx K ho
     obtain⟨Y,J⟩: ∃Y,Y=j+1:=⟨_,rfl⟩
     have ej:(j:Int)+1=(Y:Int):=by omega
     have HJ:=zc J
     clear J
     go_wp2
     go_roundg (gk-1)
     case rel=>
      refine⟨Y,rfl,by have:=HJ.out;omega,(E.out.set ao.out ax.out O.out _ _).set ao.out ax.out O.out _ _,(H.out.new au.out _ _).new au.out _ _,?_,L.out.2⟩
      have aI:=(aJ.out.stored (j*4+0) (.int .i64 2)).1
      have ah:=(aI.stored (j*4+3) (.string A.2)).1
      rw[zi0 epL 4 (fun _=>rfl) _ j 0 (zz x) ⟨2,x.name,x.loc,sNone⟩ (.int .i64 2) (zi2 Z.out) (by omega) rfl,zi0 epL 4 (fun _=>rfl) ((mxE A.2 l j).set j ⟨2,x.name,x.loc,sNone⟩) j 3 ⟨2,x.name,x.loc,sNone⟩ (zal A.2 x) (.string A.2) (List.getElem?_set_self (by rw[zi1];exact ab)) (by omega) rfl,List.set_set,zmY Z.out,←HJ.out] at ah
      unfold OwnR
      rw[HG.out]
      exact ah
     case measure=>omega
    ·have V: ¬(j:Int)<(l.length:Int):=by omega
     have aB:j=l.length:=by omega
     subst aB
     have aK:Hid (Fr 102 4 wr b0 r l.length (l.flatMap fun e=>epL (zal A.2 e)) M):=by show Fr _ _ _ _ _ _ _ _;rw[←zi4,←zna A.2 l];exact L.out
     go_wp2_with fail
     refine (zbQ C I o n z M A.1 59 _ E.out).mono ?_
     cases ac:zd C 4 cSemi A.1 with
     |error p=>
      rintro e w4 ⟨rfl,N⟩
      have HB:Hid (Below n w w4):=(HH.out.back H.out).trans N
      have Z:Hid (za2 C l q= .error p):=bdE ak.out ac
      unfold Pan
      go_wp2
      refine⟨rfl,?_⟩
      rw[Z.out]
      exact⟨rfl,HB.out⟩
     |ok a4=>
      rintro e w4 ⟨rfl,S4,m,s⟩
      have ad:Hid (Fr 102 4 w4 b0 r l.length (l.flatMap fun e=>epL (zal A.2 e)) S4):=aK.out.step E.out (by decide) s
      have aO:=zc m
      have aH:Hid (IS z S w S4 w4):=H.out.trans s
      clear m s
      have aM:=zc (bdO ak.out ac)
      have ai:0<a4.pos:=by rw[(zb0 ac).1];exact Nat.succ_pos _
      go_wp2
      go_loopg [39] l.length (fun k i wr=>∃(j:Nat) (S':Sv) (q':PS),i= .int .i64 j∧j+k=l.length∧za2 C l q=zR (fun e=>zn C (zal A.2 e)) (l.drop j) (.ok q')∧0<q'.pos∧IM C I o n z S' q' wr∧IS z S w S' wr∧Fr 102 4 wr b0 r l.length (l.flatMap fun e=>epL (zal A.2 e)) S')
      case atStart=>exact⟨0,S4,a4,rfl,by omega,aM.out,ai,aO.out,aH.out,ad.out⟩
      case round=>
       obtain⟨j,S',q',rfl,hj,hy,aA,m',s',f'⟩:=hrel
       have ap:=zc hy
       have E:Hid (IM C I o n z S' q' wr):=m'
       have H:Hid (IS z S w S' wr):=s'
       have L:Hid (Fr 102 4 wr b0 r l.length (l.flatMap fun e=>epL (zal A.2 e)) S'):=f'
       clear hy m' s' f'
       by_cases ab:j<l.length
       ·have V:(j:Int)<(l.length:Int):=by omega
        obtain⟨x,hx⟩:=ze1 ab
        obtain⟨g',U,D⟩:=OwnR.elem (f:=fun e=>epL (zal A.2 e)) (m:=4) (fun _=>rfl) L.out.1 hx
        have eg:g'=g:=by have:=U.symm.trans HG.out;simpa using this
        subst eg
        have k0:=D 0 (by omega)
        have k1:=D 1 (by omega)
        have k2:=D 2 (by omega)
        have k3:=D 3 (by omega)
        simp only[epL,zal,Nat.add_zero,List.getElem?_cons_zero,List.getElem?_cons_succ] at k0 k1 k2 k3
        have HZ:=zc (ap.out.trans (zgi (fun e=>zn C (zal A.2 e)) hx q'))
        clear D U hx
        obtain⟨Y,J⟩: ∃Y,Y=j+1:=⟨_,rfl⟩
        have ej:(j:Int)+1=(Y:Int):=by omega
        rw[←J] at HZ
        have ae:=E.out.lt
        have HJ:=zc J
        clear J
        go_wp2_with fail
        refine (zet C I o n z S' q' (zal A.2 x) _ (E.out.alloc _) aA).mono ?_
        cases hn:zn C (zal A.2 x) q' with
        |error p=>
         rintro e wy ⟨rfl,N⟩
         have HB:Hid (Below n w wy):=(HH.out.back (H.out.alloc _)).trans N
         have Z:Hid (za2 C l q= .error p):=by show _=_;rw[HZ.out,hn];exact zfr _ _ _
         unfold Pan
         go_wp2
         refine⟨rfl,?_⟩
         rw[Z.out]
         exact⟨rfl,HB.out⟩
        |ok ay=>
         rintro e wy ⟨rfl,Sy,m,s⟩
         have aN:=zc m
         have aC:Hid (IS z S w Sy wy):=(H.out.alloc _).trans s
         have aD:Hid (Fr 102 4 wy b0 r l.length (l.flatMap fun e=>epL (zal A.2 e)) Sy):=(L.out.later ((Below.refl _ _).alloc (Nat.le_refl _) _)).step (E.out.alloc _) (by decide) s
         have aL:Hid (za2 C l q=zR (fun e=>zn C (zal A.2 e)) (l.drop Y) (.ok ay)):=by show _=_;rw[HZ.out,hn]
         have aP:Hid (0<ay.pos):=by show 0<ay.pos;rw[ziy hn];exact aA
         clear m s
         go_wp2
         go_roundg (gk-1)
         case rel=>exact⟨Y,Sy,ay,rfl,by have:=HJ.out;omega,aL.out,aP.out,aN.out,aC.out,aD.out⟩
         case measure=>omega
       ·have V: ¬(j:Int)<(l.length:Int):=by omega
        have HZ:Hid (za2 C l q= .ok q'):=by show _=_;rw[ap.out,List.drop_eq_nil_of_le (by omega)];rfl
        go_wp2
        go_end0
        rw[HZ.out]
        exact⟨rfl,S',E.out,H.out⟩
theorem znh (C:Cx) (A n j o b0:Nat) (r:Rw) (S z:Sv) (H q:PS) (l:List Ep) (w wc:World) (L:IM C A n j o S H w) (h:IM C A n j o z q wc) (J:IS o S w z wc) (V:zaV C) (N:l.length≤4000) (O:l.length≠0) (E:Fr 102 4 wc b0 r l.length (l.flatMap (fun e=>epL (zz e))) z) (I:w.heap.size≤b0):
  Calls Tryz.prog 176 #[.pointer (some ⟨o,0,none⟩),.slice r.a l.length r.cap] wc (zN C A n j o (za2 C l q) id (fun _=>.tuple #[]) S w):=by
 rcases E.1.nil_or with ⟨_,_,e⟩|⟨g,D⟩
 ·exact absurd e O
 ·have M:w.heap.size≤g:=Nat.le_trans I (E.1.typed (show r.blk=some g by rw[Rw.blk,D];rfl)).1
  rw[D]
  cases K:isT C q.pos 1 zP with
  |true=>exact zng C A n j o b0 g r S z H q l w wc L h J V N E D M K
  |false=>
   cases U:za5 l with
   |true=>exact znf C A n j o b0 g r S z H q l w wc L h J N E D K U
   |false=>exact zne C A n j o b0 g r S z H q l w wc L h J N E D K U
theorem zni {C:Cx} {k:Int} {n:ByteArray} {q b:PS} (h:zX C k n q= .ok b):b={q with st:=q.st++[⟨k,n,(q.ex.length:Int)-1⟩]}:=by
 unfold zX at h
 split at h
 ·cases h
 ·cases h
  rfl
theorem zgk {C:Cx} {k:Int} {n s:ByteArray} {q b:PS} (h:stmtI C k n s q= .ok b) (D:0<s.size):(∃l e,b.st=l++[⟨k,n,e⟩])∧0<b.pos:=by
 obtain⟨a,E,A⟩:=zi h
 obtain⟨c,o,z⟩:=zi A
 have j:=zhr _ o
 have w:=zni z
 subst w
 refine⟨⟨_,_,rfl⟩,?_⟩
 rw[j]
 show 0<a.pos+s.size
 omega
theorem znj {C:Cx} {k:Int} {q b:PS} (h:letJ C k q= .ok b):(∃l e,b.st=l++[⟨k,(ze C q.pos).text,e⟩])∧0<b.pos:=by
 obtain⟨a,j,n⟩:=zi h
 obtain⟨c,w,o⟩:=zi n
 have:=zgk o (by decide)
 rw[(zbe j).1] at this
 exact this
theorem znk {C:Cx} {q b:PS} (h:fnI C q= .ok b):(∃l e,b.st=l++[⟨2,(ze C q.pos).text,e⟩])∧0<b.pos:=by
 obtain⟨a,o,w⟩:=zi h
 obtain⟨c,z,n⟩:=zi w
 obtain⟨d,A,j⟩:=zi n
 have:=zgk j (by decide)
 rw[(zbe o).1] at this
 exact this
theorem zi5 (C:Cx) (D o j z:Nat) (S:Sv) (q:PS) (l:List Sm) (k e:Int) (n:ByteArray) (w:World) (h:IM C D o j z S q w) (E:q.st=l++[⟨k,n,e⟩]) (A:n.size≤281474976710656) (H:0<q.pos):
  Calls Tryz.prog 179 #[.pointer (some ⟨z,0,none⟩)] w (zN C D o j z (zn C ⟨1,n,n,sNone⟩ q) id (fun _=>.tuple #[]) S w):=zkZ C D o j z S q l ⟨k,n,e⟩ w h E A H
def zan (C:Cx) (q:PS):PR:=
 if isT C q.pos 4 zF then bd (zav C true (adv q) []) fun a=>za2 C a.2 a.1
 else if isT C q.pos 4 zv then bd (zd C 1 zP (adv q)) fun a=>bd (zG C a) fun b=>bd (zd C 4 cSemi b.1) fun c=>zn C ⟨3,sNone,sNone,b.2⟩ c
 else if isT C q.pos 1 sDefault then bd (stmtI C 1 zbG cSemi (adv q)) fun a=>zn C ⟨1,sDefault,zbG,sNone⟩ a
 else if isT C q.pos 1 zA then bd (letJ C 1 (adv q)) fun a=>zn C ⟨1,(ze C (q.pos+1)).text,(ze C (q.pos+1)).text,sNone⟩ a
 else if isT C q.pos 1 zO then bd (fnI C (adv q)) fun a=>zn C ⟨1,(ze C (q.pos+1)).text,(ze C (q.pos+1)).text,sNone⟩ a
 else .error (zq C q.pos)
theorem znl (C:Cx) (I n j o:Nat) (S:Sv) (q:PS) (w:World) (h:IM C I n j o S q w) (hC:zaV C) (h1:isT C q.pos 4 zF=true):
  Calls Tryz.prog 150 #[.pointer (some ⟨o,0,none⟩)] w (zN C I n j o (zan C q) id (fun _=>.tuple #[]) S w):=by
 have V:=zc h
 have HY:Hid (zan C q=bd (zav C true (adv q) []) fun a=>za2 C a.2 a.1):=by show _=_;rw[zan,h1];rfl
 clear h
 go_enter Tryz.func150,Tryz.ntmps150
 go_wp2_with fail
 refine (zH C I n j o S q 4 zF _ V.out (by decide)).mono ?_
 rintro e w1 ⟨rfl,m,s⟩
 rw[h1] at m ⊢
 have O:=zc m
 have z:=zc s
 clear m s
 go_wp2_with fail
 refine (zmX C I n j o S (adv q) _ O.out).mono ?_
 cases A:zav C true (adv q) [] with
 |error p=>
  rintro e M ⟨rfl,Y⟩
  have N:Hid (Below j w M):=(V.out.back z.out).trans Y
  have D:Hid (zan C q= .error p):=bdE HY.out A
  unfold Pan
  go_wp2
  refine⟨rfl,?_⟩
  rw[D.out]
  exact⟨rfl,N.out⟩
 |ok J=>
  rintro e M ⟨r,S3,rfl,m,s,f,l0,l1⟩
  have K:=zc m
  have Z:Hid (IS o S w S3 M):=z.out.trans s
  have L:=zc f
  clear m s f
  have E:=zc (bdO HY.out A)
  go_wp2_with fail
  refine (znh C I n j o _ r S S3 q J.1 J.2 w _ V.out K.out Z.out hC l1 (by omega) L.out z.out.size).mono ?_
  cases H:za2 C J.2 J.1 with
  |error p=>
   rintro e w4 ⟨rfl,Y⟩
   have N:=zc Y
   have D:=zc (E.out.trans H)
   unfold Pan
   go_wp2
   refine⟨rfl,?_⟩
   rw[D.out]
   exact⟨rfl,N.out⟩
  |ok a4=>
   rintro e w4 ⟨rfl,S4,m,s⟩
   have X:=zc m
   have U:=zc s
   clear m s
   have D:=zc (E.out.trans H)
   go_wp2
   go_end0
   rw[D.out]
   exact⟨rfl,S4,X.out,U.out⟩
theorem znm (C:Cx) (z n j o:Nat) (S:Sv) (q:PS) (w:World) (h:IM C z n j o S q w) (hC:zaV C) (h1:isT C q.pos 4 zF=false) (h2:isT C q.pos 4 zv=true):
  Calls Tryz.prog 150 #[.pointer (some ⟨o,0,none⟩)] w (zN C z n j o (zan C q) id (fun _=>.tuple #[]) S w):=by
 have U:=zc h
 have HY:Hid (zan C q=bd (zd C 1 zP (adv q)) fun a=>bd (zG C a) fun b=>bd (zd C 4 cSemi b.1) fun c=>zn C ⟨3,sNone,sNone,b.2⟩ c):=by show _=_;rw[zan,h1,h2];rfl
 clear h
 go_enter Tryz.func150,Tryz.ntmps150
 go_wp2_with fail
 refine (zH C z n j o S q 4 zF _ U.out (by decide)).mono ?_
 rintro e w1 ⟨rfl,m,s⟩
 rw[h1] at m ⊢
 have ad:=zc m
 have ai:=zc s
 clear m s
 go_wp2_with fail
 refine (zH C z n j o S q 4 zv _ ad.out (by decide)).mono ?_
 rintro e w2 ⟨rfl,m,s⟩
 rw[h2] at m ⊢
 have ab:=zc m
 have X:Hid (IS o S w S w2):=ai.out.trans s
 clear m s
 go_wp2_with fail
 refine (zdH C z n j o S (adv q) zP _ ab.out).mono ?_
 cases K:zd C 1 zP (adv q) with
 |error p=>
  rintro e w3 ⟨rfl,E⟩
  have D:Hid (Below j w w3):=(U.out.back X.out).trans E
  have A:Hid (zan C q= .error p):=bdE HY.out K
  unfold Pan
  go_wp2
  refine⟨rfl,?_⟩
  rw[A.out]
  exact⟨rfl,D.out⟩
 |ok a3=>
  rintro e w3 ⟨rfl,S3,m,s⟩
  have aa:=zc m
  have Z:Hid (IS o S w S3 w3):=X.out.trans s
  clear m s
  have M:=zc (bdO HY.out K)
  go_wp2_with fail
  refine (zfa C z n j o S3 a3 _ aa.out hC).mono ?_
  cases V:zG C a3 with
  |error p=>
   rintro e w4 ⟨rfl,E⟩
   have D:Hid (Below j w w4):=(U.out.back Z.out).trans E
   have A:Hid (zan C q= .error p):=bdE M.out V
   unfold Pan
   go_wp2
   refine⟨rfl,?_⟩
   rw[A.out]
   exact⟨rfl,D.out⟩
  |ok a4=>
   rintro e w4 ⟨rfl,S4,m,s⟩
   have ah:=zc m
   have N:Hid (IS o S w S4 w4):=Z.out.trans s
   clear m s
   have L:=zc (bdO M.out V)
   go_wp2_with fail
   refine (zbQ C z n j o S4 a4.1 59 _ ah.out).mono ?_
   cases H:zd C 4 cSemi a4.1 with
   |error p=>
    rintro e w5 ⟨rfl,E⟩
    have D:Hid (Below j w w5):=(U.out.back N.out).trans E
    have A:Hid (zan C q= .error p):=bdE L.out H
    unfold Pan
    go_wp2
    refine⟨rfl,?_⟩
    rw[A.out]
    exact⟨rfl,D.out⟩
   |ok a5=>
    rintro e w5 ⟨rfl,S5,m,s⟩
    have ac:=zc m
    have J:Hid (IS o S w S5 w5):=N.out.trans s
    clear m s
    have Y:=zc (bdO L.out H)
    have I:0<a5.pos:=by rw[(zb0 H).1];exact Nat.succ_pos _
    go_wp2_with fail
    refine (zet C z n j o S5 a5 ⟨3,sNone,sNone,a4.2⟩ _ ac.out I).mono ?_
    cases O:zn C ⟨3,sNone,sNone,a4.2⟩ a5 with
    |error p=>
     rintro e w6 ⟨rfl,E⟩
     have D:Hid (Below j w w6):=(U.out.back J.out).trans E
     have A:Hid (zan C q= .error p):=Y.out.trans O
     unfold Pan
     go_wp2
     refine⟨rfl,?_⟩
     rw[A.out]
     exact⟨rfl,D.out⟩
    |ok a6=>
     rintro e w6 ⟨rfl,S6,m,s⟩
     have ae:=zc m
     have ag:Hid (IS o S w S6 w6):=J.out.trans s
     clear m s
     have af:=zc (Y.out.trans O)
     go_wp2
     go_end0
     rw[af.out]
     exact⟨rfl,S6,ae.out,ag.out⟩
theorem znn (C:Cx) (z n j o:Nat) (S:Sv) (q:PS) (w:World) (h:IM C z n j o S q w) (h1:isT C q.pos 4 zF=false) (h2:isT C q.pos 4 zv=false) (h3:isT C q.pos 1 sDefault=true):
  Calls Tryz.prog 150 #[.pointer (some ⟨o,0,none⟩)] w (zN C z n j o (zan C q) id (fun _=>.tuple #[]) S w):=by
 have X:=zc h
 have HY:Hid (zan C q=bd (stmtI C 1 zbG cSemi (adv q)) fun a=>zn C ⟨1,sDefault,zbG,sNone⟩ a):=by show _=_;rw[zan,h1,h2,h3];rfl
 clear h
 go_enter Tryz.func150,Tryz.ntmps150
 go_wp2_with fail
 refine (zH C z n j o S q 4 zF _ X.out (by decide)).mono ?_
 rintro e w1 ⟨rfl,m,s⟩
 rw[h1] at m ⊢
 have U:=zc m
 have ac:=zc s
 clear m s
 go_wp2_with fail
 refine (zH C z n j o S q 4 zv _ U.out (by decide)).mono ?_
 rintro e w2 ⟨rfl,m,s⟩
 rw[h2] at m ⊢
 have N:=zc m
 have aa:Hid (IS o S w S w2):=ac.out.trans s
 clear m s
 go_wp2_with fail
 refine (zH C z n j o S q 1 sDefault _ N.out (by decide)).mono ?_
 rintro e w3 ⟨rfl,m,s⟩
 rw[h3] at m ⊢
 have L:=zc m
 have J:Hid (IS o S w S w3):=aa.out.trans s
 clear m s
 go_wp2_with fail
 refine (zdo C z n j o S (adv q) 1 zbG cSemi _ L.out (by decide) (by decide)).mono ?_
 cases A:stmtI C 1 zbG cSemi (adv q) with
 |error p=>
  rintro e Z ⟨rfl,hb⟩
  have HB:Hid (Below j w Z):=(X.out.back J.out).trans hb
  have M:Hid (zan C q= .error p):=bdE HY.out A
  unfold Pan
  go_wp2
  refine⟨rfl,?_⟩
  rw[M.out]
  exact⟨rfl,HB.out⟩
 |ok a4=>
  rintro e Z ⟨rfl,S4,m,s⟩
  have Y:=zc m
  have H:Hid (IS o S w S4 Z):=J.out.trans s
  clear m s
  have E:=zc (bdO HY.out A)
  have D:=(zgk A (by decide)).2
  go_wp2_with fail
  refine (zet C z n j o S4 a4 ⟨1,sDefault,zbG,sNone⟩ _ Y.out D).mono ?_
  cases I:zn C ⟨1,sDefault,zbG,sNone⟩ a4 with
  |error p=>
   rintro e V ⟨rfl,hb⟩
   have HB:Hid (Below j w V):=(X.out.back H.out).trans hb
   have M:Hid (zan C q= .error p):=E.out.trans I
   unfold Pan
   go_wp2
   refine⟨rfl,?_⟩
   rw[M.out]
   exact⟨rfl,HB.out⟩
  |ok a5=>
   rintro e V ⟨rfl,S5,m,s⟩
   have O:=zc m
   have K:Hid (IS o S w S5 V):=H.out.trans s
   clear m s
   have ab:=zc (E.out.trans I)
   go_wp2
   go_end0
   rw[ab.out]
   exact⟨rfl,S5,O.out,K.out⟩
theorem zno (C:Cx) (z n j o:Nat) (S:Sv) (q:PS) (w:World) (h:IM C z n j o S q w) (hC:zaV C) (h1:isT C q.pos 4 zF=false) (h2:isT C q.pos 4 zv=false) (h3:isT C q.pos 1 sDefault=false) (h4:isT C q.pos 1 zA=true):
  Calls Tryz.prog 150 #[.pointer (some ⟨o,0,none⟩)] w (zN C z n j o (zan C q) id (fun _=>.tuple #[]) S w):=by
 have HH:=zc h
 have HY:Hid (zan C q=bd (letJ C 1 (adv q)) fun a=>zn C ⟨1,(ze C (q.pos+1)).text,(ze C (q.pos+1)).text,sNone⟩ a):=by show _=_;rw[zan,h1,h2,h3,h4];rfl
 clear h
 go_enter Tryz.func150,Tryz.ntmps150
 go_wp2_with fail
 refine (zH C z n j o S q 4 zF _ HH.out (by decide)).mono ?_
 rintro e w1 ⟨rfl,m,s⟩
 rw[h1] at m ⊢
 have U:=zc m
 have ae:=zc s
 clear m s
 go_wp2_with fail
 refine (zH C z n j o S q 4 zv _ U.out (by decide)).mono ?_
 rintro e w2 ⟨rfl,m,s⟩
 rw[h2] at m ⊢
 have N:=zc m
 have ac:Hid (IS o S w S w2):=ae.out.trans s
 clear m s
 go_wp2_with fail
 refine (zH C z n j o S q 1 sDefault _ N.out (by decide)).mono ?_
 rintro e w3 ⟨rfl,m,s⟩
 rw[h3] at m ⊢
 have L:=zc m
 have ad:Hid (IS o S w S w3):=ac.out.trans s
 clear m s
 go_wp2_with fail
 refine (zH C z n j o S q 1 zA _ L.out (by decide)).mono ?_
 rintro e w4 ⟨rfl,m,s⟩
 rw[h4] at m ⊢
 have ab:=zc m
 have I:Hid (IS o S w S w4):=ad.out.trans s
 clear m s
 go_wp2_with fail
 refine (zfV C z n j o S (adv q) _ ab.out).mono ?_
 cases A:letJ C 1 (adv q) with
 |error p=>
  rintro e Y ⟨rfl,hb⟩
  have HB:Hid (Below j w Y):=(HH.out.back I.out).trans hb
  have M:Hid (zan C q= .error p):=bdE HY.out A
  unfold Pan
  go_wp2
  refine⟨rfl,?_⟩
  rw[M.out]
  exact⟨rfl,HB.out⟩
 |ok a5=>
  rintro e Y ⟨rfl,S5,m,s⟩
  have O:=zc m
  have D:Hid (IS o S w S5 Y):=I.out.trans s
  clear m s
  have K:=zc (bdO HY.out A)
  obtain⟨⟨l,e,H⟩,E⟩:=znj A
  have aa:=zc H
  clear H
  go_wp2_with fail
  refine (zi5 C z n j o S5 a5 l _ _ (ze C (q.pos+1)).text _ O.out aa.out (hC _) E).mono ?_
  cases J:zn C ⟨1,(ze C (q.pos+1)).text,(ze C (q.pos+1)).text,sNone⟩ a5 with
  |error p=>
   rintro e w6 ⟨rfl,hb⟩
   have HB:Hid (Below j w w6):=(HH.out.back D.out).trans hb
   have M:Hid (zan C q= .error p):=K.out.trans J
   unfold Pan
   go_wp2
   refine⟨rfl,?_⟩
   rw[M.out]
   exact⟨rfl,HB.out⟩
  |ok a6=>
   rintro e w6 ⟨rfl,S6,m,s⟩
   have V:=zc m
   have Z:Hid (IS o S w S6 w6):=D.out.trans s
   clear m s
   have X:=zc (K.out.trans J)
   go_wp2
   go_end0
   rw[X.out]
   exact⟨rfl,S6,V.out,Z.out⟩
theorem znp (C:Cx) (z n j o:Nat) (S:Sv) (q:PS) (w:World) (h:IM C z n j o S q w) (hC:zaV C) (h1:isT C q.pos 4 zF=false) (h2:isT C q.pos 4 zv=false) (h3:isT C q.pos 1 sDefault=false) (h4:isT C q.pos 1 zA=false) (h5:isT C q.pos 1 zO=true):
  Calls Tryz.prog 150 #[.pointer (some ⟨o,0,none⟩)] w (zN C z n j o (zan C q) id (fun _=>.tuple #[]) S w):=by
 have HH:=zc h
 have HY:Hid (zan C q=bd (fnI C (adv q)) fun a=>zn C ⟨1,(ze C (q.pos+1)).text,(ze C (q.pos+1)).text,sNone⟩ a):=by show _=_;rw[zan,h1,h2,h3,h4,h5];rfl
 clear h
 go_enter Tryz.func150,Tryz.ntmps150
 go_wp2_with fail
 refine (zH C z n j o S q 4 zF _ HH.out (by decide)).mono ?_
 rintro e w1 ⟨rfl,m,s⟩
 rw[h1] at m ⊢
 have V:=zc m
 have ag:=zc s
 clear m s
 go_wp2_with fail
 refine (zH C z n j o S q 4 zv _ V.out (by decide)).mono ?_
 rintro e w2 ⟨rfl,m,s⟩
 rw[h2] at m ⊢
 have O:=zc m
 have ad:Hid (IS o S w S w2):=ag.out.trans s
 clear m s
 go_wp2_with fail
 refine (zH C z n j o S q 1 sDefault _ O.out (by decide)).mono ?_
 rintro e w3 ⟨rfl,m,s⟩
 rw[h3] at m ⊢
 have L:=zc m
 have ae:Hid (IS o S w S w3):=ad.out.trans s
 clear m s
 go_wp2_with fail
 refine (zH C z n j o S q 1 zA _ L.out (by decide)).mono ?_
 rintro e w4 ⟨rfl,m,s⟩
 rw[h4] at m ⊢
 have ac:=zc m
 have Y:Hid (IS o S w S w4):=ae.out.trans s
 clear m s
 go_wp2_with fail
 refine (zH C z n j o S q 1 zO _ ac.out (by decide)).mono ?_
 rintro e w5 ⟨rfl,m,s⟩
 rw[h5] at m ⊢
 have U:=zc m
 have D:Hid (IS o S w S w5):=Y.out.trans s
 clear m s
 go_wp2_with fail
 refine (zfW C z n j o S (adv q) _ U.out).mono ?_
 cases A:fnI C (adv q) with
 |error p=>
  rintro e w6 ⟨rfl,hb⟩
  have HB:Hid (Below j w w6):=(HH.out.back D.out).trans hb
  have M:Hid (zan C q= .error p):=bdE HY.out A
  unfold Pan
  go_wp2
  refine⟨rfl,?_⟩
  rw[M.out]
  exact⟨rfl,HB.out⟩
 |ok a6=>
  rintro e w6 ⟨rfl,S6,m,s⟩
  have X:=zc m
  have K:Hid (IS o S w S6 w6):=D.out.trans s
  clear m s
  have J:=zc (bdO HY.out A)
  obtain⟨⟨l,e,H⟩,E⟩:=znk A
  have aa:=zc H
  clear H
  go_wp2_with fail
  refine (zi5 C z n j o S6 a6 l _ _ (ze C (q.pos+1)).text _ X.out aa.out (hC _) E).mono ?_
  cases I:zn C ⟨1,(ze C (q.pos+1)).text,(ze C (q.pos+1)).text,sNone⟩ a6 with
  |error p=>
   rintro e N ⟨rfl,hb⟩
   have HB:Hid (Below j w N):=(HH.out.back K.out).trans hb
   have M:Hid (zan C q= .error p):=J.out.trans I
   unfold Pan
   go_wp2
   refine⟨rfl,?_⟩
   rw[M.out]
   exact⟨rfl,HB.out⟩
  |ok a7=>
   rintro e N ⟨rfl,S7,m,s⟩
   have af:=zc m
   have ab:Hid (IS o S w S7 N):=K.out.trans s
   clear m s
   have Z:=zc (J.out.trans I)
   go_wp2
   go_end0
   rw[Z.out]
   exact⟨rfl,S7,af.out,ab.out⟩
theorem znq (C:Cx) (z n j o:Nat) (S:Sv) (q:PS) (w:World) (h:IM C z n j o S q w) (Y:isT C q.pos 4 zF=false) (U:isT C q.pos 4 zv=false) (V:isT C q.pos 1 sDefault=false) (Z:isT C q.pos 1 zA=false) (O:isT C q.pos 1 zO=false):
  Calls Tryz.prog 150 #[.pointer (some ⟨o,0,none⟩)] w (zN C z n j o (zan C q) id (fun _=>.tuple #[]) S w):=by
 have X:=zc h
 have HY:Hid (zan C q= .error (zq C q.pos)):=by show _=_;rw[zan,Y,U,V,Z,O];rfl
 clear h
 go_enter Tryz.func150,Tryz.ntmps150
 go_wp2_with fail
 refine (zH C z n j o S q 4 zF _ X.out (by decide)).mono ?_
 rintro e w1 ⟨rfl,m,s⟩
 rw[Y] at m ⊢
 have I:=zc m
 have N:=zc s
 clear m s
 go_wp2_with fail
 refine (zH C z n j o S q 4 zv _ I.out (by decide)).mono ?_
 rintro e w2 ⟨rfl,m,s⟩
 rw[U] at m ⊢
 have H:=zc m
 have L:Hid (IS o S w S w2):=N.out.trans s
 clear m s
 go_wp2_with fail
 refine (zH C z n j o S q 1 sDefault _ H.out (by decide)).mono ?_
 rintro e w3 ⟨rfl,m,s⟩
 rw[V] at m ⊢
 have E:=zc m
 have M:Hid (IS o S w S w3):=L.out.trans s
 clear m s
 go_wp2_with fail
 refine (zH C z n j o S q 1 zA _ E.out (by decide)).mono ?_
 rintro e w4 ⟨rfl,m,s⟩
 rw[Z] at m ⊢
 have K:=zc m
 have J:Hid (IS o S w S w4):=M.out.trans s
 clear m s
 go_wp2_with fail
 refine (zH C z n j o S q 1 zO _ K.out (by decide)).mono ?_
 rintro e w5 ⟨rfl,m,s⟩
 rw[O] at m ⊢
 have A:=zc m
 have D:Hid (IS o S w S w5):=J.out.trans s
 clear m s
 go_wp2_with fail
 refine (zdG C z n j o S q _ A.out).mono ?_
 rintro e wz ⟨rfl,hb⟩
 have HB:Hid (Below j w wz):=(X.out.back D.out).trans (hb.mono A.out.mem.base)
 have HX:Hid (zan C q= .error (zq C q.pos)):=HY.out
 unfold Pan
 go_wp2
 refine⟨rfl,?_⟩
 rw[HX.out]
 exact⟨rfl,HB.out⟩
theorem znr (C:Cx) (z n j o:Nat) (S:Sv) (q:PS) (w:World) (h:IM C z n j o S q w) (H:zaV C):
  Calls Tryz.prog 150 #[.pointer (some ⟨o,0,none⟩)] w (zN C z n j o (zan C q) id (fun _=>.tuple #[]) S w):=by
 cases A:isT C q.pos 4 zF with
 |true=>exact znl C z n j o S q w h H A
 |false=>
  cases D:isT C q.pos 4 zv with
  |true=>exact znm C z n j o S q w h H A D
  |false=>
   cases E:isT C q.pos 1 sDefault with
   |true=>exact znn C z n j o S q w h A D E
   |false=>
    cases I:isT C q.pos 1 zA with
    |true=>exact zno C z n j o S q w h H A D E I
    |false=>
     cases J:isT C q.pos 1 zO with
     |true=>exact znp C z n j o S q w h H A D E I J
     |false=>exact znq C z n j o S q w h A D E I J
end Go.Proofs.YticdggnnpjachaaGreat
