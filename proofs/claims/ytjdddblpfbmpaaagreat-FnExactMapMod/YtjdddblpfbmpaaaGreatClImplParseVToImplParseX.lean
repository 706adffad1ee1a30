/-
  What ContainsFunc over Exps answers,and a row of Exps whose elements are written: the walks.
  What exportNames of impl's parser answers: the walks. (It writes into the row that it is handed: so what is told is told from a world on in which that row was not yet there.)
  What exportItem of impl's parser answers: the walks.
-/
import Derived.Test.YtjdddblpfbmpaaaGreatClImplParseU
namespace Go.Proofs.YtjdddblpfbmpaaaGreat
set_option maxRecDepth 100000
set_option maxHeartbeats 3200000
open Go.RowKit Go.PlainAid Go.Sort
theorem zld {α:Type} (f:α→List Value) (m:Nat) (w: ∀x,(f x).length=m): ∀(l:List α) (j i:Nat) (x y:α) (v:Value),l[j]? =some x→i<m→f y=(f x).set i v→(l.flatMap f).set (j*m+i) v=(l.set j y).flatMap f:=by
 intro l
 induction l with
 |nil=>intro j i x y v h;simp at h
 |cons z l I=>
  intro j i x y v h A H
  match j with
  |0=>
   simp only[List.getElem?_cons_zero,Option.some.injEq] at h
   subst h
   rw[List.flatMap_cons,Nat.zero_mul,Nat.zero_add,List.set_append_left _ _ (by rw[w];exact A),List.set_cons_zero,List.flatMap_cons,H]
  |j+1=>
   simp only[List.getElem?_cons_succ] at h
   rw[List.flatMap_cons,List.set_append_right _ _ (by rw[w,Nat.succ_mul];omega),w,List.set_cons_succ,List.flatMap_cons,←I j i x y v h A H]
   congr 2
   rw[Nat.succ_mul]
   omega
def mxE (s:ByteArray) (l:List Ep) (j:Nat):List Ep:=(l.take j).map (zav s)++(l.drop j).map zD
theorem zle (s:ByteArray) (l:List Ep) (j:Nat):(mxE s l j).length=l.length:=by simp[mxE];omega
theorem zlf {s:ByteArray} {l:List Ep} {j:Nat} {x:Ep} (h:l[j]? =some x):(mxE s l j)[j]? =some (zD x):=by
 obtain⟨z,rfl⟩:=List.getElem?_eq_some_iff.1 h
 have w:((l.take j).map (zav s)).length=j:=by simp;omega
 rw[mxE,List.getElem?_append_right (by omega),w,Nat.sub_self,List.drop_eq_getElem_cons z]
 rfl
theorem zsP {s:ByteArray} {l:List Ep} {j:Nat} {x:Ep} (h:l[j]? =some x):(mxE s l j).set j (zav s x)=mxE s l (j+1):=by
 obtain⟨w,rfl⟩:=List.getElem?_eq_some_iff.1 h
 have z:((l.take j).map (zav s)).length=j:=by simp;omega
 rw[mxE,List.set_append_right _ _ (by omega),z,Nat.sub_self,List.drop_eq_getElem_cons w,List.map_cons,List.set_cons_zero,mxE,List.take_succ_eq_append_getElem w,List.map_append,List.append_assoc]
 rfl
theorem zsQ (s:ByteArray) (l:List Ep):mxE s l 0=l.map zD:=by simp[mxE]
theorem zsR (s:ByteArray) (l:List Ep):mxE s l l.length=l.map (zav s):=by simp[mxE]
theorem zsS (x:Ep) (w:World):
  Calls Tryz.prog 228 #[epV x] w fun e w'=>e= .returned (.bool (x.loc.toList==[100,101,102,97,117,108,116]))∧Below w.heap.size w w':=by
 unfold epV
 cases h:(x.loc.toList==[100,101,102,97,117,108,116]) with
 |true=>
  go_enter Tryz.func228,Tryz.ntmps228
  go_wp2
  go_ret
  exact⟨rfl,(Below.refl _ _).alloc (Nat.le_refl _) _⟩
 |false=>
  go_enter Tryz.func228,Tryz.ntmps228
  go_wp2
  go_ret
  exact⟨rfl,(Below.refl _ _).alloc (Nat.le_refl _) _⟩
theorem zsT {l:List Ep} {j:Nat} {x:Ep} (h:l[j]? =some x):zaG (l.drop j)=((x.loc.toList==[100,101,102,97,117,108,116])||zaG (l.drop (j+1))):=by
 obtain⟨w,rfl⟩:=List.getElem?_eq_some_iff.1 h
 rw[List.drop_eq_getElem_cons w]
 simp only[zaG,List.any_cons]
theorem zsU (H g:Nat) (r:Rw) (l:List Ep) (w:World) (h:OwnR w H 86 4 r l.length (l.flatMap fun e=>epL (zD e))) (hl:l.length≤4000) (hg:r.a=some ⟨g,0,none⟩):
  Calls Tryz.prog 234 #[.slice (some ⟨g,0,none⟩) l.length r.cap,.func (.func 228) #[] #[]] w fun e w'=>(∃v:Int,e= .returned (.int .i64 v)∧decide (0≤v)=zaG l)∧Below w.heap.size w w':=by
 have HO:=zc h
 have X:=zc hg
 clear h hg
 go_enter Tryz.func234,Tryz.ntmps234
 go_wp2
 go_loopg [8] (l.length+1) (fun k i wr=>∃j:Nat,i= .int .i64 j∧j+k=l.length+1∧zaG (l.drop j)=zaG l∧Below w.heap.size w wr)
 case atStart=>exact⟨0,rfl,by omega,by simp,Below.refl _ _⟩
 case round=>
  obtain⟨j,rfl,hj,he,O⟩:=hrel
  have Z:=zc he
  clear he
  by_cases U:j<l.length
  ·have M:(j:Int)<(l.length:Int):=by omega
   obtain⟨x,Y⟩:=zf4 U
   have V:=zc (HO.out.keep fun k g=>O.block k (HO.out.typed g).2.1)
   obtain⟨g',I,z⟩:=OwnR.elem (f:=fun e=>epL (zD e)) (m:=4) (fun _=>rfl) V.out Y
   have eg:g'=g:=by have:=I.symm.trans X.out;simpa using this
   subst eg
   have k0:=z 0 (by omega)
   have k1:=z 1 (by omega)
   have k2:=z 2 (by omega)
   have k3:=z 3 (by omega)
   simp only[epL,zD,Nat.add_zero,List.getElem?_cons_zero,List.getElem?_cons_succ] at k0 k1 k2 k3
   have HS:=zsT Y
   clear z I Y
   obtain⟨N,A⟩: ∃N,N=j+1:=⟨_,rfl⟩
   have ej:(j:Int)+1=(N:Int):=by omega
   have HJ:=zc A
   clear A
   go_wp2_with fail
   refine (zsS (zD x) _).mono ?_
   rintro e w1 ⟨rfl,L⟩
   have J:=O.trans (L.mono O.size)
   clear L
   rw[show (zD x).loc=x.loc from rfl]
   cases ex:(x.loc.toList==[100,101,102,97,117,108,116]) with
   |true=>
    go_wp2
    go_ret
    refine⟨⟨_,rfl,?_⟩,J⟩
    rw[←Z.out,HS,ex]
    simp
   |false=>
    go_wp2
    go_roundg (gk-1)
    case rel=>
     refine⟨N,rfl,by have:=HJ.out;omega,?_,J⟩
     rw[←Z.out,HS,ex,HJ.out]
     simp
    case measure=>omega
  ·have M: ¬(j:Int)<(l.length:Int):=by omega
   go_wp2
   go_ret
   refine⟨⟨_,rfl,?_⟩,O⟩
   rw[←Z.out,List.drop_eq_nil_of_le (by omega)]
   rfl
theorem zlg (j g:Nat) (r:Rw) (l:List Ep) (w:World) (h:OwnR w j 86 4 r l.length (l.flatMap fun e=>epL (zD e))) (J:l.length≤4000) (H:r.a=some ⟨g,0,none⟩):
  Calls Tryz.prog 229 #[.slice (some ⟨g,0,none⟩) l.length r.cap,.func (.func 228) #[] #[]] w fun e w'=>e= .returned (.bool (zaG l))∧Below w.heap.size w w':=by
 have I:=zc h
 have z:=zc H
 clear h H
 go_enter Tryz.func229,Tryz.ntmps229
 go_wp2_with fail
 refine (zsU j g r l _ I.out J z.out).mono ?_
 rintro e N ⟨⟨v,rfl,A⟩,L⟩
 have M:=zc A
 clear A
 go_wp2
 go_ret
 exact⟨zk M.out,L⟩
def zaD (C:Cx) (l:List Ep) (q:PS):PR:=
 if isT C q.pos 1 zU||zaG l then bd (ze C 1 zU q) fun a=>bd (zJ C a) fun b=>bd (ze C 4 cSemi b.1) fun c=>zX (fun e=>zs C (zav b.2 e)) l (.ok c)
 else bd (ze C 4 cSemi q) fun c=>zX (fun e=>zs C (zD e)) l (.ok c)
theorem zlh (X:Ep→Ep) (l:List Ep):(l.map X).flatMap epL=l.flatMap fun e=>epL (X e):=by rw[List.flatMap_map]
theorem zsV (C:Cx) (V A z I b0 g:Nat) (r:Rw) (S M:Sv) (q0 q:PS) (l:List Ep) (w wc:World) (hh:IM C V A z I S q0 w) (h:IM C V A z I M q wc) (h0:IS I S w M wc) (hl:l.length≤4000) (hf:Fr 86 4 wc b0 r l.length (l.flatMap (fun e=>epL (zD e))) M) (hg:r.a=some ⟨g,0,none⟩) (hi:isT C q.pos 1 zU=false) (ha:zaG l=false):
  Calls Tryz.prog 210 #[.pointer (some ⟨I,0,none⟩),.slice (some ⟨g,0,none⟩) l.length r.cap] wc (zR C V A z I (zaD C l q) id (fun _=>.tuple #[]) S w):=by
 have HF:=zc hf
 have HG:=zc hg
 have HY:Hid (zaD C l q=bd (ze C 4 cSemi q) fun c=>zX (fun e=>zs C (zD e)) l (.ok c)):=by show _=_;rw[zaD,hi,ha];rfl
 clear hf hg
 go_enter Tryz.func210,Tryz.ntmps210
 go_wp2_with fail
 refine (zck C V A z I M q 1 zU _ h).mono ?_
 rintro e w1 ⟨rfl,H⟩
 rw[hi]
 have aw:=h.later H
 have am:=(h0.trans (IS.below H))
 have ah:IS I M wc M w1:=IS.below H
 clear H
 have ai:Hid (Fr 86 4 w1 b0 r l.length (l.flatMap (fun e=>epL (zD e))) M):=HF.out.step h (by decide) ah
 clear ah
 go_wp2_with fail
 refine (zlg b0 g r l _ ai.out.1 hl HG.out).mono ?_
 rintro e w2 ⟨rfl,H⟩
 rw[ha]
 have aq:Hid (Fr 86 4 w2 b0 r l.length (l.flatMap (fun e=>epL (zD e))) M):=ai.out.later H
 have aa:=aw.later H
 have ad:=(am.trans (IS.below H))
 clear H
 go_wp2_with fail
 refine (zcx C V A z I M q 59 _ aa).mono ?_
 cases U:ze C 4 cSemi q with
 |error p=>
  rintro e w3 ⟨rfl,H⟩
  have HB:=(hh.back ad).trans H
  have HX:Hid (zaD C l q= .error p):=bdE HY.out U
  unfold Pan
  go_wp2
  refine⟨rfl,?_⟩
  rw[HX.out]
  exact⟨rfl,HB⟩
 |ok a3=>
  rintro e w3 ⟨rfl,S3,an,s⟩
  have ar:Hid (Fr 86 4 w3 b0 r l.length (l.flatMap (fun e=>epL (zD e))) S3):=aq.out.step aa (by decide) s
  have au:=ad.trans s
  clear s
  have ao:=zc (bdO HY.out U)
  have ae:0<a3.pos:=by rw[(zbT U).1];exact Nat.succ_pos _
  go_wp2
  go_loopg [39] l.length (fun k i wr=>∃(j:Nat) (X:Sv) (N:PS),i= .int .i64 j∧j+k=l.length∧zaD C l q=zX (fun e=>zs C (zD e)) (l.drop j) (.ok N)∧0<N.pos∧IM C V A z I X N wr∧IS I S w X wr∧Fr 86 4 wr b0 r l.length (l.flatMap fun e=>epL (zD e)) X)
  case atStart=>exact⟨0,S3,a3,rfl,by omega,ao.out,ae,an,au,ar.out⟩
  case round=>
   obtain⟨j,X,N,rfl,hj,hy,ac,m',s',f'⟩:=hrel
   have af:=zc hy
   have L:=m'
   have Y:=s'
   have ag:Hid (Fr 86 4 wr b0 r l.length (l.flatMap fun e=>epL (zD e)) X):=f'
   clear hy m' s' f'
   by_cases ak:j<l.length
   ·have aj:(j:Int)<(l.length:Int):=by omega
    obtain⟨x,hx⟩:=zf4 ak
    obtain⟨g',ab,J⟩:=OwnR.elem (f:=fun e=>epL (zD e)) (m:=4) (fun _=>rfl) ag.out.1 hx
    have eg:g'=g:=by have:=ab.symm.trans HG.out;simpa using this
    subst eg
    have k0:=J 0 (by omega)
    have k1:=J 1 (by omega)
    have k2:=J 2 (by omega)
    have k3:=J 3 (by omega)
    simp only[epL,zD,Nat.add_zero,List.getElem?_cons_zero,List.getElem?_cons_succ] at k0 k1 k2 k3
    have HZ:=zc (af.out.trans (zhN (fun e=>zs C (zD e)) hx N))
    clear J ab hx
    obtain⟨Z,O⟩: ∃Z,Z=j+1:=⟨_,rfl⟩
    have ej:(j:Int)+1=(Z:Int):=by omega
    rw[←O] at HZ
    have aA:=L.lt
    have HJ:=zc O
    clear O
    go_wp2_with fail
    refine (zfg C V A z I X N (zD x) _ (L.alloc _) ac).mono ?_
    cases hn:zs C (zD x) N with
    |error p=>
     rintro e wy ⟨rfl,H⟩
     have HB:Below z w wy:=(hh.back (Y.alloc _)).trans H
     have HX:Hid (zaD C l q= .error p):=by show _=_;rw[HZ.out,hn];exact zgC _ _ _
     unfold Pan
     go_wp2
     refine⟨rfl,?_⟩
     rw[HX.out]
     exact⟨rfl,HB⟩
    |ok ay=>
     rintro e wy ⟨rfl,Sy,al,s⟩
     have az:IS I S w Sy wy:=(Y.alloc _).trans s
     have ap:Hid (Fr 86 4 wy b0 r l.length (l.flatMap fun e=>epL (zD e)) Sy):=(ag.out.later ((Below.refl _ _).alloc (Nat.le_refl _) _)).step (L.alloc _) (by decide) s
     have av:Hid (zaD C l q=zX (fun e=>zs C (zD e)) (l.drop Z) (.ok ay)):=by show _=_;rw[HZ.out,hn]
     have ax:Hid (0<ay.pos):=by show 0<ay.pos;rw[zlb hn];exact ac
     clear s
     go_wp2
     go_roundg (gk-1)
     case rel=>exact⟨Z,Sy,ay,rfl,by have:=HJ.out;omega,av.out,ax.out,al,az,ap.out⟩
     case measure=>omega
   ·have aj: ¬(j:Int)<(l.length:Int):=by omega
    have HZ:Hid (zaD C l q= .ok N):=by show _=_;rw[af.out,List.drop_eq_nil_of_le (by omega)];rfl
    go_wp2
    go_end0
    rw[HZ.out]
    exact⟨rfl,X,L,Y⟩
theorem zsW (C:Cx) (L A j I b0 g:Nat) (r:Rw) (S H:Sv) (q0 q:PS) (l:List Ep) (w wc:World) (hh:IM C L A j I S q0 w) (h:IM C L A j I H q wc) (h0:IS I S w H wc) (hl:l.length≤4000) (hf:Fr 86 4 wc b0 r l.length (l.flatMap (fun e=>epL (zD e))) H) (Z:r.a=some ⟨g,0,none⟩) (N:isT C q.pos 1 zU=false) (ha:zaG l=true):
  Calls Tryz.prog 210 #[.pointer (some ⟨I,0,none⟩),.slice (some ⟨g,0,none⟩) l.length r.cap] wc (zR C L A j I (zaD C l q) id (fun _=>.tuple #[]) S w):=by
 have HF:=zc hf
 have HG:=zc Z
 have HY:Hid (zaD C l q= .error (zu C q.pos)):=by show _=_;rw[zaD,N,ha,if_pos (by decide),zhd N];rfl
 clear hf Z
 go_enter Tryz.func210,Tryz.ntmps210
 go_wp2_with fail
 refine (zck C L A j I H q 1 zU _ h).mono ?_
 rintro e Y ⟨rfl,z⟩
 rw[N]
 have X:=h.later z
 have U:=(h0.trans (IS.below z))
 have J:IS I H wc H Y:=IS.below z
 clear z
 have M:Hid (Fr 86 4 Y b0 r l.length (l.flatMap (fun e=>epL (zD e))) H):=HF.out.step h (by decide) J
 clear J
 go_wp2_with fail
 refine (zlg b0 g r l _ M.out.1 hl HG.out).mono ?_
 rintro e w2 ⟨rfl,z⟩
 rw[ha]
 have aa:Hid (Fr 86 4 w2 b0 r l.length (l.flatMap (fun e=>epL (zD e))) H):=M.out.later z
 have O:=X.later z
 have V:=(U.trans (IS.below z))
 clear z
 go_wp2_with fail
 refine (ze0 C L A j I H q zU _ O).mono ?_
 rw[zhd N]
 rintro e w3 ⟨rfl,z⟩
 have HB:=(hh.back V).trans z
 have HX:Hid (zaD C l q= .error (zu C q.pos)):=HY.out
 unfold Pan
 go_wp2
 refine⟨rfl,?_⟩
 rw[HX.out]
 exact⟨rfl,HB⟩
theorem zsX (C:Cx) (Y H z L b0 g:Nat) (r:Rw) (S Sc:Sv) (q0 q:PS) (l:List Ep) (w wc:World) (hh:IM C Y H z L S q0 w) (h:IM C Y H z L Sc q wc) (h0:IS L S w Sc wc) (hC:zbn C) (hl:l.length≤4000) (hf:Fr 86 4 wc b0 r l.length (l.flatMap (fun e=>epL (zD e))) Sc) (hg:r.a=some ⟨g,0,none⟩) (aj:w.heap.size≤g) (hi:isT C q.pos 1 zU=true):
  Calls Tryz.prog 210 #[.pointer (some ⟨L,0,none⟩),.slice (some ⟨g,0,none⟩) l.length r.cap] wc (zR C Y H z L (zaD C l q) id (fun _=>.tuple #[]) S w):=by
 have HF:=zc hf
 have HG:=zc hg
 have aw:=zc aj
 have HY:Hid (zaD C l q=bd (ze C 1 zU q) fun a=>bd (zJ C a) fun b=>bd (ze C 4 cSemi b.1) fun c=>zX (fun e=>zs C (zav b.2 e)) l (.ok c)):=by show _=_;rw[zaD,hi];rfl
 clear hf hg aj
 go_enter Tryz.func210,Tryz.ntmps210
 go_wp2_with fail
 refine (zck C Y H z L Sc q 1 zU _ h).mono ?_
 rintro e w1 ⟨rfl,V⟩
 rw[hi]
 have aB:=h.later V
 have ai:=(h0.trans (IS.below V))
 have av:IS L Sc wc Sc w1:=IS.below V
 clear V
 have aD:Hid (Fr 86 4 w1 b0 r l.length (l.flatMap (fun e=>epL (zD e))) Sc):=HF.out.step h (by decide) av
 clear av
 go_wp2_with fail
 refine (ze0 C Y H z L Sc q zU _ aB).mono ?_
 cases aA:ze C 1 zU q with
 |error p=>
  rintro e w2 ⟨rfl,V⟩
  have HB:=(hh.back ai).trans V
  have HX:Hid (zaD C l q= .error p):=bdE HY.out aA
  unfold Pan
  go_wp2
  refine⟨rfl,?_⟩
  rw[HX.out]
  exact⟨rfl,HB⟩
 |ok a2=>
  rintro e w2 ⟨rfl,S2,ax,s⟩
  have aO:Hid (Fr 86 4 w2 b0 r l.length (l.flatMap (fun e=>epL (zD e))) S2):=aD.out.step aB (by decide) s
  have ak:=ai.trans s
  clear s
  have az:=zc (bdO HY.out aA)
  go_wp2_with fail
  refine (zfW C Y H z L S2 a2 _ ax hC).mono ?_
  cases ao:zJ C a2 with
  |error p=>
   rintro e w3 ⟨rfl,V⟩
   have HB:=(hh.back ak).trans V
   have HX:Hid (zaD C l q= .error p):=bdE az.out ao
   unfold Pan
   go_wp2
   refine⟨rfl,?_⟩
   rw[HX.out]
   exact⟨rfl,HB⟩
  |ok A=>
   rintro e w3 ⟨rfl,S3,ag,s⟩
   have ac:Hid (Fr 86 4 w3 b0 r l.length (l.flatMap (fun e=>epL (zD e))) S3):=aO.out.step ax (by decide) s
   have aE:=ak.trans s
   clear s
   have ap:=zc (bdO az.out ao)
   have ae:Hid (Fr 86 4 w3 b0 r l.length ((mxE A.2 l 0).flatMap epL) S3):=by show Fr _ _ _ _ _ _ _ _;rw[zsQ,zlh];exact ac.out
   have ad:g≠L:=ac.out.ngp ag (by decide) (by rw[Rw.blk,HG.out];rfl)
   have ar:g≠Y:=ac.out.ngt ag (by decide) (by rw[Rw.blk,HG.out];rfl)
   have aa:Hid (¬S3.has g):=ac.out.2 g (by rw[Rw.blk,HG.out];rfl)
   have au:=zc ad
   have an:=zc ar
   clear ad ar
   go_wp2
   go_loopg [22] l.length (fun k i wr=>∃(j:Nat),i= .int .i64 j∧j+k=l.length∧IM C Y H z L S3 A.1 wr∧IS L S w S3 wr∧Fr 86 4 wr b0 r l.length ((mxE A.2 l j).flatMap epL) S3)
   case atStart=>exact⟨0,rfl,by omega,ag,aE,ae.out⟩
   case round=>
    obtain⟨j,rfl,hj,m',s',f'⟩:=hrel
    have J:=m'
    have M:=s'
    have U:Hid (Fr 86 4 wr b0 r l.length ((mxE A.2 l j).flatMap epL) S3):=f'
    clear m' s' f'
    by_cases ab:j<l.length
    ·have Z:(j:Int)<(l.length:Int):=by omega
     obtain⟨x,hx⟩:=zf4 ab
     have HX:=zc hx
     have O:=U.out.1
     have ho:OwnR wr b0 86 4 r (mxE A.2 l j).length ((mxE A.2 l j).flatMap epL):=by rw[zle];exact O
     obtain⟨g',X,I⟩:=OwnR.elem (f:=epL) (m:=4) (fun _=>rfl) ho (zlf hx)
     have eg:g'=g:=by have:=X.symm.trans HG.out;simpa using this
     subst eg
     have k0:=I 0 (by omega)
     have k3:=I 3 (by omega)
     simp only[epL,zD,Nat.add_zero,List.getElem?_cons_zero,List.getElem?_cons_succ] at k0 k3
     unfold OwnR at O
     rw[HG.out] at O
     have aR:=O.frozenAt
     have aN:=zc O
     clear I X hx O ho
     obtain⟨j1,N⟩: ∃j1,j1=j+1:=⟨_,rfl⟩
     have ej:(j:Int)+1=(j1:Int):=by omega
     have HJ:=zc N
     clear N
     go_wp2
     go_roundg (gk-1)
     case rel=>
      refine⟨j1,rfl,by have:=HJ.out;omega,(J.set au.out an.out aa.out _ _).set au.out an.out aa.out _ _,(M.new aw.out _ _).new aw.out _ _,?_,U.out.2⟩
      have aL:=(aN.out.stored (j*4+0) (.int .i64 2)).1
      have aq:=(aL.stored (j*4+3) (.string A.2)).1
      rw[zld epL 4 (fun _=>rfl) _ j 0 (zD x) ⟨2,x.name,x.loc,sNone⟩ (.int .i64 2) (zlf HX.out) (by omega) rfl,zld epL 4 (fun _=>rfl) ((mxE A.2 l j).set j ⟨2,x.name,x.loc,sNone⟩) j 3 ⟨2,x.name,x.loc,sNone⟩ (zav A.2 x) (.string A.2) (List.getElem?_set_self (by rw[zle];exact ab)) (by omega) rfl,List.set_set,zsP HX.out,←HJ.out] at aq
      unfold OwnR
      rw[HG.out]
      exact aq
     case measure=>omega
    ·have Z: ¬(j:Int)<(l.length:Int):=by omega
     have aK:j=l.length:=by omega
     subst aK
     have aG:Hid (Fr 86 4 wr b0 r l.length (l.flatMap fun e=>epL (zav A.2 e)) S3):=by show Fr _ _ _ _ _ _ _ _;rw[←zlh,←zsR A.2 l];exact U.out
     go_wp2_with fail
     refine (zcx C Y H z L S3 A.1 59 _ J).mono ?_
     cases af:ze C 4 cSemi A.1 with
     |error p=>
      rintro e w4 ⟨rfl,V⟩
      have HB:=(hh.back M).trans V
      have HX:Hid (zaD C l q= .error p):=bdE ap.out af
      unfold Pan
      go_wp2
      refine⟨rfl,?_⟩
      rw[HX.out]
      exact⟨rfl,HB⟩
     |ok a4=>
      rintro e w4 ⟨rfl,S4,aM,s⟩
      have ae:Hid (Fr 86 4 w4 b0 r l.length (l.flatMap fun e=>epL (zav A.2 e)) S4):=aG.out.step J (by decide) s
      have aI:=M.trans s
      clear s
      have aP:=zc (bdO ap.out af)
      have al:0<a4.pos:=by rw[(zbT af).1];exact Nat.succ_pos _
      go_wp2
      go_loopg [39] l.length (fun k i wr=>∃(j:Nat) (S':Sv) (q':PS),i= .int .i64 j∧j+k=l.length∧zaD C l q=zX (fun e=>zs C (zav A.2 e)) (l.drop j) (.ok q')∧0<q'.pos∧IM C Y H z L S' q' wr∧IS L S w S' wr∧Fr 86 4 wr b0 r l.length (l.flatMap fun e=>epL (zav A.2 e)) S')
      case atStart=>exact⟨0,S4,a4,rfl,by omega,aP.out,al,aM,aI,ae.out⟩
      case round=>
       obtain⟨j,S',q',rfl,hj,hy,ah,m',s',f'⟩:=hrel
       have am:=zc hy
       have J:=m'
       have M:=s'
       have U:Hid (Fr 86 4 wr b0 r l.length (l.flatMap fun e=>epL (zav A.2 e)) S'):=f'
       clear hy m' s' f'
       by_cases ab:j<l.length
       ·have Z:(j:Int)<(l.length:Int):=by omega
        obtain⟨x,hx⟩:=zf4 ab
        obtain⟨g',X,I⟩:=OwnR.elem (f:=fun e=>epL (zav A.2 e)) (m:=4) (fun _=>rfl) U.out.1 hx
        have eg:g'=g:=by have:=X.symm.trans HG.out;simpa using this
        subst eg
        have k0:=I 0 (by omega)
        have k1:=I 1 (by omega)
        have k2:=I 2 (by omega)
        have k3:=I 3 (by omega)
        simp only[epL,zav,Nat.add_zero,List.getElem?_cons_zero,List.getElem?_cons_succ] at k0 k1 k2 k3
        have HZ:=zc (am.out.trans (zhN (fun e=>zs C (zav A.2 e)) hx q'))
        clear I X hx
        obtain⟨j1,N⟩: ∃j1,j1=j+1:=⟨_,rfl⟩
        have ej:(j:Int)+1=(j1:Int):=by omega
        rw[←N] at HZ
        have ad:=J.lt
        have HJ:=zc N
        clear N
        go_wp2_with fail
        refine (zfg C Y H z L S' q' (zav A.2 x) _ (J.alloc _) ah).mono ?_
        cases hn:zs C (zav A.2 x) q' with
        |error p=>
         rintro e wy ⟨rfl,V⟩
         have HB:Below z w wy:=(hh.back (M.alloc _)).trans V
         have HX:Hid (zaD C l q= .error p):=by show _=_;rw[HZ.out,hn];exact zgC _ _ _
         unfold Pan
         go_wp2
         refine⟨rfl,?_⟩
         rw[HX.out]
         exact⟨rfl,HB⟩
        |ok ay=>
         rintro e wy ⟨rfl,Sy,aJ,s⟩
         have aH:IS L S w Sy wy:=(M.alloc _).trans s
         have aC:Hid (Fr 86 4 wy b0 r l.length (l.flatMap fun e=>epL (zav A.2 e)) Sy):=(U.out.later ((Below.refl _ _).alloc (Nat.le_refl _) _)).step (J.alloc _) (by decide) s
         have aF:Hid (zaD C l q=zX (fun e=>zs C (zav A.2 e)) (l.drop j1) (.ok ay)):=by show _=_;rw[HZ.out,hn]
         have aQ:Hid (0<ay.pos):=by show 0<ay.pos;rw[zlb hn];exact ah
         clear s
         go_wp2
         go_roundg (gk-1)
         case rel=>exact⟨j1,Sy,ay,rfl,by have:=HJ.out;omega,aF.out,aQ.out,aJ,aH,aC.out⟩
         case measure=>omega
       ·have Z: ¬(j:Int)<(l.length:Int):=by omega
        have HZ:Hid (zaD C l q= .ok q'):=by show _=_;rw[am.out,List.drop_eq_nil_of_le (by omega)];rfl
        go_wp2
        go_end0
        rw[HZ.out]
        exact⟨rfl,S',J,M⟩
theorem zsY (C:Cx) (I z j A b0:Nat) (r:Rw) (S H:Sv) (M q:PS) (l:List Ep) (w wc:World) (U:IM C I z j A S M w) (h:IM C I z j A H q wc) (X:IS A S w H wc) (hC:zbn C) (O:l.length≤4000) (V:l.length≠0) (J:Fr 86 4 wc b0 r l.length (l.flatMap (fun e=>epL (zD e))) H) (N:w.heap.size≤b0):
  Calls Tryz.prog 210 #[.pointer (some ⟨A,0,none⟩),.slice r.a l.length r.cap] wc (zR C I z j A (zaD C l q) id (fun _=>.tuple #[]) S w):=by
 rcases J.1.nil_or with ⟨_,_,e⟩|⟨g,L⟩
 ·exact absurd e V
 ·have Z:w.heap.size≤g:=Nat.le_trans N (J.1.typed (show r.blk=some g by rw[Rw.blk,L];rfl)).1
  rw[L]
  cases Y:isT C q.pos 1 zU with
  |true=>exact zsX C I z j A b0 g r S H M q l w wc U h X hC O J L Z Y
  |false=>
   cases ha:zaG l with
   |true=>exact zsW C I z j A b0 g r S H M q l w wc U h X O J L Y ha
   |false=>exact zsV C I z j A b0 g r S H M q l w wc U h X O J L Y ha
theorem zsZ {C:Cx} {k:Int} {n:ByteArray} {q b:PS} (h:zW C k n q= .ok b):b={q with st:=q.st++[⟨k,n,(q.ex.length:Int)-1⟩]}:=by
 unfold zW at h
 split at h
 ·cases h
 ·cases h
  rfl
theorem zhP {C:Cx} {k:Int} {n s:ByteArray} {q b:PS} (h:stmtI C k n s q= .ok b) (J:0<s.size):(∃l e,b.st=l++[⟨k,n,e⟩])∧0<b.pos:=by
 obtain⟨a,I,w⟩:=zp h
 obtain⟨c,A,z⟩:=zp w
 have j:=ziS _ A
 have H:=zsZ z
 subst H
 refine⟨⟨_,_,rfl⟩,?_⟩
 rw[j]
 show 0<a.pos+s.size
 omega
theorem zta {C:Cx} {k:Int} {q b:PS} (h:letJ C k q= .ok b):(∃l e,b.st=l++[⟨k,(zf C q.pos).text,e⟩])∧0<b.pos:=by
 obtain⟨a,j,w⟩:=zp h
 obtain⟨c,A,z⟩:=zp w
 have:=zhP z (by decide)
 rw[(zb0 j).1] at this
 exact this
theorem ztb {C:Cx} {q b:PS} (h:fnI C q= .ok b):(∃l e,b.st=l++[⟨2,(zf C q.pos).text,e⟩])∧0<b.pos:=by
 obtain⟨a,A,w⟩:=zp h
 obtain⟨c,I,z⟩:=zp w
 obtain⟨d,H,j⟩:=zp z
 have:=zhP j (by decide)
 rw[(zb0 A).1] at this
 exact this
theorem zli (C:Cx) (H z j A:Nat) (S:Sv) (q:PS) (l:List Sm) (k e:Int) (n:ByteArray) (w:World) (h:IM C H z j A S q w) (L:q.st=l++[⟨k,n,e⟩]) (I:n.size≤281474976710656) (J:0<q.pos):
  Calls Tryz.prog 213 #[.pointer (some ⟨A,0,none⟩)] w (zR C H z j A (zs C ⟨1,n,n,sNone⟩ q) id (fun _=>.tuple #[]) S w):=znr C H z j A S q l ⟨k,n,e⟩ w h L I J
def zax (C:Cx) (q:PS):PR:=
 if isT C q.pos 4 zL then bd (za5 C true (adv q) []) fun a=>zaD C a.2 a.1
 else if isT C q.pos 4 zz then bd (ze C 1 zU (adv q)) fun a=>bd (zJ C a) fun b=>bd (ze C 4 cSemi b.1) fun c=>zs C ⟨3,sNone,sNone,b.2⟩ c
 else if isT C q.pos 1 sDefault then bd (stmtI C 1 zci cSemi (adv q)) fun a=>zs C ⟨1,sDefault,zci,sNone⟩ a
 else if isT C q.pos 1 zE then bd (letJ C 1 (adv q)) fun a=>zs C ⟨1,(zf C (q.pos+1)).text,(zf C (q.pos+1)).text,sNone⟩ a
 else if isT C q.pos 1 zT then bd (fnI C (adv q)) fun a=>zs C ⟨1,(zf C (q.pos+1)).text,(zf C (q.pos+1)).text,sNone⟩ a
 else .error (zu C q.pos)
theorem ztc (C:Cx) (M z j H:Nat) (S:Sv) (q:PS) (w:World) (h:IM C M z j H S q w) (hC:zbn C) (h1:isT C q.pos 4 zL=true):
  Calls Tryz.prog 192 #[.pointer (some ⟨H,0,none⟩)] w (zR C M z j H (zax C q) id (fun _=>.tuple #[]) S w):=by
 have HY:Hid (zax C q=bd (za5 C true (adv q) []) fun a=>zaD C a.2 a.1):=by show _=_;rw[zax,h1];rfl
 go_enter Tryz.func192,Tryz.ntmps192
 go_wp2_with fail
 refine (zN C M z j H S q 4 zL _ h (by decide)).mono ?_
 rintro e w1 ⟨rfl,N,A⟩
 rw[h1] at N ⊢
 go_wp2_with fail
 refine (zsO C M z j H S (adv q) _ N).mono ?_
 cases J:za5 C true (adv q) [] with
 |error p=>
  rintro e w3 ⟨rfl,hb⟩
  have Y:=(h.back A).trans hb
  have O:Hid (zax C q= .error p):=bdE HY.out J
  unfold Pan
  go_wp2
  refine⟨rfl,?_⟩
  rw[O.out]
  exact⟨rfl,Y⟩
 |ok U=>
  rintro e w3 ⟨r,S3,rfl,Z,s,f,l0,l1⟩
  have aa:=A.trans s
  have ab:=zc f
  clear s f
  have L:=zc (bdO HY.out J)
  go_wp2_with fail
  refine (zsY C M z j H _ r S S3 q U.1 U.2 w _ h Z aa hC l1 (by omega) ab.out A.size).mono ?_
  cases I:zaD C U.2 U.1 with
  |error p=>
   rintro e w4 ⟨rfl,Y⟩
   have O:=zc (L.out.trans I)
   unfold Pan
   go_wp2
   refine⟨rfl,?_⟩
   rw[O.out]
   exact⟨rfl,Y⟩
  |ok a4=>
   rintro e w4 ⟨rfl,S4,X,V⟩
   have O:=zc (L.out.trans I)
   go_wp2
   go_end0
   rw[O.out]
   exact⟨rfl,S4,X,V⟩
theorem ztd (C:Cx) (H z j A:Nat) (S:Sv) (q:PS) (w:World) (h:IM C H z j A S q w) (hC:zbn C) (h1:isT C q.pos 4 zL=false) (h2:isT C q.pos 4 zz=true):
  Calls Tryz.prog 192 #[.pointer (some ⟨A,0,none⟩)] w (zR C H z j A (zax C q) id (fun _=>.tuple #[]) S w):=by
 have HY:Hid (zax C q=bd (ze C 1 zU (adv q)) fun a=>bd (zJ C a) fun b=>bd (ze C 4 cSemi b.1) fun c=>zs C ⟨3,sNone,sNone,b.2⟩ c):=by show _=_;rw[zax,h1,h2];rfl
 go_enter Tryz.func192,Tryz.ntmps192
 go_wp2_with fail
 refine (zN C H z j A S q 4 zL _ h (by decide)).mono ?_
 rintro e w1 ⟨rfl,af,ai⟩
 rw[h1] at af ⊢
 go_wp2_with fail
 refine (zN C H z j A S q 4 zz _ af (by decide)).mono ?_
 rintro e w2 ⟨rfl,U,s⟩
 rw[h2] at U ⊢
 have X:=ai.trans s
 clear s
 go_wp2_with fail
 refine (ze0 C H z j A S (adv q) zU _ U).mono ?_
 cases aa:ze C 1 zU (adv q) with
 |error p=>
  rintro e w3 ⟨rfl,J⟩
  have L:=(h.back X).trans J
  have M:Hid (zax C q= .error p):=bdE HY.out aa
  unfold Pan
  go_wp2
  refine⟨rfl,?_⟩
  rw[M.out]
  exact⟨rfl,L⟩
 |ok a3=>
  rintro e w3 ⟨rfl,S3,ak,s⟩
  have ac:=X.trans s
  clear s
  have ab:=zc (bdO HY.out aa)
  go_wp2_with fail
  refine (zfW C H z j A S3 a3 _ ak hC).mono ?_
  cases N:zJ C a3 with
  |error p=>
   rintro e w4 ⟨rfl,J⟩
   have L:=(h.back ac).trans J
   have M:Hid (zax C q= .error p):=bdE ab.out N
   unfold Pan
   go_wp2
   refine⟨rfl,?_⟩
   rw[M.out]
   exact⟨rfl,L⟩
  |ok a4=>
   rintro e w4 ⟨rfl,S4,ag,s⟩
   have O:=ac.trans s
   clear s
   have ad:=zc (bdO ab.out N)
   go_wp2_with fail
   refine (zcx C H z j A S4 a4.1 59 _ ag).mono ?_
   cases I:ze C 4 cSemi a4.1 with
   |error p=>
    rintro e w5 ⟨rfl,J⟩
    have L:=(h.back O).trans J
    have M:Hid (zax C q= .error p):=bdE ad.out I
    unfold Pan
    go_wp2
    refine⟨rfl,?_⟩
    rw[M.out]
    exact⟨rfl,L⟩
   |ok a5=>
    rintro e w5 ⟨rfl,S5,ah,s⟩
    have ae:=O.trans s
    clear s
    have V:=zc (bdO ad.out I)
    have Y:0<a5.pos:=by rw[(zbT I).1];exact Nat.succ_pos _
    go_wp2_with fail
    refine (zfg C H z j A S5 a5 ⟨3,sNone,sNone,a4.2⟩ _ ah Y).mono ?_
    cases Z:zs C ⟨3,sNone,sNone,a4.2⟩ a5 with
    |error p=>
     rintro e w6 ⟨rfl,J⟩
     have L:=(h.back ae).trans J
     have M:Hid (zax C q= .error p):=V.out.trans Z
     unfold Pan
     go_wp2
     refine⟨rfl,?_⟩
     rw[M.out]
     exact⟨rfl,L⟩
    |ok a6=>
     rintro e w6 ⟨rfl,S6,aj,s⟩
     have al:=ae.trans s
     clear s
     have am:=zc (V.out.trans Z)
     go_wp2
     go_end0
     rw[am.out]
     exact⟨rfl,S6,aj,al⟩
theorem zte (C:Cx) (I z j A:Nat) (S:Sv) (q:PS) (w:World) (h:IM C I z j A S q w) (h1:isT C q.pos 4 zL=false) (h2:isT C q.pos 4 zz=false) (h3:isT C q.pos 1 sDefault=true):
  Calls Tryz.prog 192 #[.pointer (some ⟨A,0,none⟩)] w (zR C I z j A (zax C q) id (fun _=>.tuple #[]) S w):=by
 have HY:Hid (zax C q=bd (stmtI C 1 zci cSemi (adv q)) fun a=>zs C ⟨1,sDefault,zci,sNone⟩ a):=by show _=_;rw[zax,h1,h2,h3];rfl
 go_enter Tryz.func192,Tryz.ntmps192
 go_wp2_with fail
 refine (zN C I z j A S q 4 zL _ h (by decide)).mono ?_
 rintro e w1 ⟨rfl,X,ad⟩
 rw[h1] at X ⊢
 go_wp2_with fail
 refine (zN C I z j A S q 4 zz _ X (by decide)).mono ?_
 rintro e w2 ⟨rfl,M,s⟩
 rw[h2] at M ⊢
 have ac:=ad.trans s
 clear s
 go_wp2_with fail
 refine (zN C I z j A S q 1 sDefault _ M (by decide)).mono ?_
 rintro e w3 ⟨rfl,O,s⟩
 rw[h3] at O ⊢
 have U:=ac.trans s
 clear s
 go_wp2_with fail
 refine (zdU C I z j A S (adv q) 1 zci cSemi _ O (by decide) (by decide)).mono ?_
 cases H:stmtI C 1 zci cSemi (adv q) with
 |error p=>
  rintro e w4 ⟨rfl,Y⟩
  have HB:=(h.back U).trans Y
  have HX:Hid (zax C q= .error p):=bdE HY.out H
  unfold Pan
  go_wp2
  refine⟨rfl,?_⟩
  rw[HX.out]
  exact⟨rfl,HB⟩
 |ok a4=>
  rintro e w4 ⟨rfl,S4,Z,s⟩
  have L:=U.trans s
  clear s
  have V:=zc (bdO HY.out H)
  have N:=(zhP H (by decide)).2
  go_wp2_with fail
  refine (zfg C I z j A S4 a4 ⟨1,sDefault,zci,sNone⟩ _ Z N).mono ?_
  cases J:zs C ⟨1,sDefault,zci,sNone⟩ a4 with
  |error p=>
   rintro e w5 ⟨rfl,Y⟩
   have HB:=(h.back L).trans Y
   have HX:Hid (zax C q= .error p):=V.out.trans J
   unfold Pan
   go_wp2
   refine⟨rfl,?_⟩
   rw[HX.out]
   exact⟨rfl,HB⟩
  |ok a5=>
   rintro e w5 ⟨rfl,S5,aa,s⟩
   have ae:=L.trans s
   clear s
   have ab:=zc (V.out.trans J)
   go_wp2
   go_end0
   rw[ab.out]
   exact⟨rfl,S5,aa,ae⟩
theorem ztf (C:Cx) (H z j A:Nat) (S:Sv) (q:PS) (w:World) (h:IM C H z j A S q w) (hC:zbn C) (h1:isT C q.pos 4 zL=false) (h2:isT C q.pos 4 zz=false) (h3:isT C q.pos 1 sDefault=false) (h4:isT C q.pos 1 zE=true):
  Calls Tryz.prog 192 #[.pointer (some ⟨A,0,none⟩)] w (zR C H z j A (zax C q) id (fun _=>.tuple #[]) S w):=by
 have HY:Hid (zax C q=bd (letJ C 1 (adv q)) fun a=>zs C ⟨1,(zf C (q.pos+1)).text,(zf C (q.pos+1)).text,sNone⟩ a):=by show _=_;rw[zax,h1,h2,h3,h4];rfl
 go_enter Tryz.func192,Tryz.ntmps192
 go_wp2_with fail
 refine (zN C H z j A S q 4 zL _ h (by decide)).mono ?_
 rintro e w1 ⟨rfl,Z,ac⟩
 rw[h1] at Z ⊢
 go_wp2_with fail
 refine (zN C H z j A S q 4 zz _ Z (by decide)).mono ?_
 rintro e w2 ⟨rfl,L,s⟩
 rw[h2] at L ⊢
 have ab:=ac.trans s
 clear s
 go_wp2_with fail
 refine (zN C H z j A S q 1 sDefault _ L (by decide)).mono ?_
 rintro e w3 ⟨rfl,X,s⟩
 rw[h3] at X ⊢
 have af:=ab.trans s
 clear s
 go_wp2_with fail
 refine (zN C H z j A S q 1 zE _ X (by decide)).mono ?_
 rintro e w4 ⟨rfl,M,s⟩
 rw[h4] at M ⊢
 have J:=af.trans s
 clear s
 go_wp2_with fail
 refine (zhk C H z j A S (adv q) _ M).mono ?_
 cases I:letJ C 1 (adv q) with
 |error p=>
  rintro e w5 ⟨rfl,hb⟩
  have HB:=(h.back J).trans hb
  have HX:Hid (zax C q= .error p):=bdE HY.out I
  unfold Pan
  go_wp2
  refine⟨rfl,?_⟩
  rw[HX.out]
  exact⟨rfl,HB⟩
 |ok a5=>
  rintro e w5 ⟨rfl,S5,aa,s⟩
  have Y:=J.trans s
  clear s
  have O:=zc (bdO HY.out I)
  obtain⟨⟨l,e,N⟩,V⟩:=zta I
  have ah:=zc N
  clear N
  go_wp2_with fail
  refine (zli C H z j A S5 a5 l _ _ (zf C (q.pos+1)).text _ aa ah.out (hC _) V).mono ?_
  cases U:zs C ⟨1,(zf C (q.pos+1)).text,(zf C (q.pos+1)).text,sNone⟩ a5 with
  |error p=>
   rintro e w6 ⟨rfl,hb⟩
   have HB:=(h.back Y).trans hb
   have HX:Hid (zax C q= .error p):=O.out.trans U
   unfold Pan
   go_wp2
   refine⟨rfl,?_⟩
   rw[HX.out]
   exact⟨rfl,HB⟩
  |ok a6=>
   rintro e w6 ⟨rfl,S6,ad,s⟩
   have ae:=Y.trans s
   clear s
   have ag:=zc (O.out.trans U)
   go_wp2
   go_end0
   rw[ag.out]
   exact⟨rfl,S6,ad,ae⟩
theorem ztg (C:Cx) (H z j A:Nat) (S:Sv) (q:PS) (w:World) (h:IM C H z j A S q w) (hC:zbn C) (h1:isT C q.pos 4 zL=false) (h2:isT C q.pos 4 zz=false) (h3:isT C q.pos 1 sDefault=false) (h4:isT C q.pos 1 zE=false) (h5:isT C q.pos 1 zT=true):
  Calls Tryz.prog 192 #[.pointer (some ⟨A,0,none⟩)] w (zR C H z j A (zax C q) id (fun _=>.tuple #[]) S w):=by
 have HY:Hid (zax C q=bd (fnI C (adv q)) fun a=>zs C ⟨1,(zf C (q.pos+1)).text,(zf C (q.pos+1)).text,sNone⟩ a):=by show _=_;rw[zax,h1,h2,h3,h4,h5];rfl
 go_enter Tryz.func192,Tryz.ntmps192
 go_wp2_with fail
 refine (zN C H z j A S q 4 zL _ h (by decide)).mono ?_
 rintro e w1 ⟨rfl,Z,ae⟩
 rw[h1] at Z ⊢
 go_wp2_with fail
 refine (zN C H z j A S q 4 zz _ Z (by decide)).mono ?_
 rintro e w2 ⟨rfl,J,s⟩
 rw[h2] at J ⊢
 have af:=ae.trans s
 clear s
 go_wp2_with fail
 refine (zN C H z j A S q 1 sDefault _ J (by decide)).mono ?_
 rintro e w3 ⟨rfl,U,s⟩
 rw[h3] at U ⊢
 have ah:=af.trans s
 clear s
 go_wp2_with fail
 refine (zN C H z j A S q 1 zE _ U (by decide)).mono ?_
 rintro e w4 ⟨rfl,L,s⟩
 rw[h4] at L ⊢
 have ab:=ah.trans s
 clear s
 go_wp2_with fail
 refine (zN C H z j A S q 1 zT _ L (by decide)).mono ?_
 rintro e w5 ⟨rfl,N,s⟩
 rw[h5] at N ⊢
 have X:=ab.trans s
 clear s
 go_wp2_with fail
 refine (zhl C H z j A S (adv q) _ N).mono ?_
 cases I:fnI C (adv q) with
 |error p=>
  rintro e w6 ⟨rfl,hb⟩
  have HB:=(h.back X).trans hb
  have HX:Hid (zax C q= .error p):=bdE HY.out I
  unfold Pan
  go_wp2
  refine⟨rfl,?_⟩
  rw[HX.out]
  exact⟨rfl,HB⟩
 |ok a6=>
  rintro e w6 ⟨rfl,S6,ag,s⟩
  have V:=X.trans s
  clear s
  have aa:=zc (bdO HY.out I)
  obtain⟨⟨l,e,M⟩,O⟩:=ztb I
  have aj:=zc M
  clear M
  go_wp2_with fail
  refine (zli C H z j A S6 a6 l _ _ (zf C (q.pos+1)).text _ ag aj.out (hC _) O).mono ?_
  cases Y:zs C ⟨1,(zf C (q.pos+1)).text,(zf C (q.pos+1)).text,sNone⟩ a6 with
  |error p=>
   rintro e w7 ⟨rfl,hb⟩
   have HB:=(h.back V).trans hb
   have HX:Hid (zax C q= .error p):=aa.out.trans Y
   unfold Pan
   go_wp2
   refine⟨rfl,?_⟩
   rw[HX.out]
   exact⟨rfl,HB⟩
  |ok a7=>
   rintro e w7 ⟨rfl,S7,ad,s⟩
   have ai:=V.trans s
   clear s
   have ac:=zc (aa.out.trans Y)
   go_wp2
   go_end0
   rw[ac.out]
   exact⟨rfl,S7,ad,ai⟩
theorem zth (C:Cx) (H z j A:Nat) (S:Sv) (q:PS) (w:World) (h:IM C H z j A S q w) (h1:isT C q.pos 4 zL=false) (Z:isT C q.pos 4 zz=false) (h3:isT C q.pos 1 sDefault=false) (h4:isT C q.pos 1 zE=false) (h5:isT C q.pos 1 zT=false):
  Calls Tryz.prog 192 #[.pointer (some ⟨A,0,none⟩)] w (zR C H z j A (zax C q) id (fun _=>.tuple #[]) S w):=by
 have HY:Hid (zax C q= .error (zu C q.pos)):=by show _=_;rw[zax,h1,Z,h3,h4,h5];rfl
 go_enter Tryz.func192,Tryz.ntmps192
 go_wp2_with fail
 refine (zN C H z j A S q 4 zL _ h (by decide)).mono ?_
 rintro e w1 ⟨rfl,N,U⟩
 rw[h1] at N ⊢
 go_wp2_with fail
 refine (zN C H z j A S q 4 zz _ N (by decide)).mono ?_
 rintro e w2 ⟨rfl,J,s⟩
 rw[Z] at J ⊢
 have V:=U.trans s
 clear s
 go_wp2_with fail
 refine (zN C H z j A S q 1 sDefault _ J (by decide)).mono ?_
 rintro e w3 ⟨rfl,M,s⟩
 rw[h3] at M ⊢
 have X:=V.trans s
 clear s
 go_wp2_with fail
 refine (zN C H z j A S q 1 zE _ M (by decide)).mono ?_
 rintro e w4 ⟨rfl,L,s⟩
 rw[h4] at L ⊢
 have O:=X.trans s
 clear s
 go_wp2_with fail
 refine (zN C H z j A S q 1 zT _ L (by decide)).mono ?_
 rintro e w5 ⟨rfl,I,s⟩
 rw[h5] at I ⊢
 have Y:=O.trans s
 clear s
 go_wp2_with fail
 refine (zez C H z j A S q _ I).mono ?_
 rintro e wz ⟨rfl,hb⟩
 have HB:=(h.back Y).trans (hb.mono I.mem.base)
 have HX:Hid (zax C q= .error (zu C q.pos)):=HY.out
 unfold Pan
 go_wp2
 refine⟨rfl,?_⟩
 rw[HX.out]
 exact⟨rfl,HB⟩
theorem zti (C:Cx) (H z j A:Nat) (S:Sv) (q:PS) (w:World) (h:IM C H z j A S q w) (L:zbn C):
  Calls Tryz.prog 192 #[.pointer (some ⟨A,0,none⟩)] w (zR C H z j A (zax C q) id (fun _=>.tuple #[]) S w):=by
 cases I:isT C q.pos 4 zL with
 |true=>exact ztc C H z j A S q w h L I
 |false=>
  cases J:isT C q.pos 4 zz with
  |true=>exact ztd C H z j A S q w h L I J
  |false=>
   cases M:isT C q.pos 1 sDefault with
   |true=>exact zte C H z j A S q w h I J M
   |false=>
    cases N:isT C q.pos 1 zE with
    |true=>exact ztf C H z j A S q w h L I J M N
    |false=>
     cases O:isT C q.pos 1 zT with
     |true=>exact ztg C H z j A S q w h L I J M N O
     |false=>exact zth C H z j A S q w h I J M N O
end Go.Proofs.YtjdddblpfbmpaaaGreat
