/-
  What ContainsFunc over Exps answers,and a row of Exps whose elements are written: the walks.
  What exportNames of impl's parser answers: the walks. (It writes into the row that it is handed: so what is told is told from a world on in which that row was not yet there.)
  What exportItem of impl's parser answers: the walks.
-/
import Derived.Test.YtjdddblpfbmpaaaGreatCmImplParseU
namespace Go.Proofs.YtjdddblpfbmpaaaGreat
set_option maxRecDepth 100000
set_option maxHeartbeats 3200000
open Go.RowKit Go.PlainAid Go.Sort
theorem zlE {α:Type} (f:α→List Value) (m:Nat) (q: ∀x,(f x).length=m): ∀(l:List α) (j i:Nat) (x y:α) (v:Value),l[j]? =some x→i<m→f y=(f x).set i v→(l.flatMap f).set (j*m+i) v=(l.set j y).flatMap f:=by
 intro l
 induction l with
 |nil=>intro j i x y v h;simp at h
 |cons z l I=>
  intro j i x y v h A H
  match j with
  |0=>
   simp only[List.getElem?_cons_zero,Option.some.injEq] at h
   subst h
   rw[List.flatMap_cons,Nat.zero_mul,Nat.zero_add,List.set_append_left _ _ (by rw[q];exact A),List.set_cons_zero,List.flatMap_cons,H]
  |j+1=>
   simp only[List.getElem?_cons_succ] at h
   rw[List.flatMap_cons,List.set_append_right _ _ (by rw[q,Nat.succ_mul];omega),q,List.set_cons_succ,List.flatMap_cons,←I j i x y v h A H]
   congr 2
   rw[Nat.succ_mul]
   omega
def mxE (s:ByteArray) (l:List Ep) (j:Nat):List Ep:=(l.take j).map (zap s)++(l.drop j).map zD
theorem zlF (s:ByteArray) (l:List Ep) (j:Nat):(mxE s l j).length=l.length:=by simp[mxE];omega
theorem zlG {s:ByteArray} {l:List Ep} {j:Nat} {x:Ep} (h:l[j]? =some x):(mxE s l j)[j]? =some (zD x):=by
 obtain⟨z,rfl⟩:=List.getElem?_eq_some_iff.1 h
 have q:((l.take j).map (zap s)).length=j:=by simp;omega
 rw[mxE,List.getElem?_append_right (by omega),q,Nat.sub_self,List.drop_eq_getElem_cons z]
 rfl
theorem zsZ {s:ByteArray} {l:List Ep} {j:Nat} {x:Ep} (h:l[j]? =some x):(mxE s l j).set j (zap s x)=mxE s l (j+1):=by
 obtain⟨q,rfl⟩:=List.getElem?_eq_some_iff.1 h
 have z:((l.take j).map (zap s)).length=j:=by simp;omega
 rw[mxE,List.set_append_right _ _ (by omega),z,Nat.sub_self,List.drop_eq_getElem_cons q,List.map_cons,List.set_cons_zero,mxE,List.take_succ_eq_append_getElem q,List.map_append,List.append_assoc]
 rfl
theorem zta (s:ByteArray) (l:List Ep):mxE s l 0=l.map zD:=by simp[mxE]
theorem ztb (s:ByteArray) (l:List Ep):mxE s l l.length=l.map (zap s):=by simp[mxE]
theorem ztc (x:Ep) (w:World):
  Calls Tryz.prog 228 #[epV x] w fun e w'=>e= .returned (.bool (x.loc.toList==[100,101,102,97,117,108,116]))∧Below w.heap.size w w':=by
 unfold epV
 cases j:(x.loc.toList==[100,101,102,97,117,108,116]) with
 |true=>
  go_enter Tryz.func228,Tryz.ntmps228
  go_wp2
  go_ret
  exact⟨rfl,(Below.refl _ _).alloc (Nat.le_refl _) _⟩
 |false=>
  go_enter Tryz.func228,Tryz.ntmps228
  go_wp2
  go_ret
  exact⟨rfl,(Below.refl _ _).alloc (Nat.le_refl _) _⟩
theorem ztd {l:List Ep} {j:Nat} {x:Ep} (h:l[j]? =some x):zaF (l.drop j)=((x.loc.toList==[100,101,102,97,117,108,116])||zaF (l.drop (j+1))):=by
 obtain⟨q,rfl⟩:=List.getElem?_eq_some_iff.1 h
 rw[List.drop_eq_getElem_cons q]
 simp only[zaF,List.any_cons]
theorem zte (A g:Nat) (r:Rw) (l:List Ep) (w:World) (h:OwnR w A 86 4 r l.length (l.flatMap fun e=>epL (zD e))) (hl:l.length≤4000) (hg:r.a=some ⟨g,0,none⟩):
  Calls Tryz.prog 234 #[.slice (some ⟨g,0,none⟩) l.length r.cap,.func (.func 228) #[] #[]] w fun e w'=>(∃v:Int,e= .returned (.int .i64 v)∧decide (0≤v)=zaF l)∧Below w.heap.size w w':=by
 have HO:=zc h
 have V:=zc hg
 clear h hg
 go_enter Tryz.func234,Tryz.ntmps234
 go_wp2
 go_loopg [8] (l.length+1) (fun k i wr=>∃j:Nat,i= .int .i64 j∧j+k=l.length+1∧zaF (l.drop j)=zaF l∧Below w.heap.size w wr)
 case atStart=>exact⟨0,rfl,by omega,by simp,Below.refl _ _⟩
 case round=>
  obtain⟨j,rfl,hj,he,N⟩:=hrel
  have Y:=zc he
  clear he
  by_cases O:j<l.length
  ·have L:(j:Int)<(l.length:Int):=by omega
   obtain⟨x,X⟩:=zfP O
   have U:=zc (HO.out.keep fun k g=>N.block k (HO.out.typed g).2.1)
   obtain⟨g',H,q⟩:=OwnR.elem (f:=fun e=>epL (zD e)) (m:=4) (fun _=>rfl) U.out X
   have eg:g'=g:=by have:=H.symm.trans V.out;simpa using this
   subst eg
   have k0:=q 0 (by omega)
   have k1:=q 1 (by omega)
   have k2:=q 2 (by omega)
   have k3:=q 3 (by omega)
   simp only[epL,zD,Nat.add_zero,List.getElem?_cons_zero,List.getElem?_cons_succ] at k0 k1 k2 k3
   have HS:=ztd X
   clear q H X
   obtain⟨M,z⟩: ∃M,M=j+1:=⟨_,rfl⟩
   have ej:(j:Int)+1=(M:Int):=by omega
   have HJ:=zc z
   clear z
   go_wp2_with fail
   refine (ztc (zD x) _).mono ?_
   rintro e w1 ⟨rfl,J⟩
   have I:=N.trans (J.mono N.size)
   clear J
   rw[show (zD x).loc=x.loc from rfl]
   cases Z:(x.loc.toList==[100,101,102,97,117,108,116]) with
   |true=>
    go_wp2
    go_ret
    refine⟨⟨_,rfl,?_⟩,I⟩
    rw[←Y.out,HS,Z]
    simp
   |false=>
    go_wp2
    go_roundg (gk-1)
    case rel=>
     refine⟨M,rfl,by have:=HJ.out;omega,?_,I⟩
     rw[←Y.out,HS,Z,HJ.out]
     simp
    case measure=>omega
  ·have L: ¬(j:Int)<(l.length:Int):=by omega
   go_wp2
   go_ret
   refine⟨⟨_,rfl,?_⟩,N⟩
   rw[←Y.out,List.drop_eq_nil_of_le (by omega)]
   rfl
theorem zlH (j g:Nat) (r:Rw) (l:List Ep) (w:World) (h:OwnR w j 86 4 r l.length (l.flatMap fun e=>epL (zD e))) (I:l.length≤4000) (A:r.a=some ⟨g,0,none⟩):
  Calls Tryz.prog 229 #[.slice (some ⟨g,0,none⟩) l.length r.cap,.func (.func 228) #[] #[]] w fun e w'=>e= .returned (.bool (zaF l))∧Below w.heap.size w w':=by
 have H:=zc h
 have q:=zc A
 clear h A
 go_enter Tryz.func229,Tryz.ntmps229
 go_wp2_with fail
 refine (zte j g r l _ H.out I q.out).mono ?_
 rintro e M ⟨⟨v,rfl,z⟩,J⟩
 have L:=zc z
 clear z
 go_wp2
 go_ret
 exact⟨zh L.out,J⟩
def zaC (C:Cx) (l:List Ep) (q:PS):PR:=
 if isT C q.pos 1 zY||zaF l then bd (zd C 1 zY q) fun a=>bd (zF C a) fun b=>bd (zd C 4 cSemi b.1) fun c=>zV (fun e=>zq C (zap b.2 e)) l (.ok c)
 else bd (zd C 4 cSemi q) fun c=>zV (fun e=>zq C (zD e)) l (.ok c)
theorem zlI (X:Ep→Ep) (l:List Ep):(l.map X).flatMap epL=l.flatMap fun e=>epL (X e):=by rw[List.flatMap_map]
theorem ztf (C:Cx) (V A z I b0 g:Nat) (r:Rw) (S M:Sv) (q0 q:PS) (l:List Ep) (w wc:World) (hh:IM C V A z I S q0 w) (h:IM C V A z I M q wc) (h0:IS I S w M wc) (hl:l.length≤4000) (hf:Fr 86 4 wc b0 r l.length (l.flatMap (fun e=>epL (zD e))) M) (hg:r.a=some ⟨g,0,none⟩) (hi:isT C q.pos 1 zY=false) (ha:zaF l=false):
  Calls Tryz.prog 210 #[.pointer (some ⟨I,0,none⟩),.slice (some ⟨g,0,none⟩) l.length r.cap] wc (zW C V A z I (zaC C l q) id (fun _=>.tuple #[]) S w):=by
 have HF:=zc hf
 have HG:=zc hg
 have HY:Hid (zaC C l q=bd (zd C 4 cSemi q) fun c=>zV (fun e=>zq C (zD e)) l (.ok c)):=by show _=_;rw[zaC,hi,ha];rfl
 clear hf hg
 go_enter Tryz.func210,Tryz.ntmps210
 go_wp2_with fail
 refine (zcm C V A z I M q 1 zY _ h).mono ?_
 rintro e w1 ⟨rfl,H⟩
 rw[hi]
 have aw:=h.later H
 have am:=(h0.trans (IS.below H))
 have ah:IS I M wc M w1:=IS.below H
 clear H
 have ai:Hid (Fr 86 4 w1 b0 r l.length (l.flatMap (fun e=>epL (zD e))) M):=HF.out.step h (by decide) ah
 clear ah
 go_wp2_with fail
 refine (zlH b0 g r l _ ai.out.1 hl HG.out).mono ?_
 rintro e w2 ⟨rfl,H⟩
 rw[ha]
 have aq:Hid (Fr 86 4 w2 b0 r l.length (l.flatMap (fun e=>epL (zD e))) M):=ai.out.later H
 have aa:=aw.later H
 have ad:=(am.trans (IS.below H))
 clear H
 go_wp2_with fail
 refine (zcy C V A z I M q 59 _ aa).mono ?_
 cases U:zd C 4 cSemi q with
 |error p=>
  rintro e w3 ⟨rfl,H⟩
  have HB:=(hh.back ad).trans H
  have HX:Hid (zaC C l q= .error p):=bdE HY.out U
  unfold Pan
  go_wp2
  refine⟨rfl,?_⟩
  rw[HX.out]
  exact⟨rfl,HB⟩
 |ok a3=>
  rintro e w3 ⟨rfl,S3,an,s⟩
  have ar:Hid (Fr 86 4 w3 b0 r l.length (l.flatMap (fun e=>epL (zD e))) S3):=aq.out.step aa (by decide) s
  have au:=ad.trans s
  clear s
  have ao:=zc (bdO HY.out U)
  have ae:0<a3.pos:=by rw[(zbL U).1];exact Nat.succ_pos _
  go_wp2
  go_loopg [39] l.length (fun k i wr=>∃(j:Nat) (X:Sv) (N:PS),i= .int .i64 j∧j+k=l.length∧zaC C l q=zV (fun e=>zq C (zD e)) (l.drop j) (.ok N)∧0<N.pos∧IM C V A z I X N wr∧IS I S w X wr∧Fr 86 4 wr b0 r l.length (l.flatMap fun e=>epL (zD e)) X)
  case atStart=>exact⟨0,S3,a3,rfl,by omega,ao.out,ae,an,au,ar.out⟩
  case round=>
   obtain⟨j,X,N,rfl,hj,hy,ac,m',s',f'⟩:=hrel
   have af:=zc hy
   have L:=m'
   have Y:=s'
   have ag:Hid (Fr 86 4 wr b0 r l.length (l.flatMap fun e=>epL (zD e)) X):=f'
   clear hy m' s' f'
   by_cases ak:j<l.length
   ·have aj:(j:Int)<(l.length:Int):=by omega
    obtain⟨x,hx⟩:=zfP ak
    obtain⟨g',ab,J⟩:=OwnR.elem (f:=fun e=>epL (zD e)) (m:=4) (fun _=>rfl) ag.out.1 hx
    have eg:g'=g:=by have:=ab.symm.trans HG.out;simpa using this
    subst eg
    have k0:=J 0 (by omega)
    have k1:=J 1 (by omega)
    have k2:=J 2 (by omega)
    have k3:=J 3 (by omega)
    simp only[epL,zD,Nat.add_zero,List.getElem?_cons_zero,List.getElem?_cons_succ] at k0 k1 k2 k3
    have HZ:=zc (af.out.trans (ziw (fun e=>zq C (zD e)) hx N))
    clear J ab hx
    obtain⟨Z,O⟩: ∃Z,Z=j+1:=⟨_,rfl⟩
    have ej:(j:Int)+1=(Z:Int):=by omega
    rw[←O] at HZ
    have aA:=L.lt
    have HJ:=zc O
    clear O
    go_wp2_with fail
    refine (zfq C V A z I X N (zD x) _ (L.alloc _) ac).mono ?_
    cases hn:zq C (zD x) N with
    |error p=>
     rintro e wy ⟨rfl,H⟩
     have HB:Below z w wy:=(hh.back (Y.alloc _)).trans H
     have HX:Hid (zaC C l q= .error p):=by show _=_;rw[HZ.out,hn];exact zgU _ _ _
     unfold Pan
     go_wp2
     refine⟨rfl,?_⟩
     rw[HX.out]
     exact⟨rfl,HB⟩
    |ok ay=>
     rintro e wy ⟨rfl,Sy,al,s⟩
     have az:IS I S w Sy wy:=(Y.alloc _).trans s
     have ap:Hid (Fr 86 4 wy b0 r l.length (l.flatMap fun e=>epL (zD e)) Sy):=(ag.out.later ((Below.refl _ _).alloc (Nat.le_refl _) _)).step (L.alloc _) (by decide) s
     have av:Hid (zaC C l q=zV (fun e=>zq C (zD e)) (l.drop Z) (.ok ay)):=by show _=_;rw[HZ.out,hn]
     have ax:Hid (0<ay.pos):=by show 0<ay.pos;rw[zlC hn];exact ac
     clear s
     go_wp2
     go_roundg (gk-1)
     case rel=>exact⟨Z,Sy,ay,rfl,by have:=HJ.out;omega,av.out,ax.out,al,az,ap.out⟩
     case measure=>omega
   ·have aj: ¬(j:Int)<(l.length:Int):=by omega
    have HZ:Hid (zaC C l q= .ok N):=by show _=_;rw[af.out,List.drop_eq_nil_of_le (by omega)];rfl
    go_wp2
    go_end0
    rw[HZ.out]
    exact⟨rfl,X,L,Y⟩
theorem ztg (C:Cx) (L A j I b0 g:Nat) (r:Rw) (S H:Sv) (q0 q:PS) (l:List Ep) (w wc:World) (hh:IM C L A j I S q0 w) (h:IM C L A j I H q wc) (h0:IS I S w H wc) (hl:l.length≤4000) (hf:Fr 86 4 wc b0 r l.length (l.flatMap (fun e=>epL (zD e))) H) (Z:r.a=some ⟨g,0,none⟩) (N:isT C q.pos 1 zY=false) (ha:zaF l=true):
  Calls Tryz.prog 210 #[.pointer (some ⟨I,0,none⟩),.slice (some ⟨g,0,none⟩) l.length r.cap] wc (zW C L A j I (zaC C l q) id (fun _=>.tuple #[]) S w):=by
 have HF:=zc hf
 have HG:=zc Z
 have HY:Hid (zaC C l q= .error (zu C q.pos)):=by show _=_;rw[zaC,N,ha,if_pos (by decide),zhy N];rfl
 clear hf Z
 go_enter Tryz.func210,Tryz.ntmps210
 go_wp2_with fail
 refine (zcm C L A j I H q 1 zY _ h).mono ?_
 rintro e Y ⟨rfl,z⟩
 rw[N]
 have X:=h.later z
 have U:=(h0.trans (IS.below z))
 have J:IS I H wc H Y:=IS.below z
 clear z
 have M:Hid (Fr 86 4 Y b0 r l.length (l.flatMap (fun e=>epL (zD e))) H):=HF.out.step h (by decide) J
 clear J
 go_wp2_with fail
 refine (zlH b0 g r l _ M.out.1 hl HG.out).mono ?_
 rintro e w2 ⟨rfl,z⟩
 rw[ha]
 have aa:Hid (Fr 86 4 w2 b0 r l.length (l.flatMap (fun e=>epL (zD e))) H):=M.out.later z
 have O:=X.later z
 have V:=(U.trans (IS.below z))
 clear z
 go_wp2_with fail
 refine (ze7 C L A j I H q zY _ O).mono ?_
 rw[zhy N]
 rintro e w3 ⟨rfl,z⟩
 have HB:=(hh.back V).trans z
 have HX:Hid (zaC C l q= .error (zu C q.pos)):=HY.out
 unfold Pan
 go_wp2
 refine⟨rfl,?_⟩
 rw[HX.out]
 exact⟨rfl,HB⟩
theorem zth (C:Cx) (Y H z L b0 g:Nat) (r:Rw) (S Sc:Sv) (q0 q:PS) (l:List Ep) (w wc:World) (hh:IM C Y H z L S q0 w) (h:IM C Y H z L Sc q wc) (h0:IS L S w Sc wc) (hC:zbu C) (hl:l.length≤4000) (hf:Fr 86 4 wc b0 r l.length (l.flatMap (fun e=>epL (zD e))) Sc) (hg:r.a=some ⟨g,0,none⟩) (aj:w.heap.size≤g) (hi:isT C q.pos 1 zY=true):
  Calls Tryz.prog 210 #[.pointer (some ⟨L,0,none⟩),.slice (some ⟨g,0,none⟩) l.length r.cap] wc (zW C Y H z L (zaC C l q) id (fun _=>.tuple #[]) S w):=by
 have HF:=zc hf
 have HG:=zc hg
 have aw:=zc aj
 have HY:Hid (zaC C l q=bd (zd C 1 zY q) fun a=>bd (zF C a) fun b=>bd (zd C 4 cSemi b.1) fun c=>zV (fun e=>zq C (zap b.2 e)) l (.ok c)):=by show _=_;rw[zaC,hi];rfl
 clear hf hg aj
 go_enter Tryz.func210,Tryz.ntmps210
 go_wp2_with fail
 refine (zcm C Y H z L Sc q 1 zY _ h).mono ?_
 rintro e w1 ⟨rfl,V⟩
 rw[hi]
 have aB:=h.later V
 have ai:=(h0.trans (IS.below V))
 have av:IS L Sc wc Sc w1:=IS.below V
 clear V
 have aD:Hid (Fr 86 4 w1 b0 r l.length (l.flatMap (fun e=>epL (zD e))) Sc):=HF.out.step h (by decide) av
 clear av
 go_wp2_with fail
 refine (ze7 C Y H z L Sc q zY _ aB).mono ?_
 cases aA:zd C 1 zY q with
 |error p=>
  rintro e w2 ⟨rfl,V⟩
  have HB:=(hh.back ai).trans V
  have HX:Hid (zaC C l q= .error p):=bdE HY.out aA
  unfold Pan
  go_wp2
  refine⟨rfl,?_⟩
  rw[HX.out]
  exact⟨rfl,HB⟩
 |ok a2=>
  rintro e w2 ⟨rfl,S2,ax,s⟩
  have aO:Hid (Fr 86 4 w2 b0 r l.length (l.flatMap (fun e=>epL (zD e))) S2):=aD.out.step aB (by decide) s
  have ak:=ai.trans s
  clear s
  have az:=zc (bdO HY.out aA)
  go_wp2_with fail
  refine (zgq C Y H z L S2 a2 _ ax hC).mono ?_
  cases ao:zF C a2 with
  |error p=>
   rintro e w3 ⟨rfl,V⟩
   have HB:=(hh.back ak).trans V
   have HX:Hid (zaC C l q= .error p):=bdE az.out ao
   unfold Pan
   go_wp2
   refine⟨rfl,?_⟩
   rw[HX.out]
   exact⟨rfl,HB⟩
  |ok A=>
   rintro e w3 ⟨rfl,S3,ag,s⟩
   have ac:Hid (Fr 86 4 w3 b0 r l.length (l.flatMap (fun e=>epL (zD e))) S3):=aO.out.step ax (by decide) s
   have aE:=ak.trans s
   clear s
   have ap:=zc (bdO az.out ao)
   have ae:Hid (Fr 86 4 w3 b0 r l.length ((mxE A.2 l 0).flatMap epL) S3):=by show Fr _ _ _ _ _ _ _ _;rw[zta,zlI];exact ac.out
   have ad:g≠L:=ac.out.ngp ag (by decide) (by rw[Rw.blk,HG.out];rfl)
   have ar:g≠Y:=ac.out.ngt ag (by decide) (by rw[Rw.blk,HG.out];rfl)
   have aa:Hid (¬S3.has g):=ac.out.2 g (by rw[Rw.blk,HG.out];rfl)
   have au:=zc ad
   have an:=zc ar
   clear ad ar
   go_wp2
   go_loopg [22] l.length (fun k i wr=>∃(j:Nat),i= .int .i64 j∧j+k=l.length∧IM C Y H z L S3 A.1 wr∧IS L S w S3 wr∧Fr 86 4 wr b0 r l.length ((mxE A.2 l j).flatMap epL) S3)
   case atStart=>exact⟨0,rfl,by omega,ag,aE,ae.out⟩
   case round=>
    obtain⟨j,rfl,hj,m',s',f'⟩:=hrel
    have J:=m'
    have M:=s'
    have U:Hid (Fr 86 4 wr b0 r l.length ((mxE A.2 l j).flatMap epL) S3):=f'
    clear m' s' f'
    by_cases ab:j<l.length
    ·have Z:(j:Int)<(l.length:Int):=by omega
     obtain⟨x,hx⟩:=zfP ab
     have HX:=zc hx
     have O:=U.out.1
     have ho:OwnR wr b0 86 4 r (mxE A.2 l j).length ((mxE A.2 l j).flatMap epL):=by rw[zlF];exact O
     obtain⟨g',X,I⟩:=OwnR.elem (f:=epL) (m:=4) (fun _=>rfl) ho (zlG hx)
     have eg:g'=g:=by have:=X.symm.trans HG.out;simpa using this
     subst eg
     have k0:=I 0 (by omega)
     have k3:=I 3 (by omega)
     simp only[epL,zD,Nat.add_zero,List.getElem?_cons_zero,List.getElem?_cons_succ] at k0 k3
     unfold OwnR at O
     rw[HG.out] at O
     have aR:=O.frozenAt
     have aN:=zc O
     clear I X hx O ho
     obtain⟨j1,N⟩: ∃j1,j1=j+1:=⟨_,rfl⟩
     have ej:(j:Int)+1=(j1:Int):=by omega
     have HJ:=zc N
     clear N
     go_wp2
     go_roundg (gk-1)
     case rel=>
      refine⟨j1,rfl,by have:=HJ.out;omega,(J.set au.out an.out aa.out _ _).set au.out an.out aa.out _ _,(M.new aw.out _ _).new aw.out _ _,?_,U.out.2⟩
      have aL:=(aN.out.stored (j*4+0) (.int .i64 2)).1
      have aq:=(aL.stored (j*4+3) (.string A.2)).1
      rw[zlE epL 4 (fun _=>rfl) _ j 0 (zD x) ⟨2,x.name,x.loc,sNone⟩ (.int .i64 2) (zlG HX.out) (by omega) rfl,zlE epL 4 (fun _=>rfl) ((mxE A.2 l j).set j ⟨2,x.name,x.loc,sNone⟩) j 3 ⟨2,x.name,x.loc,sNone⟩ (zap A.2 x) (.string A.2) (List.getElem?_set_self (by rw[zlF];exact ab)) (by omega) rfl,List.set_set,zsZ HX.out,←HJ.out] at aq
      unfold OwnR
      rw[HG.out]
      exact aq
     case measure=>omega
    ·have Z: ¬(j:Int)<(l.length:Int):=by omega
     have aK:j=l.length:=by omega
     subst aK
     have aG:Hid (Fr 86 4 wr b0 r l.length (l.flatMap fun e=>epL (zap A.2 e)) S3):=by show Fr _ _ _ _ _ _ _ _;rw[←zlI,←ztb A.2 l];exact U.out
     go_wp2_with fail
     refine (zcy C Y H z L S3 A.1 59 _ J).mono ?_
     cases af:zd C 4 cSemi A.1 with
     |error p=>
      rintro e w4 ⟨rfl,V⟩
      have HB:=(hh.back M).trans V
      have HX:Hid (zaC C l q= .error p):=bdE ap.out af
      unfold Pan
      go_wp2
      refine⟨rfl,?_⟩
      rw[HX.out]
      exact⟨rfl,HB⟩
     |ok a4=>
      rintro e w4 ⟨rfl,S4,aM,s⟩
      have ae:Hid (Fr 86 4 w4 b0 r l.length (l.flatMap fun e=>epL (zap A.2 e)) S4):=aG.out.step J (by decide) s
      have aI:=M.trans s
      clear s
      have aP:=zc (bdO ap.out af)
      have al:0<a4.pos:=by rw[(zbL af).1];exact Nat.succ_pos _
      go_wp2
      go_loopg [39] l.length (fun k i wr=>∃(j:Nat) (S':Sv) (q':PS),i= .int .i64 j∧j+k=l.length∧zaC C l q=zV (fun e=>zq C (zap A.2 e)) (l.drop j) (.ok q')∧0<q'.pos∧IM C Y H z L S' q' wr∧IS L S w S' wr∧Fr 86 4 wr b0 r l.length (l.flatMap fun e=>epL (zap A.2 e)) S')
      case atStart=>exact⟨0,S4,a4,rfl,by omega,aP.out,al,aM,aI,ae.out⟩
      case round=>
       obtain⟨j,S',q',rfl,hj,hy,ah,m',s',f'⟩:=hrel
       have am:=zc hy
       have J:=m'
       have M:=s'
       have U:Hid (Fr 86 4 wr b0 r l.length (l.flatMap fun e=>epL (zap A.2 e)) S'):=f'
       clear hy m' s' f'
       by_cases ab:j<l.length
       ·have Z:(j:Int)<(l.length:Int):=by omega
        obtain⟨x,hx⟩:=zfP ab
        obtain⟨g',X,I⟩:=OwnR.elem (f:=fun e=>epL (zap A.2 e)) (m:=4) (fun _=>rfl) U.out.1 hx
        have eg:g'=g:=by have:=X.symm.trans HG.out;simpa using this
        subst eg
        have k0:=I 0 (by omega)
        have k1:=I 1 (by omega)
        have k2:=I 2 (by omega)
        have k3:=I 3 (by omega)
        simp only[epL,zap,Nat.add_zero,List.getElem?_cons_zero,List.getElem?_cons_succ] at k0 k1 k2 k3
        have HZ:=zc (am.out.trans (ziw (fun e=>zq C (zap A.2 e)) hx q'))
        clear I X hx
        obtain⟨j1,N⟩: ∃j1,j1=j+1:=⟨_,rfl⟩
        have ej:(j:Int)+1=(j1:Int):=by omega
        rw[←N] at HZ
        have ad:=J.lt
        have HJ:=zc N
        clear N
        go_wp2_with fail
        refine (zfq C Y H z L S' q' (zap A.2 x) _ (J.alloc _) ah).mono ?_
        cases hn:zq C (zap A.2 x) q' with
        |error p=>
         rintro e wy ⟨rfl,V⟩
         have HB:Below z w wy:=(hh.back (M.alloc _)).trans V
         have HX:Hid (zaC C l q= .error p):=by show _=_;rw[HZ.out,hn];exact zgU _ _ _
         unfold Pan
         go_wp2
         refine⟨rfl,?_⟩
         rw[HX.out]
         exact⟨rfl,HB⟩
        |ok ay=>
         rintro e wy ⟨rfl,Sy,aJ,s⟩
         have aH:IS L S w Sy wy:=(M.alloc _).trans s
         have aC:Hid (Fr 86 4 wy b0 r l.length (l.flatMap fun e=>epL (zap A.2 e)) Sy):=(U.out.later ((Below.refl _ _).alloc (Nat.le_refl _) _)).step (J.alloc _) (by decide) s
         have aF:Hid (zaC C l q=zV (fun e=>zq C (zap A.2 e)) (l.drop j1) (.ok ay)):=by show _=_;rw[HZ.out,hn]
         have aQ:Hid (0<ay.pos):=by show 0<ay.pos;rw[zlC hn];exact ah
         clear s
         go_wp2
         go_roundg (gk-1)
         case rel=>exact⟨j1,Sy,ay,rfl,by have:=HJ.out;omega,aF.out,aQ.out,aJ,aH,aC.out⟩
         case measure=>omega
       ·have Z: ¬(j:Int)<(l.length:Int):=by omega
        have HZ:Hid (zaC C l q= .ok q'):=by show _=_;rw[am.out,List.drop_eq_nil_of_le (by omega)];rfl
        go_wp2
        go_end0
        rw[HZ.out]
        exact⟨rfl,S',J,M⟩
theorem zti (C:Cx) (I z j A b0:Nat) (r:Rw) (S H:Sv) (M q:PS) (l:List Ep) (w wc:World) (U:IM C I z j A S M w) (h:IM C I z j A H q wc) (X:IS A S w H wc) (hC:zbu C) (O:l.length≤4000) (V:l.length≠0) (J:Fr 86 4 wc b0 r l.length (l.flatMap (fun e=>epL (zD e))) H) (N:w.heap.size≤b0):
  Calls Tryz.prog 210 #[.pointer (some ⟨A,0,none⟩),.slice r.a l.length r.cap] wc (zW C I z j A (zaC C l q) id (fun _=>.tuple #[]) S w):=by
 rcases J.1.nil_or with ⟨_,_,e⟩|⟨g,L⟩
 ·exact absurd e V
 ·have Z:w.heap.size≤g:=Nat.le_trans N (J.1.typed (show r.blk=some g by rw[Rw.blk,L];rfl)).1
  rw[L]
  cases Y:isT C q.pos 1 zY with
  |true=>exact zth C I z j A b0 g r S H M q l w wc U h X hC O J L Z Y
  |false=>
   cases ha:zaF l with
   |true=>exact ztg C I z j A b0 g r S H M q l w wc U h X O J L Y ha
   |false=>exact ztf C I z j A b0 g r S H M q l w wc U h X O J L Y ha
theorem ztj {C:Cx} {k:Int} {n:ByteArray} {q b:PS} (h:zU C k n q= .ok b):b={q with st:=q.st++[⟨k,n,(q.ex.length:Int)-1⟩]}:=by
 unfold zU at h
 split at h
 ·cases h
 ·cases h
  rfl
theorem ziy {C:Cx} {k:Int} {n s:ByteArray} {q b:PS} (h:stmtI C k n s q= .ok b) (L:0<s.size):(∃l e,b.st=l++[⟨k,n,e⟩])∧0<b.pos:=by
 obtain⟨a,J,z⟩:=zf h
 obtain⟨c,H,A⟩:=zf z
 have j:=zju _ H
 have I:=ztj A
 subst I
 refine⟨⟨_,_,rfl⟩,?_⟩
 rw[j]
 show 0<a.pos+s.size
 omega
theorem ztk {C:Cx} {k:Int} {q b:PS} (h:letJ C k q= .ok b):(∃l e,b.st=l++[⟨k,(ze C q.pos).text,e⟩])∧0<b.pos:=by
 obtain⟨a,j,z⟩:=zf h
 obtain⟨c,H,A⟩:=zf z
 have:=ziy A (by decide)
 rw[(zbq j).1] at this
 exact this
theorem ztl {C:Cx} {q b:PS} (h:fnI C q= .ok b):(∃l e,b.st=l++[⟨2,(ze C q.pos).text,e⟩])∧0<b.pos:=by
 obtain⟨a,H,z⟩:=zf h
 obtain⟨c,J,A⟩:=zf z
 obtain⟨d,I,j⟩:=zf A
 have:=ziy j (by decide)
 rw[(zbq H).1] at this
 exact this
theorem zlJ (C:Cx) (H z j A:Nat) (S:Sv) (q:PS) (l:List Sm) (k e:Int) (n:ByteArray) (w:World) (h:IM C H z j A S q w) (L:q.st=l++[⟨k,n,e⟩]) (I:n.size≤281474976710656) (J:0<q.pos):
  Calls Tryz.prog 213 #[.pointer (some ⟨A,0,none⟩)] w (zW C H z j A (zq C ⟨1,n,n,sNone⟩ q) id (fun _=>.tuple #[]) S w):=znM C H z j A S q l ⟨k,n,e⟩ w h L I J
def zay (C:Cx) (q:PS):PR:=
 if isT C q.pos 4 zM then bd (za5 C true (adv q) []) fun a=>zaC C a.2 a.1
 else if isT C q.pos 4 zy then bd (zd C 1 zY (adv q)) fun a=>bd (zF C a) fun b=>bd (zd C 4 cSemi b.1) fun c=>zq C ⟨3,sNone,sNone,b.2⟩ c
 else if isT C q.pos 1 sDefault then bd (stmtI C 1 zck cSemi (adv q)) fun a=>zq C ⟨1,sDefault,zck,sNone⟩ a
 else if isT C q.pos 1 zG then bd (letJ C 1 (adv q)) fun a=>zq C ⟨1,(ze C (q.pos+1)).text,(ze C (q.pos+1)).text,sNone⟩ a
 else if isT C q.pos 1 zX then bd (fnI C (adv q)) fun a=>zq C ⟨1,(ze C (q.pos+1)).text,(ze C (q.pos+1)).text,sNone⟩ a
 else .error (zu C q.pos)
theorem ztm (C:Cx) (M z j H:Nat) (S:Sv) (q:PS) (w:World) (h:IM C M z j H S q w) (hC:zbu C) (h1:isT C q.pos 4 zM=true):
  Calls Tryz.prog 192 #[.pointer (some ⟨H,0,none⟩)] w (zW C M z j H (zay C q) id (fun _=>.tuple #[]) S w):=by
 have HY:Hid (zay C q=bd (za5 C true (adv q) []) fun a=>zaC C a.2 a.1):=by show _=_;rw[zay,h1];rfl
 go_enter Tryz.func192,Tryz.ntmps192
 go_wp2_with fail
 refine (zO C M z j H S q 4 zM _ h (by decide)).mono ?_
 rintro e w1 ⟨rfl,N,A⟩
 rw[h1] at N ⊢
 go_wp2_with fail
 refine (zsY C M z j H S (adv q) _ N).mono ?_
 cases J:za5 C true (adv q) [] with
 |error p=>
  rintro e w3 ⟨rfl,hb⟩
  have Y:=(h.back A).trans hb
  have O:Hid (zay C q= .error p):=bdE HY.out J
  unfold Pan
  go_wp2
  refine⟨rfl,?_⟩
  rw[O.out]
  exact⟨rfl,Y⟩
 |ok U=>
  rintro e w3 ⟨r,S3,rfl,Z,s,f,l0,l1⟩
  have aa:=A.trans s
  have ab:=zc f
  clear s f
  have L:=zc (bdO HY.out J)
  go_wp2_with fail
  refine (zti C M z j H _ r S S3 q U.1 U.2 w _ h Z aa hC l1 (by omega) ab.out A.size).mono ?_
  cases I:zaC C U.2 U.1 with
  |error p=>
   rintro e w4 ⟨rfl,Y⟩
   have O:=zc (L.out.trans I)
   unfold Pan
   go_wp2
   refine⟨rfl,?_⟩
   rw[O.out]
   exact⟨rfl,Y⟩
  |ok a4=>
   rintro e w4 ⟨rfl,S4,X,V⟩
   have O:=zc (L.out.trans I)
   go_wp2
   go_end0
   rw[O.out]
   exact⟨rfl,S4,X,V⟩
theorem ztn (C:Cx) (H z j A:Nat) (S:Sv) (q:PS) (w:World) (h:IM C H z j A S q w) (hC:zbu C) (h1:isT C q.pos 4 zM=false) (h2:isT C q.pos 4 zy=true):
  Calls Tryz.prog 192 #[.pointer (some ⟨A,0,none⟩)] w (zW C H z j A (zay C q) id (fun _=>.tuple #[]) S w):=by
 have HY:Hid (zay C q=bd (zd C 1 zY (adv q)) fun a=>bd (zF C a) fun b=>bd (zd C 4 cSemi b.1) fun c=>zq C ⟨3,sNone,sNone,b.2⟩ c):=by show _=_;rw[zay,h1,h2];rfl
 go_enter Tryz.func192,Tryz.ntmps192
 go_wp2_with fail
 refine (zO C H z j A S q 4 zM _ h (by decide)).mono ?_
 rintro e w1 ⟨rfl,af,ai⟩
 rw[h1] at af ⊢
 go_wp2_with fail
 refine (zO C H z j A S q 4 zy _ af (by decide)).mono ?_
 rintro e w2 ⟨rfl,U,s⟩
 rw[h2] at U ⊢
 have X:=ai.trans s
 clear s
 go_wp2_with fail
 refine (ze7 C H z j A S (adv q) zY _ U).mono ?_
 cases aa:zd C 1 zY (adv q) with
 |error p=>
  rintro e w3 ⟨rfl,J⟩
  have L:=(h.back X).trans J
  have M:Hid (zay C q= .error p):=bdE HY.out aa
  unfold Pan
  go_wp2
  refine⟨rfl,?_⟩
  rw[M.out]
  exact⟨rfl,L⟩
 |ok a3=>
  rintro e w3 ⟨rfl,S3,ak,s⟩
  have ac:=X.trans s
  clear s
  have ab:=zc (bdO HY.out aa)
  go_wp2_with fail
  refine (zgq C H z j A S3 a3 _ ak hC).mono ?_
  cases N:zF C a3 with
  |error p=>
   rintro e w4 ⟨rfl,J⟩
   have L:=(h.back ac).trans J
   have M:Hid (zay C q= .error p):=bdE ab.out N
   unfold Pan
   go_wp2
   refine⟨rfl,?_⟩
   rw[M.out]
   exact⟨rfl,L⟩
  |ok a4=>
   rintro e w4 ⟨rfl,S4,ag,s⟩
   have O:=ac.trans s
   clear s
   have ad:=zc (bdO ab.out N)
   go_wp2_with fail
   refine (zcy C H z j A S4 a4.1 59 _ ag).mono ?_
   cases I:zd C 4 cSemi a4.1 with
   |error p=>
    rintro e w5 ⟨rfl,J⟩
    have L:=(h.back O).trans J
    have M:Hid (zay C q= .error p):=bdE ad.out I
    unfold Pan
    go_wp2
    refine⟨rfl,?_⟩
    rw[M.out]
    exact⟨rfl,L⟩
   |ok a5=>
    rintro e w5 ⟨rfl,S5,ah,s⟩
    have ae:=O.trans s
    clear s
    have V:=zc (bdO ad.out I)
    have Y:0<a5.pos:=by rw[(zbL I).1];exact Nat.succ_pos _
    go_wp2_with fail
    refine (zfq C H z j A S5 a5 ⟨3,sNone,sNone,a4.2⟩ _ ah Y).mono ?_
    cases Z:zq C ⟨3,sNone,sNone,a4.2⟩ a5 with
    |error p=>
     rintro e w6 ⟨rfl,J⟩
     have L:=(h.back ae).trans J
     have M:Hid (zay C q= .error p):=V.out.trans Z
     unfold Pan
     go_wp2
     refine⟨rfl,?_⟩
     rw[M.out]
     exact⟨rfl,L⟩
    |ok a6=>
     rintro e w6 ⟨rfl,S6,aj,s⟩
     have al:=ae.trans s
     clear s
     have am:=zc (V.out.trans Z)
     go_wp2
     go_end0
     rw[am.out]
     exact⟨rfl,S6,aj,al⟩
theorem zto (C:Cx) (I z j A:Nat) (S:Sv) (q:PS) (w:World) (h:IM C I z j A S q w) (h1:isT C q.pos 4 zM=false) (h2:isT C q.pos 4 zy=false) (h3:isT C q.pos 1 sDefault=true):
  Calls Tryz.prog 192 #[.pointer (some ⟨A,0,none⟩)] w (zW C I z j A (zay C q) id (fun _=>.tuple #[]) S w):=by
 have HY:Hid (zay C q=bd (stmtI C 1 zck cSemi (adv q)) fun a=>zq C ⟨1,sDefault,zck,sNone⟩ a):=by show _=_;rw[zay,h1,h2,h3];rfl
 go_enter Tryz.func192,Tryz.ntmps192
 go_wp2_with fail
 refine (zO C I z j A S q 4 zM _ h (by decide)).mono ?_
 rintro e w1 ⟨rfl,X,ad⟩
 rw[h1] at X ⊢
 go_wp2_with fail
 refine (zO C I z j A S q 4 zy _ X (by decide)).mono ?_
 rintro e w2 ⟨rfl,M,s⟩
 rw[h2] at M ⊢
 have ac:=ad.trans s
 clear s
 go_wp2_with fail
 refine (zO C I z j A S q 1 sDefault _ M (by decide)).mono ?_
 rintro e w3 ⟨rfl,O,s⟩
 rw[h3] at O ⊢
 have U:=ac.trans s
 clear s
 go_wp2_with fail
 refine (zed C I z j A S (adv q) 1 zck cSemi _ O (by decide) (by decide)).mono ?_
 cases H:stmtI C 1 zck cSemi (adv q) with
 |error p=>
  rintro e w4 ⟨rfl,Y⟩
  have HB:=(h.back U).trans Y
  have HX:Hid (zay C q= .error p):=bdE HY.out H
  unfold Pan
  go_wp2
  refine⟨rfl,?_⟩
  rw[HX.out]
  exact⟨rfl,HB⟩
 |ok a4=>
  rintro e w4 ⟨rfl,S4,Z,s⟩
  have L:=U.trans s
  clear s
  have V:=zc (bdO HY.out H)
  have N:=(ziy H (by decide)).2
  go_wp2_with fail
  refine (zfq C I z j A S4 a4 ⟨1,sDefault,zck,sNone⟩ _ Z N).mono ?_
  cases J:zq C ⟨1,sDefault,zck,sNone⟩ a4 with
  |error p=>
   rintro e w5 ⟨rfl,Y⟩
   have HB:=(h.back L).trans Y
   have HX:Hid (zay C q= .error p):=V.out.trans J
   unfold Pan
   go_wp2
   refine⟨rfl,?_⟩
   rw[HX.out]
   exact⟨rfl,HB⟩
  |ok a5=>
   rintro e w5 ⟨rfl,S5,aa,s⟩
   have ae:=L.trans s
   clear s
   have ab:=zc (V.out.trans J)
   go_wp2
   go_end0
   rw[ab.out]
   exact⟨rfl,S5,aa,ae⟩
theorem ztp (C:Cx) (H z j A:Nat) (S:Sv) (q:PS) (w:World) (h:IM C H z j A S q w) (hC:zbu C) (h1:isT C q.pos 4 zM=false) (h2:isT C q.pos 4 zy=false) (h3:isT C q.pos 1 sDefault=false) (h4:isT C q.pos 1 zG=true):
  Calls Tryz.prog 192 #[.pointer (some ⟨A,0,none⟩)] w (zW C H z j A (zay C q) id (fun _=>.tuple #[]) S w):=by
 have HY:Hid (zay C q=bd (letJ C 1 (adv q)) fun a=>zq C ⟨1,(ze C (q.pos+1)).text,(ze C (q.pos+1)).text,sNone⟩ a):=by show _=_;rw[zay,h1,h2,h3,h4];rfl
 go_enter Tryz.func192,Tryz.ntmps192
 go_wp2_with fail
 refine (zO C H z j A S q 4 zM _ h (by decide)).mono ?_
 rintro e w1 ⟨rfl,Z,ac⟩
 rw[h1] at Z ⊢
 go_wp2_with fail
 refine (zO C H z j A S q 4 zy _ Z (by decide)).mono ?_
 rintro e w2 ⟨rfl,L,s⟩
 rw[h2] at L ⊢
 have ab:=ac.trans s
 clear s
 go_wp2_with fail
 refine (zO C H z j A S q 1 sDefault _ L (by decide)).mono ?_
 rintro e w3 ⟨rfl,X,s⟩
 rw[h3] at X ⊢
 have af:=ab.trans s
 clear s
 go_wp2_with fail
 refine (zO C H z j A S q 1 zG _ X (by decide)).mono ?_
 rintro e w4 ⟨rfl,M,s⟩
 rw[h4] at M ⊢
 have J:=af.trans s
 clear s
 go_wp2_with fail
 refine (zh6 C H z j A S (adv q) _ M).mono ?_
 cases I:letJ C 1 (adv q) with
 |error p=>
  rintro e w5 ⟨rfl,hb⟩
  have HB:=(h.back J).trans hb
  have HX:Hid (zay C q= .error p):=bdE HY.out I
  unfold Pan
  go_wp2
  refine⟨rfl,?_⟩
  rw[HX.out]
  exact⟨rfl,HB⟩
 |ok a5=>
  rintro e w5 ⟨rfl,S5,aa,s⟩
  have Y:=J.trans s
  clear s
  have O:=zc (bdO HY.out I)
  obtain⟨⟨l,e,N⟩,V⟩:=ztk I
  have ah:=zc N
  clear N
  go_wp2_with fail
  refine (zlJ C H z j A S5 a5 l _ _ (ze C (q.pos+1)).text _ aa ah.out (hC _) V).mono ?_
  cases U:zq C ⟨1,(ze C (q.pos+1)).text,(ze C (q.pos+1)).text,sNone⟩ a5 with
  |error p=>
   rintro e w6 ⟨rfl,hb⟩
   have HB:=(h.back Y).trans hb
   have HX:Hid (zay C q= .error p):=O.out.trans U
   unfold Pan
   go_wp2
   refine⟨rfl,?_⟩
   rw[HX.out]
   exact⟨rfl,HB⟩
  |ok a6=>
   rintro e w6 ⟨rfl,S6,ad,s⟩
   have ae:=Y.trans s
   clear s
   have ag:=zc (O.out.trans U)
   go_wp2
   go_end0
   rw[ag.out]
   exact⟨rfl,S6,ad,ae⟩
theorem ztq (C:Cx) (H z j A:Nat) (S:Sv) (q:PS) (w:World) (h:IM C H z j A S q w) (hC:zbu C) (h1:isT C q.pos 4 zM=false) (h2:isT C q.pos 4 zy=false) (h3:isT C q.pos 1 sDefault=false) (h4:isT C q.pos 1 zG=false) (h5:isT C q.pos 1 zX=true):
  Calls Tryz.prog 192 #[.pointer (some ⟨A,0,none⟩)] w (zW C H z j A (zay C q) id (fun _=>.tuple #[]) S w):=by
 have HY:Hid (zay C q=bd (fnI C (adv q)) fun a=>zq C ⟨1,(ze C (q.pos+1)).text,(ze C (q.pos+1)).text,sNone⟩ a):=by show _=_;rw[zay,h1,h2,h3,h4,h5];rfl
 go_enter Tryz.func192,Tryz.ntmps192
 go_wp2_with fail
 refine (zO C H z j A S q 4 zM _ h (by decide)).mono ?_
 rintro e w1 ⟨rfl,Z,ae⟩
 rw[h1] at Z ⊢
 go_wp2_with fail
 refine (zO C H z j A S q 4 zy _ Z (by decide)).mono ?_
 rintro e w2 ⟨rfl,J,s⟩
 rw[h2] at J ⊢
 have af:=ae.trans s
 clear s
 go_wp2_with fail
 refine (zO C H z j A S q 1 sDefault _ J (by decide)).mono ?_
 rintro e w3 ⟨rfl,U,s⟩
 rw[h3] at U ⊢
 have ah:=af.trans s
 clear s
 go_wp2_with fail
 refine (zO C H z j A S q 1 zG _ U (by decide)).mono ?_
 rintro e w4 ⟨rfl,L,s⟩
 rw[h4] at L ⊢
 have ab:=ah.trans s
 clear s
 go_wp2_with fail
 refine (zO C H z j A S q 1 zX _ L (by decide)).mono ?_
 rintro e w5 ⟨rfl,N,s⟩
 rw[h5] at N ⊢
 have X:=ab.trans s
 clear s
 go_wp2_with fail
 refine (zh7 C H z j A S (adv q) _ N).mono ?_
 cases I:fnI C (adv q) with
 |error p=>
  rintro e w6 ⟨rfl,hb⟩
  have HB:=(h.back X).trans hb
  have HX:Hid (zay C q= .error p):=bdE HY.out I
  unfold Pan
  go_wp2
  refine⟨rfl,?_⟩
  rw[HX.out]
  exact⟨rfl,HB⟩
 |ok a6=>
  rintro e w6 ⟨rfl,S6,ag,s⟩
  have V:=X.trans s
  clear s
  have aa:=zc (bdO HY.out I)
  obtain⟨⟨l,e,M⟩,O⟩:=ztl I
  have aj:=zc M
  clear M
  go_wp2_with fail
  refine (zlJ C H z j A S6 a6 l _ _ (ze C (q.pos+1)).text _ ag aj.out (hC _) O).mono ?_
  cases Y:zq C ⟨1,(ze C (q.pos+1)).text,(ze C (q.pos+1)).text,sNone⟩ a6 with
  |error p=>
   rintro e w7 ⟨rfl,hb⟩
   have HB:=(h.back V).trans hb
   have HX:Hid (zay C q= .error p):=aa.out.trans Y
   unfold Pan
   go_wp2
   refine⟨rfl,?_⟩
   rw[HX.out]
   exact⟨rfl,HB⟩
  |ok a7=>
   rintro e w7 ⟨rfl,S7,ad,s⟩
   have ai:=V.trans s
   clear s
   have ac:=zc (aa.out.trans Y)
   go_wp2
   go_end0
   rw[ac.out]
   exact⟨rfl,S7,ad,ai⟩
theorem ztr (C:Cx) (H z j A:Nat) (S:Sv) (q:PS) (w:World) (h:IM C H z j A S q w) (h1:isT C q.pos 4 zM=false) (Z:isT C q.pos 4 zy=false) (h3:isT C q.pos 1 sDefault=false) (h4:isT C q.pos 1 zG=false) (h5:isT C q.pos 1 zX=false):
  Calls Tryz.prog 192 #[.pointer (some ⟨A,0,none⟩)] w (zW C H z j A (zay C q) id (fun _=>.tuple #[]) S w):=by
 have HY:Hid (zay C q= .error (zu C q.pos)):=by show _=_;rw[zay,h1,Z,h3,h4,h5];rfl
 go_enter Tryz.func192,Tryz.ntmps192
 go_wp2_with fail
 refine (zO C H z j A S q 4 zM _ h (by decide)).mono ?_
 rintro e w1 ⟨rfl,N,U⟩
 rw[h1] at N ⊢
 go_wp2_with fail
 refine (zO C H z j A S q 4 zy _ N (by decide)).mono ?_
 rintro e w2 ⟨rfl,J,s⟩
 rw[Z] at J ⊢
 have V:=U.trans s
 clear s
 go_wp2_with fail
 refine (zO C H z j A S q 1 sDefault _ J (by decide)).mono ?_
 rintro e w3 ⟨rfl,M,s⟩
 rw[h3] at M ⊢
 have X:=V.trans s
 clear s
 go_wp2_with fail
 refine (zO C H z j A S q 1 zG _ M (by decide)).mono ?_
 rintro e w4 ⟨rfl,L,s⟩
 rw[h4] at L ⊢
 have O:=X.trans s
 clear s
 go_wp2_with fail
 refine (zO C H z j A S q 1 zX _ L (by decide)).mono ?_
 rintro e w5 ⟨rfl,I,s⟩
 rw[h5] at I ⊢
 have Y:=O.trans s
 clear s
 go_wp2_with fail
 refine (ze6 C H z j A S q _ I).mono ?_
 rintro e wz ⟨rfl,hb⟩
 have HB:=(h.back Y).trans (hb.mono I.mem.base)
 have HX:Hid (zay C q= .error (zu C q.pos)):=HY.out
 unfold Pan
 go_wp2
 refine⟨rfl,?_⟩
 rw[HX.out]
 exact⟨rfl,HB⟩
theorem zts (C:Cx) (H z j A:Nat) (S:Sv) (q:PS) (w:World) (h:IM C H z j A S q w) (L:zbu C):
  Calls Tryz.prog 192 #[.pointer (some ⟨A,0,none⟩)] w (zW C H z j A (zay C q) id (fun _=>.tuple #[]) S w):=by
 cases I:isT C q.pos 4 zM with
 |true=>exact ztm C H z j A S q w h L I
 |false=>
  cases J:isT C q.pos 4 zy with
  |true=>exact ztn C H z j A S q w h L I J
  |false=>
   cases M:isT C q.pos 1 sDefault with
   |true=>exact zto C H z j A S q w h I J M
   |false=>
    cases N:isT C q.pos 1 zG with
    |true=>exact ztp C H z j A S q w h L I J M N
    |false=>
     cases O:isT C q.pos 1 zX with
     |true=>exact ztq C H z j A S q w h L I J M N O
     |false=>exact ztr C H z j A S q w h I J M N O
end Go.Proofs.YtjdddblpfbmpaaaGreat
