/-
  What ContainsFunc over Exps answers,and a row of Exps whose elements are written: the walks.
  What exportNames of impl's parser answers: the walks. (It writes into the row that it is handed: so what is told is told from a world on in which that row was not yet there.)
  What exportItem of impl's parser answers: the walks.
-/
import Derived.Laws.OwnMore
import Derived.Test.YtmnemfookpjhiaaGreatClImplParseU
namespace Go.Proofs.YtmnemfookpjhiaaGreat
set_option maxRecDepth 100000
set_option maxHeartbeats 3200000
open Go.RowKit Go.PlainAid Go.Sort
theorem zys {α:Type} (f:α→List Value) (m:Nat) (hf: ∀x,(f x).length=m): ∀(l:List α) (j i:Nat) (x y:α) (v:Value),l[j]? =some x→i<m→f y=(f x).set i v→(l.flatMap f).set (j*m+i) v=(l.set j y).flatMap f:=by
 intro l
 induction l with
 |nil=>intro j i x y v h;simp at h
 |cons z l ih=>
  intro j i x y v h hi hy
  match j with
  |0=>
   simp only[List.getElem?_cons_zero,Option.some.injEq] at h
   subst h
   rw[List.flatMap_cons,Nat.zero_mul,Nat.zero_add,List.set_append_left _ _ (by rw[hf];exact hi),List.set_cons_zero,List.flatMap_cons,hy]
  |j+1=>
   simp only[List.getElem?_cons_succ] at h
   rw[List.flatMap_cons,List.set_append_right _ _ (by rw[hf,Nat.succ_mul];omega),hf,List.set_cons_succ,List.flatMap_cons,←ih j i x y v h hi hy]
   congr 2
   rw[Nat.succ_mul]
   omega
/-- The Exps of a list, the first j of them from s. -/
def mxE (s:ByteArray) (l:List Ep) (j:Nat):List Ep:=(l.take j).map (zbq s)++(l.drop j).map zw
theorem zbby (s:ByteArray) (l:List Ep) (j:Nat):(mxE s l j).length=l.length:=by simp[mxE];omega
theorem zbgv {s:ByteArray} {l:List Ep} {j:Nat} {x:Ep} (h:l[j]? =some x):(mxE s l j)[j]? =some (zw x):=by
 obtain⟨hj,rfl⟩:=List.getElem?_eq_some_iff.1 h
 have h1:((l.take j).map (zbq s)).length=j:=by simp;omega
 rw[mxE,List.getElem?_append_right (by omega),h1,Nat.sub_self,List.drop_eq_getElem_cons hj]
 rfl
theorem zbjn {s:ByteArray} {l:List Ep} {j:Nat} {x:Ep} (h:l[j]? =some x):(mxE s l j).set j (zbq s x)=mxE s l (j+1):=by
 obtain⟨hj,rfl⟩:=List.getElem?_eq_some_iff.1 h
 have h1:((l.take j).map (zbq s)).length=j:=by simp;omega
 rw[mxE,List.set_append_right _ _ (by omega),h1,Nat.sub_self,List.drop_eq_getElem_cons hj,List.map_cons,List.set_cons_zero,mxE,List.take_succ_eq_append_getElem hj,List.map_append,List.append_assoc]
 rfl
theorem zbjo (s:ByteArray) (l:List Ep):mxE s l 0=l.map zw:=by simp[mxE]
theorem zbmk (s:ByteArray) (l:List Ep):mxE s l l.length=l.map (zbq s):=by simp[mxE]
theorem zvt (x:Ep) (w:World):
  Calls Tryz.prog 262 #[epV x] w fun e w'=>e= .returned (.bool (x.loc.toList==[100,101,102,97,117,108,116]))∧Below w.heap.size w w':=by
 unfold epV
 cases hx:(x.loc.toList==[100,101,102,97,117,108,116]) with
 |true=>
  go_enter Tryz.func262,Tryz.ntmps262
  go_wp2
  go_ret
  exact⟨rfl,(Below.refl _ _).alloc (Nat.le_refl _) _⟩
 |false=>
  go_enter Tryz.func262,Tryz.ntmps262
  go_wp2
  go_ret
  exact⟨rfl,(Below.refl _ _).alloc (Nat.le_refl _) _⟩
theorem zbgw {l:List Ep} {j:Nat} {x:Ep} (h:l[j]? =some x):anyB (l.drop j)=((x.loc.toList==[100,101,102,97,117,108,116])||anyB (l.drop (j+1))):=by
 obtain⟨hj,rfl⟩:=List.getElem?_eq_some_iff.1 h
 rw[List.drop_eq_getElem_cons hj]
 simp only[anyB,List.any_cons]
theorem zvu (base g:Nat) (r:Rw) (l:List Ep) (w:World) (h:OwnR w base 121 4 r l.length (l.flatMap fun e=>epL (zw e))) (hl:l.length≤4000) (hg:r.a=some ⟨g,0,none⟩):
  Calls Tryz.prog 272 #[.slice (some ⟨g,0,none⟩) l.length r.cap,.func (.func 262) #[] #[]] w fun e w'=>(∃v:Int,e= .returned (.int .i64 v)∧decide (0≤v)=anyB l)∧Below w.heap.size w w':=by
 have HO:=hidI h
 have Pe:=hidI hg
 clear h hg
 go_enter Tryz.func272,Tryz.ntmps272
 go_wp2
 go_loopg [8] (l.length+1) (fun k i wr=>∃j:Nat,i= .int .i64 j∧j+k=l.length+1∧anyB (l.drop j)=anyB l∧Below w.heap.size w wr)
 case atStart=>exact⟨0,rfl,by omega,by simp,Below.refl _ _⟩
 case round=>
  obtain⟨j,rfl,hj,he,hb⟩:=hrel
  have HE:=hidI he
  have HB:=hidI hb
  clear he hb
  by_cases F0:j<l.length
  ·have I2:(j:Int)<(l.length:Int):=by omega
   obtain⟨x,hx⟩:=znh F0
   have HOr:=hidI (HO.out.keep fun k g=>HB.out.block k (HO.out.typed g).2.1)
   obtain⟨g',ba,Y3⟩:=OwnR.elem (f:=fun e=>epL (zw e)) (m:=4) (fun _=>rfl) HOr.out hx
   have eg:g'=g:=by have:=ba.symm.trans Pe.out;L0 using this
   subst eg
   have k0:=Y3 0 (by omega)
   have k1:=Y3 1 (by omega)
   have k2:=Y3 2 (by omega)
   have k3:=Y3 3 (by omega)
   simp only[epL,zw,Nat.add_zero,List.getElem?_cons_zero,List.getElem?_cons_succ] at k0 k1 k2 k3
   have HS:=hidI (zbgw hx)
   clear Y3 ba hx
   obtain⟨j1,Y1⟩: ∃j1,j1=j+1:=⟨_,rfl⟩
   have ej:(j:Int)+1=(j1:Int):=by omega
   have HJ:=hidI Y1
   clear Y1
   go_wp2_with f0
   refine (zvt (zw x) _).mono ?_
   rintro e w1 ⟨rfl,P0⟩
   have L2:Hid (Below w.heap.size w w1):=HB.out.trans (P0.mono HB.out.size)
   clear P0
   rw[show (zw x).loc=x.loc from rfl]
   cases ex:(x.loc.toList==[100,101,102,97,117,108,116]) with
   |true=>
    go_wp2
    go_ret
    refine⟨⟨_,rfl,?_⟩,L2.out⟩
    rw[←HE.out,HS.out,ex]
    simp
   |false=>
    go_wp2
    go_roundg (gk-1)
    case rel=>
     refine⟨j1,rfl,by have:=HJ.out;omega,?_,L2.out⟩
     rw[←HE.out,HS.out,ex,HJ.out]
     simp
    case measure=>omega
  ·have I2: ¬(j:Int)<(l.length:Int):=by omega
   go_wp2
   go_ret
   refine⟨⟨_,rfl,?_⟩,HB.out⟩
   rw[←HE.out,List.drop_eq_nil_of_le (by omega)]
   rfl
theorem zma (base g:Nat) (r:Rw) (l:List Ep) (w:World) (h:OwnR w base 121 4 r l.length (l.flatMap fun e=>epL (zw e))) (hl:l.length≤4000) (hg:r.a=some ⟨g,0,none⟩):
  Calls Tryz.prog 263 #[.slice (some ⟨g,0,none⟩) l.length r.cap,.func (.func 262) #[] #[]] w fun e w'=>e= .returned (.bool (anyB l))∧Below w.heap.size w w':=by
 have HO:=hidI h
 have Pe:=hidI hg
 clear h hg
 go_enter Tryz.func263,Tryz.ntmps263
 go_wp2_with f0
 refine (zvu base g r l _ HO.out hl Pe.out).mono ?_
 rintro e w1 ⟨⟨v,rfl,hv⟩,hb⟩
 have HV:=hidI hv
 have HB:=hidI hb
 clear hv hb
 go_wp2
 go_ret
 exact⟨zh HV.out,HB.out⟩
def zbn (C:Cx) (l:List Ep) (q:PS):PR:=
 if isT C q.pos 1 zbw||anyB l then bd (tokP C 1 zbw q) fun a=>bd (zbl C a) fun b=>bd (tokP C 4 cSemi b.1) fun c=>zbg (fun e=>zv C (zbq b.2 e)) l (.ok c)
 else bd (tokP C 4 cSemi q) fun c=>zbg (fun e=>zv C (zw e)) l (.ok c)
theorem zyt (X:Ep→Ep) (l:List Ep):(l.map X).flatMap epL=l.flatMap fun e=>epL (X e):=by rw[List.flatMap_map]
theorem zvv (C:Cx) (gt cap base gp b0 g:Nat) (r:Rw) (S Sc:Sv) (q0 q:PS) (l:List Ep) (w wc:World) (hh:IM C gt cap base gp S q0 w) (h:IM C gt cap base gp Sc q wc) (h0:IS gp S w Sc wc) (hl:l.length≤4000) (hf:Fr 121 4 wc b0 r l.length (l.flatMap (fun e=>epL (zw e))) Sc) (hg:r.a=some ⟨g,0,none⟩) (hi:isT C q.pos 1 zbw=false) (ha:anyB l=false):
  Calls Tryz.prog 237 #[.pointer (some ⟨gp,0,none⟩),.slice (some ⟨g,0,none⟩) l.length r.cap] wc (IOut C gt cap base gp (zbn C l q) id (fun _=>.tuple #[]) S w):=by
 have HH:=hidI hh
 have HC:=hidI h
 have H0:=hidI h0
 have HF:=hidI hf
 have HG:=hidI hg
 have HY:Hid (zbn C l q=bd (tokP C 4 cSemi q) fun c=>zbg (fun e=>zv C (zw e)) l (.ok c)):=by show _=_;rw[zbn,hi,ha];rfl
 clear hh h h0 hf hg
 go_enter Tryz.func237,Tryz.ntmps237
 go_wp2_with f0
 refine (zdq C gt cap base gp Sc q 1 zbw _ HC.out).mono ?_
 rintro e w1 ⟨rfl,hb⟩
 rw[hi]
 have F3:Hid (IM C gt cap base gp Sc q w1):=HC.out.later hb
 have L3:Hid (IS gp S w Sc w1):=(H0.out.trans (IS.below hb))
 have fa:IS gp Sc wc Sc w1:=IS.below hb
 clear hb
 have aa:Hid (Fr 121 4 w1 b0 r l.length (l.flatMap (fun e=>epL (zw e))) Sc):=HF.out.step HC.out (by decide) fa
 clear fa
 go_wp2_with f0
 refine (zma b0 g r l _ aa.out.1 hl HG.out).mono ?_
 rintro e w2 ⟨rfl,hb⟩
 rw[ha]
 have T9:Hid (Fr 121 4 w2 b0 r l.length (l.flatMap (fun e=>epL (zw e))) Sc):=aa.out.later hb
 have W0:Hid (IM C gt cap base gp Sc q w2):=F3.out.later hb
 have Q2:Hid (IS gp S w Sc w2):=(L3.out.trans (IS.below hb))
 clear hb
 go_wp2_with f0
 refine (zep C gt cap base gp Sc q 59 _ W0.out).mono ?_
 cases hn3:tokP C 4 cSemi q with
 |error p=>
  rintro e w3 ⟨rfl,hb⟩
  have HB:Hid (Below base w w3):=(HH.out.back Q2.out).trans hb
  have HX:Hid (zbn C l q= .error p):=bdE HY.out hn3
  unfold Pan
  go_wp2
  refine⟨rfl,?_⟩
  rw[HX.out]
  exact⟨rfl,HB.out⟩
 |ok a3=>
  rintro e w3 ⟨rfl,S3,m,s⟩
  have L8:Hid (Fr 121 4 w3 b0 r l.length (l.flatMap (fun e=>epL (zw e))) S3):=T9.out.step W0.out (by decide) s
  have U2:=hidI m
  have Z2:Hid (IS gp S w S3 w3):=Q2.out.trans s
  clear m s
  have F7:=hidI (bdO HY.out hn3)
  have T6:0<a3.pos:=by rw[(zea hn3).1];exact Nat.succ_pos _
  go_wp2
  go_loopg [39] l.length (fun k i wr=>∃(j:Nat) (S':Sv) (q':PS),i= .int .i64 j∧j+k=l.length∧zbn C l q=zbg (fun e=>zv C (zw e)) (l.drop j) (.ok q')∧0<q'.pos∧IM C gt cap base gp S' q' wr∧IS gp S w S' wr∧Fr 121 4 wr b0 r l.length (l.flatMap fun e=>epL (zw e)) S')
  case atStart=>exact⟨0,S3,a3,rfl,by omega,F7.out,T6,U2.out,Z2.out,L8.out⟩
  case round=>
   obtain⟨j,S',q',rfl,hj,hy,Q9,m',s',f'⟩:=hrel
   have N7:=hidI hy
   have E6:Hid (IM C gt cap base gp S' q' wr):=m'
   have K7:Hid (IS gp S w S' wr):=s'
   have sa:Hid (Fr 121 4 wr b0 r l.length (l.flatMap fun e=>epL (zw e)) S'):=f'
   clear hy m' s' f'
   by_cases F0:j<l.length
   ·have I2:(j:Int)<(l.length:Int):=by omega
    obtain⟨x,hx⟩:=znh F0
    obtain⟨g',ba,Y3⟩:=OwnR.elem (f:=fun e=>epL (zw e)) (m:=4) (fun _=>rfl) sa.out.1 hx
    have eg:g'=g:=by have:=ba.symm.trans HG.out;L0 using this
    subst eg
    have k0:=Y3 0 (by omega)
    have k1:=Y3 1 (by omega)
    have k2:=Y3 2 (by omega)
    have k3:=Y3 3 (by omega)
    simp only[epL,zw,Nat.add_zero,List.getElem?_cons_zero,List.getElem?_cons_succ] at k0 k1 k2 k3
    have HZ:=hidI (N7.out.trans (zlz (fun e=>zv C (zw e)) hx q'))
    clear Y3 ba hx
    obtain⟨j1,Y1⟩: ∃j1,j1=j+1:=⟨_,rfl⟩
    have ej:(j:Int)+1=(j1:Int):=by omega
    rw[←Y1] at HZ
    have tb:=E6.out.lt
    have HJ:=hidI Y1
    clear Y1
    go_wp2_with f0
    refine (zji C gt cap base gp S' q' (zw x) _ (E6.out.alloc _) Q9).mono ?_
    cases hn:zv C (zw x) q' with
    |error p=>
     rintro e wy ⟨rfl,hb⟩
     have HB:Hid (Below base w wy):=(HH.out.back (K7.out.alloc _)).trans hb
     have HX:Hid (zbn C l q= .error p):=by show _=_;rw[HZ.out,hn];exact zij _ _ _
     unfold Pan
     go_wp2
     refine⟨rfl,?_⟩
     rw[HX.out]
     exact⟨rfl,HB.out⟩
    |ok ay=>
     rintro e wy ⟨rfl,Sy,m,s⟩
     have HMy:=hidI m
     have HSy:Hid (IS gp S w Sy wy):=(K7.out.alloc _).trans s
     have HFy:Hid (Fr 121 4 wy b0 r l.length (l.flatMap fun e=>epL (zw e)) Sy):=(sa.out.later ((Below.refl _ _).alloc (Nat.le_refl _) _)).step (E6.out.alloc _) (by decide) s
     have HYy:Hid (zbn C l q=zbg (fun e=>zv C (zw e)) (l.drop j1) (.ok ay)):=by show _=_;rw[HZ.out,hn]
     have HPy:Hid (0<ay.pos):=by show 0<ay.pos;rw[zsr hn];exact Q9
     clear m s
     go_wp2
     go_roundg (gk-1)
     case rel=>exact⟨j1,Sy,ay,rfl,by have:=HJ.out;omega,HYy.out,HPy.out,HMy.out,HSy.out,HFy.out⟩
     case measure=>omega
   ·have I2: ¬(j:Int)<(l.length:Int):=by omega
    have HZ:Hid (zbn C l q= .ok q'):=by show _=_;rw[N7.out,List.drop_eq_nil_of_le (by omega)];rfl
    go_wp2
    go_end0
    rw[HZ.out]
    exact⟨rfl,S',E6.out,K7.out⟩
theorem zvw (C:Cx) (gt cap base gp b0 g:Nat) (r:Rw) (S Sc:Sv) (q0 q:PS) (l:List Ep) (w wc:World) (hh:IM C gt cap base gp S q0 w) (h:IM C gt cap base gp Sc q wc) (h0:IS gp S w Sc wc) (hl:l.length≤4000) (hf:Fr 121 4 wc b0 r l.length (l.flatMap (fun e=>epL (zw e))) Sc) (hg:r.a=some ⟨g,0,none⟩) (hi:isT C q.pos 1 zbw=false) (ha:anyB l=true):
  Calls Tryz.prog 237 #[.pointer (some ⟨gp,0,none⟩),.slice (some ⟨g,0,none⟩) l.length r.cap] wc (IOut C gt cap base gp (zbn C l q) id (fun _=>.tuple #[]) S w):=by
 have HH:=hidI hh
 have HC:=hidI h
 have H0:=hidI h0
 have HF:=hidI hf
 have HG:=hidI hg
 have HY:Hid (zbn C l q= .error (here C q.pos)):=by show _=_;rw[zbn,hi,ha,if_pos (by decide),zra hi];rfl
 clear hh h h0 hf hg
 go_enter Tryz.func237,Tryz.ntmps237
 go_wp2_with f0
 refine (zdq C gt cap base gp Sc q 1 zbw _ HC.out).mono ?_
 rintro e w1 ⟨rfl,hb⟩
 rw[hi]
 have F3:Hid (IM C gt cap base gp Sc q w1):=HC.out.later hb
 have L3:Hid (IS gp S w Sc w1):=(H0.out.trans (IS.below hb))
 have fa:IS gp Sc wc Sc w1:=IS.below hb
 clear hb
 have aa:Hid (Fr 121 4 w1 b0 r l.length (l.flatMap (fun e=>epL (zw e))) Sc):=HF.out.step HC.out (by decide) fa
 clear fa
 go_wp2_with f0
 refine (zma b0 g r l _ aa.out.1 hl HG.out).mono ?_
 rintro e w2 ⟨rfl,hb⟩
 rw[ha]
 have T9:Hid (Fr 121 4 w2 b0 r l.length (l.flatMap (fun e=>epL (zw e))) Sc):=aa.out.later hb
 have W0:Hid (IM C gt cap base gp Sc q w2):=F3.out.later hb
 have Q2:Hid (IS gp S w Sc w2):=(L3.out.trans (IS.below hb))
 clear hb
 go_wp2_with f0
 refine (zgu C gt cap base gp Sc q zbw _ W0.out).mono ?_
 rw[zra hi]
 rintro e w3 ⟨rfl,hb⟩
 have HB:Hid (Below base w w3):=(HH.out.back Q2.out).trans hb
 have HX:Hid (zbn C l q= .error (here C q.pos)):=HY.out
 unfold Pan
 go_wp2
 refine⟨rfl,?_⟩
 rw[HX.out]
 exact⟨rfl,HB.out⟩
theorem zvx (C:Cx) (gt cap base gp b0 g:Nat) (r:Rw) (S Sc:Sv) (q0 q:PS) (l:List Ep) (w wc:World) (hh:IM C gt cap base gp S q0 w) (h:IM C gt cap base gp Sc q wc) (h0:IS gp S w Sc wc) (hC:zfj C) (hl:l.length≤4000) (hf:Fr 121 4 wc b0 r l.length (l.flatMap (fun e=>epL (zw e))) Sc) (hg:r.a=some ⟨g,0,none⟩) (hg0:w.heap.size≤g) (hi:isT C q.pos 1 zbw=true):
  Calls Tryz.prog 237 #[.pointer (some ⟨gp,0,none⟩),.slice (some ⟨g,0,none⟩) l.length r.cap] wc (IOut C gt cap base gp (zbn C l q) id (fun _=>.tuple #[]) S w):=by
 have HH:=hidI hh
 have HC:=hidI h
 have H0:=hidI h0
 have HF:=hidI hf
 have HG:=hidI hg
 have td:=hidI hg0
 have HY:Hid (zbn C l q=bd (tokP C 1 zbw q) fun a=>bd (zbl C a) fun b=>bd (tokP C 4 cSemi b.1) fun c=>zbg (fun e=>zv C (zbq b.2 e)) l (.ok c)):=by show _=_;rw[zbn,hi];rfl
 clear hh h h0 hf hg hg0
 go_enter Tryz.func237,Tryz.ntmps237
 go_wp2_with f0
 refine (zdq C gt cap base gp Sc q 1 zbw _ HC.out).mono ?_
 rintro e w1 ⟨rfl,hb⟩
 rw[hi]
 have F3:Hid (IM C gt cap base gp Sc q w1):=HC.out.later hb
 have L3:Hid (IS gp S w Sc w1):=(H0.out.trans (IS.below hb))
 have fa:IS gp Sc wc Sc w1:=IS.below hb
 clear hb
 have aa:Hid (Fr 121 4 w1 b0 r l.length (l.flatMap (fun e=>epL (zw e))) Sc):=HF.out.step HC.out (by decide) fa
 clear fa
 go_wp2_with f0
 refine (zgu C gt cap base gp Sc q zbw _ F3.out).mono ?_
 cases J7:tokP C 1 zbw q with
 |error p=>
  rintro e w2 ⟨rfl,hb⟩
  have HB:Hid (Below base w w2):=(HH.out.back L3.out).trans hb
  have HX:Hid (zbn C l q= .error p):=bdE HY.out J7
  unfold Pan
  go_wp2
  refine⟨rfl,?_⟩
  rw[HX.out]
  exact⟨rfl,HB.out⟩
 |ok a2=>
  rintro e w2 ⟨rfl,S2,m,s⟩
  have T9:Hid (Fr 121 4 w2 b0 r l.length (l.flatMap (fun e=>epL (zw e))) S2):=aa.out.step F3.out (by decide) s
  have W0:=hidI m
  have Q2:Hid (IS gp S w S2 w2):=L3.out.trans s
  clear m s
  have R8:=hidI (bdO HY.out J7)
  go_wp2_with f0
  refine (zkj C gt cap base gp S2 a2 _ W0.out hC).mono ?_
  cases hn3:zbl C a2 with
  |error p=>
   rintro e w3 ⟨rfl,hb⟩
   have HB:Hid (Below base w w3):=(HH.out.back Q2.out).trans hb
   have HX:Hid (zbn C l q= .error p):=bdE R8.out hn3
   unfold Pan
   go_wp2
   refine⟨rfl,?_⟩
   rw[HX.out]
   exact⟨rfl,HB.out⟩
  |ok a3=>
   rintro e w3 ⟨rfl,S3,m,s⟩
   have L8:Hid (Fr 121 4 w3 b0 r l.length (l.flatMap (fun e=>epL (zw e))) S3):=T9.out.step W0.out (by decide) s
   have U2:=hidI m
   have Z2:Hid (IS gp S w S3 w3):=Q2.out.trans s
   clear m s
   have F7:=hidI (bdO R8.out hn3)
   have yb:Hid (Fr 121 4 w3 b0 r l.length ((mxE a3.2 l 0).flatMap epL) S3):=by show Fr _ _ _ _ _ _ _ _;rw[zbjo,zyt];exact L8.out
   have tb:g≠gp:=L8.out.ngp U2.out (by decide) (by rw[Rw.blk,HG.out];rfl)
   have Vb:g≠gt:=L8.out.ngt U2.out (by decide) (by rw[Rw.blk,HG.out];rfl)
   have pa:Hid (¬S3.has g):=L8.out.2 g (by rw[Rw.blk,HG.out];rfl)
   have HGP:=hidI tb
   have HGT:=hidI Vb
   clear tb Vb
   go_wp2
   go_loopg [22] l.length (fun k i wr=>∃(j:Nat),i= .int .i64 j∧j+k=l.length∧IM C gt cap base gp S3 a3.1 wr∧IS gp S w S3 wr∧Fr 121 4 wr b0 r l.length ((mxE a3.2 l j).flatMap epL) S3)
   case atStart=>exact⟨0,rfl,by omega,U2.out,Z2.out,yb.out⟩
   case round=>
    obtain⟨j,rfl,hj,m',s',f'⟩:=hrel
    have E6:Hid (IM C gt cap base gp S3 a3.1 wr):=m'
    have K7:Hid (IS gp S w S3 wr):=s'
    have sa:Hid (Fr 121 4 wr b0 r l.length ((mxE a3.2 l j).flatMap epL) S3):=f'
    clear m' s' f'
    by_cases F0:j<l.length
    ·have I2:(j:Int)<(l.length:Int):=by omega
     obtain⟨x,hx⟩:=znh F0
     have HX:=hidI hx
     have se:=sa.out.1
     have ho:OwnR wr b0 121 4 r (mxE a3.2 l j).length ((mxE a3.2 l j).flatMap epL):=by rw[zbby];exact se
     obtain⟨g',ba,Y3⟩:=OwnR.elem (f:=epL) (m:=4) (fun _=>rfl) ho (zbgv hx)
     have eg:g'=g:=by have:=ba.symm.trans HG.out;L0 using this
     subst eg
     have k0:=Y3 0 (by omega)
     have k3:=Y3 3 (by omega)
     simp only[epL,zw,Nat.add_zero,List.getElem?_cons_zero,List.getElem?_cons_succ] at k0 k3
     unfold OwnR at se
     rw[HG.out] at se
     have hfz:=se.frozenAt
     have HOW:=hidI se
     clear Y3 ba hx se ho
     obtain⟨j1,Y1⟩: ∃j1,j1=j+1:=⟨_,rfl⟩
     have ej:(j:Int)+1=(j1:Int):=by omega
     have HJ:=hidI Y1
     clear Y1
     go_wp2
     go_roundg (gk-1)
     case rel=>
      refine⟨j1,rfl,by have:=HJ.out;omega,(E6.out.set HGP.out HGT.out pa.out _ _).set HGP.out HGT.out pa.out _ _,(K7.out.new td.out _ _).new td.out _ _,?_,sa.out.2⟩
      have st1:=(HOW.out.stored (j*4+0) (.int .i64 2)).1
      have st2:=(st1.stored (j*4+3) (.string a3.2)).1
      rw[zys epL 4 (fun _=>rfl) _ j 0 (zw x) ⟨2,x.name,x.loc,sNone⟩ (.int .i64 2) (zbgv HX.out) (by omega) rfl,zys epL 4 (fun _=>rfl) ((mxE a3.2 l j).set j ⟨2,x.name,x.loc,sNone⟩) j 3 ⟨2,x.name,x.loc,sNone⟩ (zbq a3.2 x) (.string a3.2) (List.getElem?_set_self (by rw[zbby];exact F0)) (by omega) rfl,List.set_set,zbjn HX.out,←HJ.out] at st2
      unfold OwnR
      rw[HG.out]
      exact st2
     case measure=>omega
    ·have I2: ¬(j:Int)<(l.length:Int):=by omega
     have ejl:j=l.length:=by omega
     subst ejl
     have HFs:Hid (Fr 121 4 wr b0 r l.length (l.flatMap fun e=>epL (zbq a3.2 e)) S3):=by show Fr _ _ _ _ _ _ _ _;rw[←zyt,←zbmk a3.2 l];exact sa.out
     go_wp2_with f0
     refine (zep C gt cap base gp S3 a3.1 59 _ E6.out).mono ?_
     cases o6:tokP C 4 cSemi a3.1 with
     |error p=>
      rintro e w4 ⟨rfl,hb⟩
      have HB:Hid (Below base w w4):=(HH.out.back K7.out).trans hb
      have HX:Hid (zbn C l q= .error p):=bdE F7.out o6
      unfold Pan
      go_wp2
      refine⟨rfl,?_⟩
      rw[HX.out]
      exact⟨rfl,HB.out⟩
     |ok a4=>
      rintro e w4 ⟨rfl,S4,m,s⟩
      have yb:Hid (Fr 121 4 w4 b0 r l.length (l.flatMap fun e=>epL (zbq a3.2 e)) S4):=HFs.out.step E6.out (by decide) s
      have I3:=hidI m
      have V2:Hid (IS gp S w S4 w4):=K7.out.trans s
      clear m s
      have f8:=hidI (bdO F7.out o6)
      have T6:0<a4.pos:=by rw[(zea o6).1];exact Nat.succ_pos _
      go_wp2
      go_loopg [39] l.length (fun k i wr=>∃(j:Nat) (S':Sv) (q':PS),i= .int .i64 j∧j+k=l.length∧zbn C l q=zbg (fun e=>zv C (zbq a3.2 e)) (l.drop j) (.ok q')∧0<q'.pos∧IM C gt cap base gp S' q' wr∧IS gp S w S' wr∧Fr 121 4 wr b0 r l.length (l.flatMap fun e=>epL (zbq a3.2 e)) S')
      case atStart=>exact⟨0,S4,a4,rfl,by omega,f8.out,T6,I3.out,V2.out,yb.out⟩
      case round=>
       obtain⟨j,S',q',rfl,hj,hy,Q9,m',s',f'⟩:=hrel
       have N7:=hidI hy
       have E6:Hid (IM C gt cap base gp S' q' wr):=m'
       have K7:Hid (IS gp S w S' wr):=s'
       have sa:Hid (Fr 121 4 wr b0 r l.length (l.flatMap fun e=>epL (zbq a3.2 e)) S'):=f'
       clear hy m' s' f'
       by_cases F0:j<l.length
       ·have I2:(j:Int)<(l.length:Int):=by omega
        obtain⟨x,hx⟩:=znh F0
        obtain⟨g',ba,Y3⟩:=OwnR.elem (f:=fun e=>epL (zbq a3.2 e)) (m:=4) (fun _=>rfl) sa.out.1 hx
        have eg:g'=g:=by have:=ba.symm.trans HG.out;L0 using this
        subst eg
        have k0:=Y3 0 (by omega)
        have k1:=Y3 1 (by omega)
        have k2:=Y3 2 (by omega)
        have k3:=Y3 3 (by omega)
        simp only[epL,zbq,Nat.add_zero,List.getElem?_cons_zero,List.getElem?_cons_succ] at k0 k1 k2 k3
        have HZ:=hidI (N7.out.trans (zlz (fun e=>zv C (zbq a3.2 e)) hx q'))
        clear Y3 ba hx
        obtain⟨j1,Y1⟩: ∃j1,j1=j+1:=⟨_,rfl⟩
        have ej:(j:Int)+1=(j1:Int):=by omega
        rw[←Y1] at HZ
        have tb:=E6.out.lt
        have HJ:=hidI Y1
        clear Y1
        go_wp2_with f0
        refine (zji C gt cap base gp S' q' (zbq a3.2 x) _ (E6.out.alloc _) Q9).mono ?_
        cases hn:zv C (zbq a3.2 x) q' with
        |error p=>
         rintro e wy ⟨rfl,hb⟩
         have HB:Hid (Below base w wy):=(HH.out.back (K7.out.alloc _)).trans hb
         have HX:Hid (zbn C l q= .error p):=by show _=_;rw[HZ.out,hn];exact zij _ _ _
         unfold Pan
         go_wp2
         refine⟨rfl,?_⟩
         rw[HX.out]
         exact⟨rfl,HB.out⟩
        |ok ay=>
         rintro e wy ⟨rfl,Sy,m,s⟩
         have HMy:=hidI m
         have HSy:Hid (IS gp S w Sy wy):=(K7.out.alloc _).trans s
         have HFy:Hid (Fr 121 4 wy b0 r l.length (l.flatMap fun e=>epL (zbq a3.2 e)) Sy):=(sa.out.later ((Below.refl _ _).alloc (Nat.le_refl _) _)).step (E6.out.alloc _) (by decide) s
         have HYy:Hid (zbn C l q=zbg (fun e=>zv C (zbq a3.2 e)) (l.drop j1) (.ok ay)):=by show _=_;rw[HZ.out,hn]
         have HPy:Hid (0<ay.pos):=by show 0<ay.pos;rw[zsr hn];exact Q9
         clear m s
         go_wp2
         go_roundg (gk-1)
         case rel=>exact⟨j1,Sy,ay,rfl,by have:=HJ.out;omega,HYy.out,HPy.out,HMy.out,HSy.out,HFy.out⟩
         case measure=>omega
       ·have I2: ¬(j:Int)<(l.length:Int):=by omega
        have HZ:Hid (zbn C l q= .ok q'):=by show _=_;rw[N7.out,List.drop_eq_nil_of_le (by omega)];rfl
        go_wp2
        go_end0
        rw[HZ.out]
        exact⟨rfl,S',E6.out,K7.out⟩
theorem zss (C:Cx) (gt cap base gp b0:Nat) (r:Rw) (S Sc:Sv) (q0 q:PS) (l:List Ep) (w wc:World) (hh:IM C gt cap base gp S q0 w) (h:IM C gt cap base gp Sc q wc) (h0:IS gp S w Sc wc) (hC:zfj C) (hl:l.length≤4000) (hl0:l.length≠0) (hf:Fr 121 4 wc b0 r l.length (l.flatMap (fun e=>epL (zw e))) Sc) (I5:w.heap.size≤b0):
  Calls Tryz.prog 237 #[.pointer (some ⟨gp,0,none⟩),.slice r.a l.length r.cap] wc (IOut C gt cap base gp (zbn C l q) id (fun _=>.tuple #[]) S w):=by
 rcases hf.1.nil_or with ⟨_,_,e⟩|⟨g,hg⟩
 ·exact absurd e hl0
 ·have hg0:w.heap.size≤g:=Nat.le_trans I5 (hf.1.typed (show r.blk=some g by rw[Rw.blk,hg];rfl)).1
  rw[hg]
  cases hi:isT C q.pos 1 zbw with
  |true=>exact zvx C gt cap base gp b0 g r S Sc q0 q l w wc hh h h0 hC hl hf hg hg0 hi
  |false=>
   cases ha:anyB l with
   |true=>exact zvw C gt cap base gp b0 g r S Sc q0 q l w wc hh h h0 hl hf hg hi ha
   |false=>exact zvv C gt cap base gp b0 g r S Sc q0 q l w wc hh h h0 hl hf hg hi ha
theorem zbgx {C:Cx} {k:Int} {n:ByteArray} {q b:PS} (h:zbx C k n q= .ok b):b={q with st:=q.st++[⟨k,n,(q.ex.length:Int)-1⟩]}:=by
 unfold zbx at h
 split at h
 ·cases h
 ·cases h
  rfl
theorem zny {C:Cx} {k:Int} {n s:ByteArray} {q b:PS} (h:stmtI C k n s q= .ok b) (hs:0<s.size):(∃l e,b.st=l++[⟨k,n,e⟩])∧0<b.pos:=by
 obtain⟨a,h1,h2⟩:=zc h
 obtain⟨c,h3,h4⟩:=zc h2
 have e1:=zue _ h3
 have e2:=zbgx h4
 subst e2
 refine⟨⟨_,_,rfl⟩,?_⟩
 rw[e1]
 show 0<a.pos+s.size
 omega
theorem zbgy {C:Cx} {k:Int} {q b:PS} (h:letJ C k q= .ok b):(∃l e,b.st=l++[⟨k,(zd C q.pos).text,e⟩])∧0<b.pos:=by
 obtain⟨a,h1,h2⟩:=zc h
 obtain⟨c,h3,h4⟩:=zc h2
 have:=zny h4 (by decide)
 rw[(zcv h1).1] at this
 exact this
theorem zbjp {C:Cx} {q b:PS} (h:fnI C q= .ok b):(∃l e,b.st=l++[⟨2,(zd C q.pos).text,e⟩])∧0<b.pos:=by
 obtain⟨a,h1,h2⟩:=zc h
 obtain⟨c,h3,h4⟩:=zc h2
 obtain⟨d,h5,h6⟩:=zc h4
 have:=zny h6 (by decide)
 rw[(zcv h1).1] at this
 exact this
theorem zph (C:Cx) (gt cap base gp:Nat) (S:Sv) (q:PS) (l:List Sm) (k e:Int) (n:ByteArray) (w:World) (h:IM C gt cap base gp S q w) (hx:q.st=l++[⟨k,n,e⟩]) (Y0:n.size≤281474976710656) (hp:0<q.pos):
  Calls Tryz.prog 240 #[.pointer (some ⟨gp,0,none⟩)] w (IOut C gt cap base gp (zv C ⟨1,n,n,sNone⟩ q) id (fun _=>.tuple #[]) S w):=ztf C gt cap base gp S q l ⟨k,n,e⟩ w h hx Y0 hp
def zbi (C:Cx) (q:PS):PR:=
 if isT C q.pos 4 zbo then bd (zcx C true (adv q) []) fun a=>zbn C a.2 a.1
 else if isT C q.pos 4 zbb then bd (tokP C 1 zbw (adv q)) fun a=>bd (zbl C a) fun b=>bd (tokP C 4 cSemi b.1) fun c=>zv C ⟨3,sNone,sNone,b.2⟩ c
 else if isT C q.pos 1 sDefault then bd (stmtI C 1 zee cSemi (adv q)) fun a=>zv C ⟨1,sDefault,zee,sNone⟩ a
 else if isT C q.pos 1 sLet then bd (letJ C 1 (adv q)) fun a=>zv C ⟨1,(zd C (q.pos+1)).text,(zd C (q.pos+1)).text,sNone⟩ a
 else if isT C q.pos 1 zr then bd (fnI C (adv q)) fun a=>zv C ⟨1,(zd C (q.pos+1)).text,(zd C (q.pos+1)).text,sNone⟩ a
 else .error (here C q.pos)
theorem zyu (C:Cx) (gt cap base gp:Nat) (S:Sv) (q:PS) (w:World) (h:IM C gt cap base gp S q w) (hC:zfj C) (h1:isT C q.pos 4 zbo=true):
  Calls Tryz.prog 190 #[.pointer (some ⟨gp,0,none⟩)] w (IOut C gt cap base gp (zbi C q) id (fun _=>.tuple #[]) S w):=by
 have HH:=hidI h
 have HY:Hid (zbi C q=bd (zcx C true (adv q) []) fun a=>zbn C a.2 a.1):=by show _=_;rw[zbi,h1];rfl
 clear h
 go_enter Tryz.func190,Tryz.ntmps190
 go_wp2_with f0
 refine (zm C gt cap base gp S q 4 zbo _ HH.out (by decide)).mono ?_
 rintro e w1 ⟨rfl,m,s⟩
 rw[h1] at m ⊢
 have F3:=hidI m
 have L3:=hidI s
 clear m s
 go_wp2_with f0
 refine (ztr C gt cap base gp S (adv q) _ F3.out).mono ?_
 cases hn3:zcx C true (adv q) [] with
 |error p=>
  rintro e w3 ⟨rfl,hb⟩
  have HB:Hid (Below base w w3):=(HH.out.back L3.out).trans hb
  have HX:Hid (zbi C q= .error p):=bdE HY.out hn3
  unfold Pan
  go_wp2
  refine⟨rfl,?_⟩
  rw[HX.out]
  exact⟨rfl,HB.out⟩
 |ok a3=>
  rintro e w3 ⟨r,S3,rfl,m,s,f,l0,l1⟩
  have U2:=hidI m
  have Z2:Hid (IS gp S w S3 w3):=L3.out.trans s
  have L8:=hidI f
  clear m s f
  have F7:=hidI (bdO HY.out hn3)
  go_wp2_with f0
  refine (zss C gt cap base gp _ r S S3 q a3.1 a3.2 w _ HH.out U2.out Z2.out hC l1 (by omega) L8.out L3.out.size).mono ?_
  cases o6:zbn C a3.2 a3.1 with
  |error p=>
   rintro e w4 ⟨rfl,hb⟩
   have HB:=hidI hb
   have HX:=hidI (F7.out.trans o6)
   unfold Pan
   go_wp2
   refine⟨rfl,?_⟩
   rw[HX.out]
   exact⟨rfl,HB.out⟩
  |ok a4=>
   rintro e w4 ⟨rfl,S4,m,s⟩
   have I3:=hidI m
   have V2:=hidI s
   clear m s
   have HX:=hidI (F7.out.trans o6)
   go_wp2
   go_end0
   rw[HX.out]
   exact⟨rfl,S4,I3.out,V2.out⟩
theorem zyv (C:Cx) (gt cap base gp:Nat) (S:Sv) (q:PS) (w:World) (h:IM C gt cap base gp S q w) (hC:zfj C) (h1:isT C q.pos 4 zbo=false) (h2:isT C q.pos 4 zbb=true):
  Calls Tryz.prog 190 #[.pointer (some ⟨gp,0,none⟩)] w (IOut C gt cap base gp (zbi C q) id (fun _=>.tuple #[]) S w):=by
 have HH:=hidI h
 have HY:Hid (zbi C q=bd (tokP C 1 zbw (adv q)) fun a=>bd (zbl C a) fun b=>bd (tokP C 4 cSemi b.1) fun c=>zv C ⟨3,sNone,sNone,b.2⟩ c):=by show _=_;rw[zbi,h1,h2];rfl
 clear h
 go_enter Tryz.func190,Tryz.ntmps190
 go_wp2_with f0
 refine (zm C gt cap base gp S q 4 zbo _ HH.out (by decide)).mono ?_
 rintro e w1 ⟨rfl,m,s⟩
 rw[h1] at m ⊢
 have F3:=hidI m
 have L3:=hidI s
 clear m s
 go_wp2_with f0
 refine (zm C gt cap base gp S q 4 zbb _ F3.out (by decide)).mono ?_
 rintro e w2 ⟨rfl,m,s⟩
 rw[h2] at m ⊢
 have W0:=hidI m
 have Q2:Hid (IS gp S w S w2):=L3.out.trans s
 clear m s
 go_wp2_with f0
 refine (zgu C gt cap base gp S (adv q) zbw _ W0.out).mono ?_
 cases hn3:tokP C 1 zbw (adv q) with
 |error p=>
  rintro e w3 ⟨rfl,hb⟩
  have HB:Hid (Below base w w3):=(HH.out.back Q2.out).trans hb
  have HX:Hid (zbi C q= .error p):=bdE HY.out hn3
  unfold Pan
  go_wp2
  refine⟨rfl,?_⟩
  rw[HX.out]
  exact⟨rfl,HB.out⟩
 |ok a3=>
  rintro e w3 ⟨rfl,S3,m,s⟩
  have U2:=hidI m
  have Z2:Hid (IS gp S w S3 w3):=Q2.out.trans s
  clear m s
  have F7:=hidI (bdO HY.out hn3)
  go_wp2_with f0
  refine (zkj C gt cap base gp S3 a3 _ U2.out hC).mono ?_
  cases o6:zbl C a3 with
  |error p=>
   rintro e w4 ⟨rfl,hb⟩
   have HB:Hid (Below base w w4):=(HH.out.back Z2.out).trans hb
   have HX:Hid (zbi C q= .error p):=bdE F7.out o6
   unfold Pan
   go_wp2
   refine⟨rfl,?_⟩
   rw[HX.out]
   exact⟨rfl,HB.out⟩
  |ok a4=>
   rintro e w4 ⟨rfl,S4,m,s⟩
   have I3:=hidI m
   have V2:Hid (IS gp S w S4 w4):=Z2.out.trans s
   clear m s
   have f8:=hidI (bdO F7.out o6)
   go_wp2_with f0
   refine (zep C gt cap base gp S4 a4.1 59 _ I3.out).mono ?_
   cases Y2:tokP C 4 cSemi a4.1 with
   |error p=>
    rintro e w5 ⟨rfl,hb⟩
    have HB:Hid (Below base w w5):=(HH.out.back V2.out).trans hb
    have HX:Hid (zbi C q= .error p):=bdE f8.out Y2
    unfold Pan
    go_wp2
    refine⟨rfl,?_⟩
    rw[HX.out]
    exact⟨rfl,HB.out⟩
   |ok a5=>
    rintro e w5 ⟨rfl,S5,m,s⟩
    have U4:=hidI m
    have I4:Hid (IS gp S w S5 w5):=V2.out.trans s
    clear m s
    have U5:=hidI (bdO f8.out Y2)
    have T6:0<a5.pos:=by rw[(zea Y2).1];exact Nat.succ_pos _
    go_wp2_with f0
    refine (zji C gt cap base gp S5 a5 ⟨3,sNone,sNone,a4.2⟩ _ U4.out T6).mono ?_
    cases hn6:zv C ⟨3,sNone,sNone,a4.2⟩ a5 with
    |error p=>
     rintro e w6 ⟨rfl,hb⟩
     have HB:Hid (Below base w w6):=(HH.out.back I4.out).trans hb
     have HX:Hid (zbi C q= .error p):=U5.out.trans hn6
     unfold Pan
     go_wp2
     refine⟨rfl,?_⟩
     rw[HX.out]
     exact⟨rfl,HB.out⟩
    |ok a6=>
     rintro e w6 ⟨rfl,S6,m,s⟩
     have Aa:=hidI m
     have ia:Hid (IS gp S w S6 w6):=I4.out.trans s
     clear m s
     have da:=hidI (U5.out.trans hn6)
     go_wp2
     go_end0
     rw[da.out]
     exact⟨rfl,S6,Aa.out,ia.out⟩
theorem zyw (C:Cx) (gt cap base gp:Nat) (S:Sv) (q:PS) (w:World) (h:IM C gt cap base gp S q w) (h1:isT C q.pos 4 zbo=false) (h2:isT C q.pos 4 zbb=false) (h3:isT C q.pos 1 sDefault=true):
  Calls Tryz.prog 190 #[.pointer (some ⟨gp,0,none⟩)] w (IOut C gt cap base gp (zbi C q) id (fun _=>.tuple #[]) S w):=by
 have HH:=hidI h
 have HY:Hid (zbi C q=bd (stmtI C 1 zee cSemi (adv q)) fun a=>zv C ⟨1,sDefault,zee,sNone⟩ a):=by show _=_;rw[zbi,h1,h2,h3];rfl
 clear h
 go_enter Tryz.func190,Tryz.ntmps190
 go_wp2_with f0
 refine (zm C gt cap base gp S q 4 zbo _ HH.out (by decide)).mono ?_
 rintro e w1 ⟨rfl,m,s⟩
 rw[h1] at m ⊢
 have F3:=hidI m
 have L3:=hidI s
 clear m s
 go_wp2_with f0
 refine (zm C gt cap base gp S q 4 zbb _ F3.out (by decide)).mono ?_
 rintro e w2 ⟨rfl,m,s⟩
 rw[h2] at m ⊢
 have W0:=hidI m
 have Q2:Hid (IS gp S w S w2):=L3.out.trans s
 clear m s
 go_wp2_with f0
 refine (zm C gt cap base gp S q 1 sDefault _ W0.out (by decide)).mono ?_
 rintro e w3 ⟨rfl,m,s⟩
 rw[h3] at m ⊢
 have U2:=hidI m
 have Z2:Hid (IS gp S w S w3):=Q2.out.trans s
 clear m s
 go_wp2_with f0
 refine (zfp C gt cap base gp S (adv q) 1 zee cSemi _ U2.out (by decide) (by decide)).mono ?_
 cases o6:stmtI C 1 zee cSemi (adv q) with
 |error p=>
  rintro e w4 ⟨rfl,hb⟩
  have HB:Hid (Below base w w4):=(HH.out.back Z2.out).trans hb
  have HX:Hid (zbi C q= .error p):=bdE HY.out o6
  unfold Pan
  go_wp2
  refine⟨rfl,?_⟩
  rw[HX.out]
  exact⟨rfl,HB.out⟩
 |ok a4=>
  rintro e w4 ⟨rfl,S4,m,s⟩
  have I3:=hidI m
  have V2:Hid (IS gp S w S4 w4):=Z2.out.trans s
  clear m s
  have f8:=hidI (bdO HY.out o6)
  have T6:=(zny o6 (by decide)).2
  go_wp2_with f0
  refine (zji C gt cap base gp S4 a4 ⟨1,sDefault,zee,sNone⟩ _ I3.out T6).mono ?_
  cases Y2:zv C ⟨1,sDefault,zee,sNone⟩ a4 with
  |error p=>
   rintro e w5 ⟨rfl,hb⟩
   have HB:Hid (Below base w w5):=(HH.out.back V2.out).trans hb
   have HX:Hid (zbi C q= .error p):=f8.out.trans Y2
   unfold Pan
   go_wp2
   refine⟨rfl,?_⟩
   rw[HX.out]
   exact⟨rfl,HB.out⟩
  |ok a5=>
   rintro e w5 ⟨rfl,S5,m,s⟩
   have U4:=hidI m
   have I4:Hid (IS gp S w S5 w5):=V2.out.trans s
   clear m s
   have U5:=hidI (f8.out.trans Y2)
   go_wp2
   go_end0
   rw[U5.out]
   exact⟨rfl,S5,U4.out,I4.out⟩
theorem zyx (C:Cx) (gt cap base gp:Nat) (S:Sv) (q:PS) (w:World) (h:IM C gt cap base gp S q w) (hC:zfj C) (h1:isT C q.pos 4 zbo=false) (h2:isT C q.pos 4 zbb=false) (h3:isT C q.pos 1 sDefault=false) (h4:isT C q.pos 1 sLet=true):
  Calls Tryz.prog 190 #[.pointer (some ⟨gp,0,none⟩)] w (IOut C gt cap base gp (zbi C q) id (fun _=>.tuple #[]) S w):=by
 have HH:=hidI h
 have HY:Hid (zbi C q=bd (letJ C 1 (adv q)) fun a=>zv C ⟨1,(zd C (q.pos+1)).text,(zd C (q.pos+1)).text,sNone⟩ a):=by show _=_;rw[zbi,h1,h2,h3,h4];rfl
 clear h
 go_enter Tryz.func190,Tryz.ntmps190
 go_wp2_with f0
 refine (zm C gt cap base gp S q 4 zbo _ HH.out (by decide)).mono ?_
 rintro e w1 ⟨rfl,m,s⟩
 rw[h1] at m ⊢
 have F3:=hidI m
 have L3:=hidI s
 clear m s
 go_wp2_with f0
 refine (zm C gt cap base gp S q 4 zbb _ F3.out (by decide)).mono ?_
 rintro e w2 ⟨rfl,m,s⟩
 rw[h2] at m ⊢
 have W0:=hidI m
 have Q2:Hid (IS gp S w S w2):=L3.out.trans s
 clear m s
 go_wp2_with f0
 refine (zm C gt cap base gp S q 1 sDefault _ W0.out (by decide)).mono ?_
 rintro e w3 ⟨rfl,m,s⟩
 rw[h3] at m ⊢
 have U2:=hidI m
 have Z2:Hid (IS gp S w S w3):=Q2.out.trans s
 clear m s
 go_wp2_with f0
 refine (zm C gt cap base gp S q 1 sLet _ U2.out (by decide)).mono ?_
 rintro e w4 ⟨rfl,m,s⟩
 rw[h4] at m ⊢
 have I3:=hidI m
 have V2:Hid (IS gp S w S w4):=Z2.out.trans s
 clear m s
 go_wp2_with f0
 refine (zmo C gt cap base gp S (adv q) _ I3.out).mono ?_
 cases Y2:letJ C 1 (adv q) with
 |error p=>
  rintro e w5 ⟨rfl,hb⟩
  have HB:Hid (Below base w w5):=(HH.out.back V2.out).trans hb
  have HX:Hid (zbi C q= .error p):=bdE HY.out Y2
  unfold Pan
  go_wp2
  refine⟨rfl,?_⟩
  rw[HX.out]
  exact⟨rfl,HB.out⟩
 |ok a5=>
  rintro e w5 ⟨rfl,S5,m,s⟩
  have U4:=hidI m
  have I4:Hid (IS gp S w S5 w5):=V2.out.trans s
  clear m s
  have U5:=hidI (bdO HY.out Y2)
  obtain⟨⟨l,e,wb⟩,T6⟩:=zbgy Y2
  have Lb:=hidI wb
  clear wb
  go_wp2_with f0
  refine (zph C gt cap base gp S5 a5 l _ _ (zd C (q.pos+1)).text _ U4.out Lb.out (hC _) T6).mono ?_
  cases hn6:zv C ⟨1,(zd C (q.pos+1)).text,(zd C (q.pos+1)).text,sNone⟩ a5 with
  |error p=>
   rintro e w6 ⟨rfl,hb⟩
   have HB:Hid (Below base w w6):=(HH.out.back I4.out).trans hb
   have HX:Hid (zbi C q= .error p):=U5.out.trans hn6
   unfold Pan
   go_wp2
   refine⟨rfl,?_⟩
   rw[HX.out]
   exact⟨rfl,HB.out⟩
  |ok a6=>
   rintro e w6 ⟨rfl,S6,m,s⟩
   have Aa:=hidI m
   have ia:Hid (IS gp S w S6 w6):=I4.out.trans s
   clear m s
   have da:=hidI (U5.out.trans hn6)
   go_wp2
   go_end0
   rw[da.out]
   exact⟨rfl,S6,Aa.out,ia.out⟩
theorem zyy (C:Cx) (gt cap base gp:Nat) (S:Sv) (q:PS) (w:World) (h:IM C gt cap base gp S q w) (hC:zfj C) (h1:isT C q.pos 4 zbo=false) (h2:isT C q.pos 4 zbb=false) (h3:isT C q.pos 1 sDefault=false) (h4:isT C q.pos 1 sLet=false) (h5:isT C q.pos 1 zr=true):
  Calls Tryz.prog 190 #[.pointer (some ⟨gp,0,none⟩)] w (IOut C gt cap base gp (zbi C q) id (fun _=>.tuple #[]) S w):=by
 have HH:=hidI h
 have HY:Hid (zbi C q=bd (fnI C (adv q)) fun a=>zv C ⟨1,(zd C (q.pos+1)).text,(zd C (q.pos+1)).text,sNone⟩ a):=by show _=_;rw[zbi,h1,h2,h3,h4,h5];rfl
 clear h
 go_enter Tryz.func190,Tryz.ntmps190
 go_wp2_with f0
 refine (zm C gt cap base gp S q 4 zbo _ HH.out (by decide)).mono ?_
 rintro e w1 ⟨rfl,m,s⟩
 rw[h1] at m ⊢
 have F3:=hidI m
 have L3:=hidI s
 clear m s
 go_wp2_with f0
 refine (zm C gt cap base gp S q 4 zbb _ F3.out (by decide)).mono ?_
 rintro e w2 ⟨rfl,m,s⟩
 rw[h2] at m ⊢
 have W0:=hidI m
 have Q2:Hid (IS gp S w S w2):=L3.out.trans s
 clear m s
 go_wp2_with f0
 refine (zm C gt cap base gp S q 1 sDefault _ W0.out (by decide)).mono ?_
 rintro e w3 ⟨rfl,m,s⟩
 rw[h3] at m ⊢
 have U2:=hidI m
 have Z2:Hid (IS gp S w S w3):=Q2.out.trans s
 clear m s
 go_wp2_with f0
 refine (zm C gt cap base gp S q 1 sLet _ U2.out (by decide)).mono ?_
 rintro e w4 ⟨rfl,m,s⟩
 rw[h4] at m ⊢
 have I3:=hidI m
 have V2:Hid (IS gp S w S w4):=Z2.out.trans s
 clear m s
 go_wp2_with f0
 refine (zm C gt cap base gp S q 1 zr _ I3.out (by decide)).mono ?_
 rintro e w5 ⟨rfl,m,s⟩
 rw[h5] at m ⊢
 have U4:=hidI m
 have I4:Hid (IS gp S w S w5):=V2.out.trans s
 clear m s
 go_wp2_with f0
 refine (zip C gt cap base gp S (adv q) _ U4.out).mono ?_
 cases hn6:fnI C (adv q) with
 |error p=>
  rintro e w6 ⟨rfl,hb⟩
  have HB:Hid (Below base w w6):=(HH.out.back I4.out).trans hb
  have HX:Hid (zbi C q= .error p):=bdE HY.out hn6
  unfold Pan
  go_wp2
  refine⟨rfl,?_⟩
  rw[HX.out]
  exact⟨rfl,HB.out⟩
 |ok a6=>
  rintro e w6 ⟨rfl,S6,m,s⟩
  have Aa:=hidI m
  have ia:Hid (IS gp S w S6 w6):=I4.out.trans s
  clear m s
  have da:=hidI (bdO HY.out hn6)
  obtain⟨⟨l,e,wb⟩,T6⟩:=zbjp hn6
  have Lb:=hidI wb
  clear wb
  go_wp2_with f0
  refine (zph C gt cap base gp S6 a6 l _ _ (zd C (q.pos+1)).text _ Aa.out Lb.out (hC _) T6).mono ?_
  cases hn7:zv C ⟨1,(zd C (q.pos+1)).text,(zd C (q.pos+1)).text,sNone⟩ a6 with
  |error p=>
   rintro e w7 ⟨rfl,hb⟩
   have HB:Hid (Below base w w7):=(HH.out.back ia.out).trans hb
   have HX:Hid (zbi C q= .error p):=da.out.trans hn7
   unfold Pan
   go_wp2
   refine⟨rfl,?_⟩
   rw[HX.out]
   exact⟨rfl,HB.out⟩
  |ok a7=>
   rintro e w7 ⟨rfl,S7,m,s⟩
   have HM7:=hidI m
   have HS7:Hid (IS gp S w S7 w7):=ia.out.trans s
   clear m s
   have HY7:=hidI (da.out.trans hn7)
   go_wp2
   go_end0
   rw[HY7.out]
   exact⟨rfl,S7,HM7.out,HS7.out⟩
theorem zyz (C:Cx) (gt cap base gp:Nat) (S:Sv) (q:PS) (w:World) (h:IM C gt cap base gp S q w) (h1:isT C q.pos 4 zbo=false) (h2:isT C q.pos 4 zbb=false) (h3:isT C q.pos 1 sDefault=false) (h4:isT C q.pos 1 sLet=false) (h5:isT C q.pos 1 zr=false):
  Calls Tryz.prog 190 #[.pointer (some ⟨gp,0,none⟩)] w (IOut C gt cap base gp (zbi C q) id (fun _=>.tuple #[]) S w):=by
 have HH:=hidI h
 have HY:Hid (zbi C q= .error (here C q.pos)):=by show _=_;rw[zbi,h1,h2,h3,h4,h5];rfl
 clear h
 go_enter Tryz.func190,Tryz.ntmps190
 go_wp2_with f0
 refine (zm C gt cap base gp S q 4 zbo _ HH.out (by decide)).mono ?_
 rintro e w1 ⟨rfl,m,s⟩
 rw[h1] at m ⊢
 have F3:=hidI m
 have L3:=hidI s
 clear m s
 go_wp2_with f0
 refine (zm C gt cap base gp S q 4 zbb _ F3.out (by decide)).mono ?_
 rintro e w2 ⟨rfl,m,s⟩
 rw[h2] at m ⊢
 have W0:=hidI m
 have Q2:Hid (IS gp S w S w2):=L3.out.trans s
 clear m s
 go_wp2_with f0
 refine (zm C gt cap base gp S q 1 sDefault _ W0.out (by decide)).mono ?_
 rintro e w3 ⟨rfl,m,s⟩
 rw[h3] at m ⊢
 have U2:=hidI m
 have Z2:Hid (IS gp S w S w3):=Q2.out.trans s
 clear m s
 go_wp2_with f0
 refine (zm C gt cap base gp S q 1 sLet _ U2.out (by decide)).mono ?_
 rintro e w4 ⟨rfl,m,s⟩
 rw[h4] at m ⊢
 have I3:=hidI m
 have V2:Hid (IS gp S w S w4):=Z2.out.trans s
 clear m s
 go_wp2_with f0
 refine (zm C gt cap base gp S q 1 zr _ I3.out (by decide)).mono ?_
 rintro e w5 ⟨rfl,m,s⟩
 rw[h5] at m ⊢
 have U4:=hidI m
 have I4:Hid (IS gp S w S w5):=V2.out.trans s
 clear m s
 go_wp2_with f0
 refine (zhx C gt cap base gp S q _ U4.out).mono ?_
 rintro e wz ⟨rfl,hb⟩
 have HB:Hid (Below base w wz):=(HH.out.back I4.out).trans (hb.mono U4.out.mem.base)
 have HX:Hid (zbi C q= .error (here C q.pos)):=HY.out
 unfold Pan
 go_wp2
 refine⟨rfl,?_⟩
 rw[HX.out]
 exact⟨rfl,HB.out⟩
theorem zts (C:Cx) (gt cap base gp:Nat) (S:Sv) (q:PS) (w:World) (h:IM C gt cap base gp S q w) (hC:zfj C):
  Calls Tryz.prog 190 #[.pointer (some ⟨gp,0,none⟩)] w (IOut C gt cap base gp (zbi C q) id (fun _=>.tuple #[]) S w):=by
 cases h1:isT C q.pos 4 zbo with
 |true=>exact zyu C gt cap base gp S q w h hC h1
 |false=>
  cases h2:isT C q.pos 4 zbb with
  |true=>exact zyv C gt cap base gp S q w h hC h1 h2
  |false=>
   cases h3:isT C q.pos 1 sDefault with
   |true=>exact zyw C gt cap base gp S q w h h1 h2 h3
   |false=>
    cases h4:isT C q.pos 1 sLet with
    |true=>exact zyx C gt cap base gp S q w h hC h1 h2 h3 h4
    |false=>
     cases h5:isT C q.pos 1 zr with
     |true=>exact zyy C gt cap base gp S q w h hC h1 h2 h3 h4 h5
     |false=>exact zyz C gt cap base gp S q w h h1 h2 h3 h4 h5
end Go.Proofs.YtmnemfookpjhiaaGreat
