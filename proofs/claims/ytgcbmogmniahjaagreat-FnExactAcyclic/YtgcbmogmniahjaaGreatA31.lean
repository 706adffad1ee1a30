/- Facts and walks that the theorem stands on. -/
import Derived.Test.YtgcbmogmniahjaaGreatA30
namespace Go.Proofs.YtgcbmogmniahjaaGreat
open Go.Proofs.Tryz
set_option maxRecDepth 100000
set_option maxHeartbeats 3200000
open Go.RowKit Go.PlainAid Go.Sort
theorem zt8 {C:Cx} {q:PS} {a:PS×BA} (w:zm C true q= .ok a) (h:isT C a.1.pos 1 sAs=true):zb9 C true q=bd (zm C true (adv a.1)) fun b=>.ok (b.1,⟨0,b.2,a.2,sNone⟩):=by
 rw[zb9,w,zA,asP,if_pos h]
theorem zt9 {C:Cx} {q:PS} {a:PS×BA} (w:zm C true q= .ok a) (h:isT C a.1.pos 1 sAs=false):zb9 C true q= .ok (a.1,⟨0,a.2,a.2,sNone⟩):=by
 rw[zb9,w,zA,asP,if_neg (by rw[h];decide),if_neg (by simp)];rfl
theorem ztA (C:Cx) (L z base A:Nat) (S:Sv) (q:PS) (w:World) (h:IM C L z base A S q w):
  Calls prog 233 #[.pointer (some ⟨A,0,none⟩)] w (zlT C L z base A 97 4 (fun e=>epL (zD e)) (za4 C true q []) S w):=by
 obtain⟨i0,hi,ao,ax,av⟩:=info_parts Tryz.infoExp;have HH:=h;clear h;go_enter func233,ntmps233;go_wp2;go_loopg [3] (C.ts.length+1) (fun k v wr=>∃(S':Sv) (q':PS) (r:Rw) (l:List Ep),v= .slice r.a l.length r.cap/\za4 C true q []=za4 C true q' l/\C.ts.length-q'.pos<k/\l.length+(C.ts.length-q'.pos)<=C.ts.length/\IM C L z base A S' q' wr/\IS A S w S' wr/\Fr 97 4 wr w.heap.size r l.length (l.flatMap (fun e=>epL (zD e))) S')
 case atStart=>exact⟨S,q,⟨some ⟨w.heap.size,0,none⟩,0⟩,[],rfl,rfl,by omega,by simp,HH.alloc _,(IS.refl _ _ _).alloc _,zlU HH _ _⟩
 case round=>
  obtain⟨S',q',r,l,rfl,hy,hk,hl,m',s',f'⟩:=hrel;have az:Hid (za4 C true q []=za4 C true q' l):=hy;have HY:=zc (az.o.trans (zk6 C true q' l));have ar:=m';have aw:=s';have aH:Hid (Fr 97 4 wr w.heap.size r l.length (l.flatMap (fun e=>epL (zD e))) S'):=f';have aI:=m'.mem.few;clear hy m' s' f';go_wp2_with fail;refine (zfz C L z base A S' q' _ ar).mono ?_;cases al:zm C true q' with
  |error p=>
   rintro e w1 ⟨rfl,hb⟩;have HB:=(HH.back aw).trans hb;have HX:Hid (za4 C true q []= .error p):=by show _=_;rw[HY.o,zb9,al];rfl
   unfold Pan;go_wp2;refine⟨rfl,?_⟩;rw[HX.o];exact⟨rfl,HB⟩
  |ok a=>
   rintro e w1 ⟨rfl,H,m,s⟩;have ak:=m;have am:=aw.trans s;have an:Hid (Fr 97 4 w1 w.heap.size r l.length (l.flatMap (fun e=>epL (zD e))) H):=aH.o.step ar (by decide) s;clear m s;cases aj:isT C a.1.pos 1 sAs with
   |true=>
    have HW:=zc (zt8 al aj);go_wp2_with fail;refine (zO C L z base A H a.1 1 sAs _ ak (by decide)).mono ?_;rintro e w2 ⟨rfl,m,s⟩;rw[aj] at m ⊢;have U:Hid (IM C L z base A H (adv a.1) w2):=m;have ae:Hid (IS A S w H w2):=am.trans s;have V:Hid (Fr 97 4 w2 w.heap.size r l.length (l.flatMap (fun e=>epL (zD e))) H):=an.o.step ak (by decide) s;clear m s;go_wp2_with fail;refine (zfz C L z base A H (adv a.1) _ U.o).mono ?_;cases ap:zm C true (adv a.1) with
    |error p=>
     rintro e w3 ⟨rfl,hb⟩;have HB:=(HH.back ae.o).trans hb;have HX:Hid (za4 C true q []= .error p):=by show _=_;rw[HY.o,HW.o,ap];rfl
     unfold Pan;go_wp2;refine⟨rfl,?_⟩;rw[HX.o];exact⟨rfl,HB⟩
    |ok c=>
     rintro e w3 ⟨rfl,S3,m,s⟩;have K:Hid (IM C L z base A S3 c.1 w3):=m;have af:Hid (IS A S w S3 w3):=ae.o.trans s;have N:Hid (Fr 97 4 w3 w.heap.size r l.length (l.flatMap (fun e=>epL (zD e))) S3):=V.o.step U.o (by decide) s;clear m s;have I:=zc (bdO HW.o ap);have HE:=zc (bdO HY.o I.o);have aG:=ziv I.o;have ay:=K.o.mem.inv.pos;have O:=fun o1=>(N.o.later ((Below.refl w3.heap.size w3).alloc (Nat.le_refl _) o1)).1;have ad:=fun o1=>(af.o.alloc o1).size;go_wp2_with (at_builtin;refine zbb _ rfl _ _ 50 rfl w.heap.size 97 i0 _ 4 56 underlying50 hi ao ax av rfl (by decide) (by decide) r l.length _ (by rfl) (O _) w3.heap.size (epL (zD (⟨0,c.2,a.2,sNone⟩:Ep))) (by rfl) (by exact heap_alloc_new w3 _) rfl (zgr _) (by omega) (ad _) ?_;intro X w4 hr Z ah;have M:Hid (IM C L z base A S3 c.1 w4):=(K.o.alloc _).aside Z (fun k g=>⟨N.o.2 k g,N.o.ngp K.o (by decide) g,N.o.ngt K.o (by decide) g⟩);have Y:Hid (IS A S w S3 w4):=(af.o.alloc _).aside Z (fun k g=>(N.o.1.typed g).1);have ai:Hid (Fr 97 4 w4 w.heap.size X (l.length+1) _ S3):=(N.o.later ((Below.refl _ _).alloc (Nat.le_refl _) _)).grown (K.o.alloc _) hr ah;clear hr Z ah O ad);have el:(l++[(⟨0,c.2,a.2,sNone⟩:Ep)]).length=l.length+1:=by simp
     have ac:Hid (Fr 97 4 w4 w.heap.size X (l++[(⟨0,c.2,a.2,sNone⟩:Ep)]).length ((l++[(⟨0,c.2,a.2,sNone⟩:Ep)]).flatMap (fun e=>epL (zD e))) S3):=by
      show Fr ..;rw[el,List.flatMap_append]
      simpa using ai.o
     have J:Hid ((l++[(⟨0,c.2,a.2,sNone⟩:Ep)]).length=l.length+1):=el;clear el ai;go_wp2_with fail;cases hc:isT C c.1.pos 4 zbF with
     |true=>
      have aB:=za9 hc (by decide);have HC:=zc (HE.o.trans (if_pos hc));refine (zO C L z base A S3 (c.1) 4 zbF _ M.o (by decide)).mono ?_;rintro e w5 ⟨rfl,m,s⟩;rw[hc] at m ⊢;have aa:=m;have ab:=Y.o.trans s;have ag:Hid (Fr 97 4 w5 w.heap.size X (l++[(⟨0,c.2,a.2,sNone⟩:Ep)]).length ((l++[(⟨0,c.2,a.2,sNone⟩:Ep)]).flatMap (fun e=>epL (zD e))) S3):=ac.o.step M.o (by decide) s;clear m s;go_wp2;go_roundg (gk-1)
      case rel=>exact⟨S3,adv c.1,X,(l++[(⟨0,c.2,a.2,sNone⟩:Ep)]),by rw[J.o],HC.o,by rw[zz];omega,by rw[zz,J.o];omega,aa,ab,ag.o⟩
      case measure=>omega
     |false=>
      have HC:=zc (HE.o.trans (if_neg (by rw[hc];decide)));refine (zO C L z base A S3 (c.1) 4 zbF _ M.o (by decide)).mono ?_;rintro e w5 ⟨rfl,m,s⟩;rw[hc] at m ⊢;have aa:=m;have ab:=Y.o.trans s;have ag:Hid (Fr 97 4 w5 w.heap.size X (l++[(⟨0,c.2,a.2,sNone⟩:Ep)]).length ((l++[(⟨0,c.2,a.2,sNone⟩:Ep)]).flatMap (fun e=>epL (zD e))) S3):=ac.o.step M.o (by decide) s;clear m s;go_wp2_with fail;refine (zc3 C L z base A S3 c.1 125 _ aa).mono ?_;cases au:zd C 4 zb1 c.1 with
      |error p=>
       rintro e w6 ⟨rfl,hb⟩;have HB:=(HH.back ab).trans hb;have HX:Hid (za4 C true q []= .error p):=bdE HC.o au;unfold Pan;go_wp2;refine⟨rfl,?_⟩;rw[HX.o];exact⟨rfl,HB⟩
      |ok a6=>
       rintro e w6 ⟨rfl,S6,m,s⟩;have aF:Hid (Fr 97 4 w6 w.heap.size X (l++[(⟨0,c.2,a.2,sNone⟩:Ep)]).length ((l++[(⟨0,c.2,a.2,sNone⟩:Ep)]).flatMap (fun e=>epL (zD e))) S6):=ag.o.step aa (by decide) s;have aE:=m;have aD:=ab.trans s;clear m s;have aA:=zc (bdO HC.o au);go_wp2;go_ret;rw[aA.o];exact⟨X,S6,by rw[J.o];rfl,aE,aD,aF.o,by show 0<(l++[(⟨0,c.2,a.2,sNone⟩:Ep)]).length;rw[J.o];omega,by show (l++[(⟨0,c.2,a.2,sNone⟩:Ep)]).length<=4000;rw[J.o];omega⟩
   |false=>
    have I:=zc (zt9 al aj);have HE:=zc (bdO HY.o I.o);go_wp2_with fail;refine (zO C L z base A H a.1 1 sAs _ ak (by decide)).mono ?_;rintro e w2 ⟨rfl,m,s⟩;rw[aj] at m ⊢;have U:Hid (IM C L z base A H a.1 w2):=m;have ae:Hid (IS A S w H w2):=am.trans s;have V:Hid (Fr 97 4 w2 w.heap.size r l.length (l.flatMap (fun e=>epL (zD e))) H):=an.o.step ak (by decide) s;clear m s;have aG:=ziv I.o;have ay:=U.o.mem.inv.pos;have O:=fun o1=>(V.o.later ((Below.refl w2.heap.size w2).alloc (Nat.le_refl _) o1)).1;have ad:=fun o1=>(ae.o.alloc o1).size;go_wp2_with (at_builtin;refine zbb _ rfl _ _ 50 rfl w.heap.size 97 i0 _ 4 56 underlying50 hi ao ax av rfl (by decide) (by decide) r l.length _ (by rfl) (O _) w2.heap.size (epL (zD (⟨0,a.2,a.2,sNone⟩:Ep))) (by rfl) (by exact heap_alloc_new w2 _) rfl (zgr _) (by omega) (ad _) ?_;intro X w3 hr Z ah;have K:Hid (IM C L z base A H a.1 w3):=(U.o.alloc _).aside Z (fun k g=>⟨V.o.2 k g,V.o.ngp U.o (by decide) g,V.o.ngt U.o (by decide) g⟩);have af:Hid (IS A S w H w3):=(ae.o.alloc _).aside Z (fun k g=>(V.o.1.typed g).1);have ai:Hid (Fr 97 4 w3 w.heap.size X (l.length+1) _ H):=(V.o.later ((Below.refl _ _).alloc (Nat.le_refl _) _)).grown (U.o.alloc _) hr ah;clear hr Z ah O ad);have el:(l++[(⟨0,a.2,a.2,sNone⟩:Ep)]).length=l.length+1:=by simp
    have N:Hid (Fr 97 4 w3 w.heap.size X (l++[(⟨0,a.2,a.2,sNone⟩:Ep)]).length ((l++[(⟨0,a.2,a.2,sNone⟩:Ep)]).flatMap (fun e=>epL (zD e))) H):=by
     show Fr ..;rw[el,List.flatMap_append]
     simpa using ai.o
    have J:Hid ((l++[(⟨0,a.2,a.2,sNone⟩:Ep)]).length=l.length+1):=el;clear el ai;go_wp2_with fail;cases hc:isT C a.1.pos 4 zbF with
    |true=>
     have aB:=za9 hc (by decide);have HC:=zc (HE.o.trans (if_pos hc));refine (zO C L z base A H (a.1) 4 zbF _ K.o (by decide)).mono ?_;rintro e w4 ⟨rfl,m,s⟩;rw[hc] at m ⊢;have M:Hid (IM C L z base A H (adv (a.1)) w4):=m;have Y:Hid (IS A S w H w4):=af.o.trans s;have ac:Hid (Fr 97 4 w4 w.heap.size X (l++[(⟨0,a.2,a.2,sNone⟩:Ep)]).length ((l++[(⟨0,a.2,a.2,sNone⟩:Ep)]).flatMap (fun e=>epL (zD e))) H):=N.o.step K.o (by decide) s;clear m s;go_wp2;go_roundg (gk-1)
     case rel=>exact⟨H,adv a.1,X,(l++[(⟨0,a.2,a.2,sNone⟩:Ep)]),by rw[J.o],HC.o,by rw[zz];omega,by rw[zz,J.o];omega,M.o,Y.o,ac.o⟩
     case measure=>omega
    |false=>
     have HC:=zc (HE.o.trans (if_neg (by rw[hc];decide)));refine (zO C L z base A H (a.1) 4 zbF _ K.o (by decide)).mono ?_;rintro e w4 ⟨rfl,m,s⟩;rw[hc] at m ⊢;have M:Hid (IM C L z base A H (a.1) w4):=m;have Y:Hid (IS A S w H w4):=af.o.trans s;have ac:Hid (Fr 97 4 w4 w.heap.size X (l++[(⟨0,a.2,a.2,sNone⟩:Ep)]).length ((l++[(⟨0,a.2,a.2,sNone⟩:Ep)]).flatMap (fun e=>epL (zD e))) H):=N.o.step K.o (by decide) s;clear m s;go_wp2_with fail;refine (zc3 C L z base A H a.1 125 _ M.o).mono ?_;cases aq:zd C 4 zb1 a.1 with
     |error p=>
      rintro e w5 ⟨rfl,hb⟩;have HB:=(HH.back Y.o).trans hb;have HX:Hid (za4 C true q []= .error p):=bdE HC.o aq;unfold Pan;go_wp2;refine⟨rfl,?_⟩;rw[HX.o];exact⟨rfl,HB⟩
     |ok a5=>
      rintro e w5 ⟨rfl,S5,m,s⟩;have ag:Hid (Fr 97 4 w5 w.heap.size X (l++[(⟨0,a.2,a.2,sNone⟩:Ep)]).length ((l++[(⟨0,a.2,a.2,sNone⟩:Ep)]).flatMap (fun e=>epL (zD e))) S5):=ac.o.step M.o (by decide) s;have aa:=m;have ab:=Y.o.trans s;clear m s;have aC:=zc (bdO HC.o aq);go_wp2;go_ret;rw[aC.o];exact⟨X,S5,by rw[J.o];rfl,aa,ab,ag.o,by show 0<(l++[(⟨0,a.2,a.2,sNone⟩:Ep)]).length;rw[J.o];omega,by show (l++[(⟨0,a.2,a.2,sNone⟩:Ep)]).length<=4000;rw[J.o];omega⟩
end Go.Proofs.YtgcbmogmniahjaaGreat
namespace Go.Proofs.YtgcbmogmniahjaaGreat
open Go.Proofs.Tryz
set_option maxRecDepth 100000
set_option maxHeartbeats 3200000
open Go.RowKit Go.PlainAid Go.Sort
theorem zlX {α:Type} (f:α->List Value) (m:Nat) (q: ∀x,(f x).length=m): ∀(l:List α) (j i:Nat) (x y:α) (v:Value),l[j]? =some x->i<m->f y=(f x).set i v->(l.flatMap f).set (j*m+i) v=(l.set j y).flatMap f:=by
 intro l
 induction l with
 |nil=>intro j i x y v h;simp at h
 |cons z l H=>
  intro j i x y v h w A
  match j with
  |0=>
   simp only[List.getElem?_cons_zero,Option.some.injEq] at h;subst h;rw[List.flatMap_cons,Nat.zero_mul,Nat.zero_add,List.set_append_left _ _ (by rw[q];exact w),List.set_cons_zero,List.flatMap_cons,A]
  |j+1=>
   simp only[List.getElem?_cons_succ] at h;rw[List.flatMap_cons,List.set_append_right _ _ (by rw[q,Nat.succ_mul];omega),q,List.set_cons_succ,List.flatMap_cons,<-H j i x y v h w A];congr 2;rw[Nat.succ_mul];omega
def mxE (s:BA) (l:List Ep) (j:Nat):List Ep:=(l.take j).map (zav s)++(l.drop j).map zD
theorem zlY (s:BA) (l:List Ep) (j:Nat):(mxE s l j).length=l.length:=by simp[mxE];omega
theorem zlZ {s:BA} {l:List Ep} {j:Nat} {x:Ep} (h:l[j]? =some x):(mxE s l j)[j]? =some (zD x):=by
 obtain⟨w,rfl⟩:=List.getElem?_eq_some_iff.1 h;have q:((l.take j).map (zav s)).length=j:=by simp;omega
 rw[mxE,List.getElem?_append_right (by omega),q,Nat.sub_self,List.drop_eq_getElem_cons w];rfl
theorem ztB {s:BA} {l:List Ep} {j:Nat} {x:Ep} (h:l[j]? =some x):(mxE s l j).set j (zav s x)=mxE s l (j+1):=by
 obtain⟨q,rfl⟩:=List.getElem?_eq_some_iff.1 h;have w:((l.take j).map (zav s)).length=j:=by simp;omega
 rw[mxE,List.set_append_right _ _ (by omega),w,Nat.sub_self,List.drop_eq_getElem_cons q,List.map_cons,List.set_cons_zero,mxE,List.take_succ_eq_append_getElem q,List.map_append,List.append_assoc];rfl
theorem ztC (s:BA) (l:List Ep):mxE s l 0=l.map zD:=by simp[mxE]
theorem ztD (s:BA) (l:List Ep):mxE s l l.length=l.map (zav s):=by simp[mxE]
theorem ztE (x:Ep) (w:World):
  Calls prog 249 #[epV x] w fun e w'=>e= .returned (.bool (x.loc.toList==[100,101,102,97,117,108,116]))/\Below w.heap.size w w':=by
 unfold epV;cases h:(x.loc.toList==[100,101,102,97,117,108,116]) with
 |true=>
  go_enter func249,ntmps249;go_wp2;go_ret;exact⟨rfl,(Below.refl _ _).alloc (Nat.le_refl _) _⟩
 |false=>
  go_enter func249,ntmps249;go_wp2;go_ret;exact⟨rfl,(Below.refl _ _).alloc (Nat.le_refl _) _⟩
theorem ztF {l:List Ep} {j:Nat} {x:Ep} (h:l[j]? =some x):zaH (l.drop j)=((x.loc.toList==[100,101,102,97,117,108,116])||zaH (l.drop (j+1))):=by
 obtain⟨q,rfl⟩:=List.getElem?_eq_some_iff.1 h;rw[List.drop_eq_getElem_cons q];simp only[zaH,List.any_cons]
theorem ztG (base g:Nat) (r:Rw) (l:List Ep) (w:World) (h:OwnR w base 97 4 r l.length (l.flatMap fun e=>epL (zD e))) (hl:l.length<=4000) (Z:r.a=some ⟨g,0,none⟩):
  Calls prog 255 #[.slice (some ⟨g,0,none⟩) l.length r.cap,.func (.func 249) #[] #[]] w fun e w'=>(∃v:Int,e= .returned (.int .i64 v)/\decide (0<=v)=zaH l)/\Below w.heap.size w w':=by
 have HO:=zc h;have O:=zc Z;clear h Z;go_enter func255,ntmps255;go_wp2;go_loopg [8] (l.length+1) (fun k i wr=>∃j:Nat,i= .int .i64 j/\j+k=l.length+1/\zaH (l.drop j)=zaH l/\Below w.heap.size w wr)
 case atStart=>exact⟨0,rfl,by omega,by simp,Below.refl _ _⟩
 case round=>
  obtain⟨j,rfl,hj,he,L⟩:=hrel;have V:=zc he;clear he;by_cases M:j<l.length
  ·have J:(j:Int)<(l.length:Int):=by omega
   obtain⟨x,U⟩:=zfP M;have N:=zc (HO.o.keep fun k g=>L.block k (HO.o.typed g).2.1);obtain⟨g',A,q⟩:=OwnR.elem (f:=fun e=>epL (zD e)) (m:=4) (fun _=>rfl) N.o U;have eg:g'=g:=by have:=A.symm.trans O.o;simpa using this
   subst eg;have k0:=q 0 (by omega);have k1:=q 1 (by omega);have k2:=q 2 (by omega);have k3:=q 3 (by omega);simp only[epL,zD,Nat.add_zero,List.getElem?_cons_zero,List.getElem?_cons_succ] at k0 k1 k2 k3;have HS:=ztF U;clear q A U;obtain⟨K,z⟩: ∃K,K=j+1:=⟨_,rfl⟩;have ej:(j:Int)+1=(K:Int):=by omega
   have Y:=zc z;clear z;go_wp2_with fail;refine (ztE (zD x) _).mono ?_;rintro e w1 ⟨rfl,I⟩;have H:=L.trans (I.mono L.size);clear I;rw[show (zD x).loc=x.loc from rfl];cases X:(x.loc.toList==[100,101,102,97,117,108,116]) with
   |true=>
    go_wp2;go_ret;refine⟨⟨_,rfl,?_⟩,H⟩;rw[<-V.o,HS,X];simp
   |false=>
    go_wp2;go_roundg (gk-1)
    case rel=>
     refine⟨K,rfl,by have:=Y.o;omega,?_,H⟩;rw[<-V.o,HS,X,Y.o];simp
    case measure=>omega
  ·have J: ¬(j:Int)<(l.length:Int):=by omega
   go_wp2;go_ret;refine⟨⟨_,rfl,?_⟩,L⟩;rw[<-V.o,List.drop_eq_nil_of_le (by omega)];rfl
theorem zma (base g:Nat) (r:Rw) (l:List Ep) (w:World) (h:OwnR w base 97 4 r l.length (l.flatMap fun e=>epL (zD e))) (I:l.length<=4000) (A:r.a=some ⟨g,0,none⟩):
  Calls prog 250 #[.slice (some ⟨g,0,none⟩) l.length r.cap,.func (.func 249) #[] #[]] w fun e w'=>e= .returned (.bool (zaH l))/\Below w.heap.size w w':=by
 have H:=zc h;have q:=zc A;clear h A;go_enter func250,ntmps250;go_wp2_with fail;refine (ztG base g r l _ H.o I q.o).mono ?_;rintro e L ⟨⟨v,rfl,z⟩,J⟩;have K:=zc z;clear z;go_wp2;go_ret;exact⟨zi K.o,J⟩
def zaE (C:Cx) (l:List Ep) (q:PS):PR:=
 if isT C q.pos 1 zW||zaH l then bd (zd C 1 zW q) fun a=>bd (zL C a) fun b=>bd (zd C 4 cSemi b.1) fun c=>zZ (fun e=>zq C (zav b.2 e)) l (.ok c)
 else bd (zd C 4 cSemi q) fun c=>zZ (fun e=>zq C (zD e)) l (.ok c)
theorem zmb (X:Ep->Ep) (l:List Ep):(l.map X).flatMap epL=l.flatMap fun e=>epL (X e):=by rw[List.flatMap_map]
theorem ztH (C:Cx) (O z base H b0 g:Nat) (r:Rw) (S K:Sv) (q0 q:PS) (l:List Ep) (w wc:World) (hh:IM C O z base H S q0 w) (h:IM C O z base H K q wc) (h0:IS H S w K wc) (hl:l.length<=4000) (hf:Fr 97 4 wc b0 r l.length (l.flatMap (fun e=>epL (zD e))) K) (hg:r.a=some ⟨g,0,none⟩) (hi:isT C q.pos 1 zW=false) (ha:zaH l=false):
  Calls prog 232 #[.pointer (some ⟨H,0,none⟩),.slice (some ⟨g,0,none⟩) l.length r.cap] wc (zU C O z base H (zaE C l q) id (fun _=>.tuple #[]) S w):=by
 have HF:=zc hf;have HG:=zc hg;have HY:Hid (zaE C l q=bd (zd C 4 cSemi q) fun c=>zZ (fun e=>zq C (zD e)) l (.ok c)):=by show _=_;rw[zaE,hi,ha];rfl
 clear hf hg;go_enter func232,ntmps232;go_wp2_with fail;refine (zcr C O z base H K q 1 zW _ h).mono ?_;rintro e w1 ⟨rfl,A⟩;rw[hi];have au:=h.later A;have ak:=(h0.trans (IS.below A));have af:IS H K wc K w1:=IS.below A;clear A;have ag:Hid (Fr 97 4 w1 b0 r l.length (l.flatMap (fun e=>epL (zD e))) K):=HF.o.step h (by decide) af;clear af;go_wp2_with fail;refine (zma b0 g r l _ ag.o.1 hl HG.o).mono ?_;rintro e w2 ⟨rfl,A⟩;rw[ha];have ao:Hid (Fr 97 4 w2 b0 r l.length (l.flatMap (fun e=>epL (zD e))) K):=ag.o.later A;have Y:=au.later A;have ab:=(ak.trans (IS.below A));clear A;go_wp2_with fail;refine (zc3 C O z base H K q 59 _ Y).mono ?_;cases N:zd C 4 cSemi q with
 |error p=>
  rintro e w3 ⟨rfl,A⟩;have HB:=(hh.back ab).trans A;have HX:Hid (zaE C l q= .error p):=bdE HY.o N;unfold Pan;go_wp2;refine⟨rfl,?_⟩;rw[HX.o];exact⟨rfl,HB⟩
 |ok a3=>
  rintro e w3 ⟨rfl,S3,al,s⟩;have ap:Hid (Fr 97 4 w3 b0 r l.length (l.flatMap (fun e=>epL (zD e))) S3):=ao.o.step Y (by decide) s;have aq:=ab.trans s;clear s;have am:=zc (bdO HY.o N);have ac:0<a3.pos:=by rw[(zbV N).1];exact Nat.succ_pos _
  go_wp2;go_loopg [39] l.length (fun k i wr=>∃(j:Nat) (U:Sv) (L:PS),i= .int .i64 j/\j+k=l.length/\zaE C l q=zZ (fun e=>zq C (zD e)) (l.drop j) (.ok L)/\0<L.pos/\IM C O z base H U L wr/\IS H S w U wr/\Fr 97 4 wr b0 r l.length (l.flatMap fun e=>epL (zD e)) U)
  case atStart=>exact⟨0,S3,a3,rfl,by omega,am.o,ac,al,aq,ap.o⟩
  case round=>
   obtain⟨j,U,L,rfl,hj,hy,aa,m',s',f'⟩:=hrel;have ad:=zc hy;have J:=m';have V:=s';have ae:Hid (Fr 97 4 wr b0 r l.length (l.flatMap fun e=>epL (zD e)) U):=f';clear hy m' s' f';by_cases ai:j<l.length
   ·have ah:(j:Int)<(l.length:Int):=by omega
    obtain⟨x,hx⟩:=zfP ai;obtain⟨g',Z,I⟩:=OwnR.elem (f:=fun e=>epL (zD e)) (m:=4) (fun _=>rfl) ae.o.1 hx;have eg:g'=g:=by have:=Z.symm.trans HG.o;simpa using this
    subst eg;have k0:=I 0 (by omega);have k1:=I 1 (by omega);have k2:=I 2 (by omega);have k3:=I 3 (by omega);simp only[epL,zD,Nat.add_zero,List.getElem?_cons_zero,List.getElem?_cons_succ] at k0 k1 k2 k3;have HZ:=zc (ad.o.trans (ziw (fun e=>zq C (zD e)) hx L));clear I Z hx;obtain⟨X,M⟩: ∃X,X=j+1:=⟨_,rfl⟩;have ej:(j:Int)+1=(X:Int):=by omega
    rw[<-M] at HZ;have ax:=J.lt;have HJ:=zc M;clear M;go_wp2_with fail;refine (zf3 C O z base H U L (zD x) _ (J.alloc _) aa).mono ?_;cases hn:zq C (zD x) L with
    |error p=>
     rintro e wy ⟨rfl,A⟩;have HB:Below base w wy:=(hh.back (V.alloc _)).trans A;have HX:Hid (zaE C l q= .error p):=by show _=_;rw[HZ.o,hn];exact zgU _ _ _
     unfold Pan;go_wp2;refine⟨rfl,?_⟩;rw[HX.o];exact⟨rfl,HB⟩
    |ok ay=>
     rintro e wy ⟨rfl,Sy,aj,s⟩;have aw:IS H S w Sy wy:=(V.alloc _).trans s;have an:Hid (Fr 97 4 wy b0 r l.length (l.flatMap fun e=>epL (zD e)) Sy):=(ae.o.later ((Below.refl _ _).alloc (Nat.le_refl _) _)).step (J.alloc _) (by decide) s;have ar:Hid (zaE C l q=zZ (fun e=>zq C (zD e)) (l.drop X) (.ok ay)):=by show _=_;rw[HZ.o,hn]
     have av:Hid (0<ay.pos):=by show 0<ay.pos;rw[zlV hn];exact aa
     clear s;go_wp2;go_roundg (gk-1)
     case rel=>exact⟨X,Sy,ay,rfl,by have:=HJ.o;omega,ar.o,av.o,aj,aw,an.o⟩
     case measure=>omega
   ·have ah: ¬(j:Int)<(l.length:Int):=by omega
    have HZ:Hid (zaE C l q= .ok L):=by show _=_;rw[ad.o,List.drop_eq_nil_of_le (by omega)];rfl
    go_wp2;go_end0;rw[HZ.o];exact⟨rfl,U,J,V⟩
theorem ztI (C:Cx) (K A base I b0 g:Nat) (r:Rw) (S H:Sv) (q0 q:PS) (l:List Ep) (w wc:World) (hh:IM C K A base I S q0 w) (h:IM C K A base I H q wc) (h0:IS I S w H wc) (hl:l.length<=4000) (Z:Fr 97 4 wc b0 r l.length (l.flatMap (fun e=>epL (zD e))) H) (Y:r.a=some ⟨g,0,none⟩) (M:isT C q.pos 1 zW=false) (ha:zaH l=true):
  Calls prog 232 #[.pointer (some ⟨I,0,none⟩),.slice (some ⟨g,0,none⟩) l.length r.cap] wc (zU C K A base I (zaE C l q) id (fun _=>.tuple #[]) S w):=by
 have HF:=zc Z;have HG:=zc Y;have HY:Hid (zaE C l q= .error (zs C q.pos)):=by show _=_;rw[zaE,M,ha,if_pos (by decide),zh6 M];rfl
 clear Z Y;go_enter func232,ntmps232;go_wp2_with fail;refine (zcr C K A base I H q 1 zW _ h).mono ?_;rintro e X ⟨rfl,z⟩;rw[M];have V:=h.later z;have O:=(h0.trans (IS.below z));have J:IS I H wc H X:=IS.below z;clear z;have L:Hid (Fr 97 4 X b0 r l.length (l.flatMap (fun e=>epL (zD e))) H):=HF.o.step h (by decide) J;clear J;go_wp2_with fail;refine (zma b0 g r l _ L.o.1 hl HG.o).mono ?_;rintro e w2 ⟨rfl,z⟩;rw[ha];have aa:Hid (Fr 97 4 w2 b0 r l.length (l.flatMap (fun e=>epL (zD e))) H):=L.o.later z;have N:=V.later z;have U:=(O.trans (IS.below z));clear z;go_wp2_with fail;refine (zeJ C K A base I H q zW _ N).mono ?_;rw[zh6 M];rintro e w3 ⟨rfl,z⟩;have HB:=(hh.back U).trans z;have HX:Hid (zaE C l q= .error (zs C q.pos)):=HY.o;unfold Pan;go_wp2;refine⟨rfl,?_⟩;rw[HX.o];exact⟨rfl,HB⟩
theorem ztJ (C:Cx) (V A base J b0 g:Nat) (r:Rw) (S Sc:Sv) (q0 q:PS) (l:List Ep) (w wc:World) (hh:IM C V A base J S q0 w) (h:IM C V A base J Sc q wc) (h0:IS J S w Sc wc) (hC:zbr C) (hl:l.length<=4000) (hf:Fr 97 4 wc b0 r l.length (l.flatMap (fun e=>epL (zD e))) Sc) (hg:r.a=some ⟨g,0,none⟩) (ai:w.heap.size<=g) (hi:isT C q.pos 1 zW=true):
  Calls prog 232 #[.pointer (some ⟨J,0,none⟩),.slice (some ⟨g,0,none⟩) l.length r.cap] wc (zU C V A base J (zaE C l q) id (fun _=>.tuple #[]) S w):=by
 have HF:=zc hf;have HG:=zc hg;have av:=zc ai;have HY:Hid (zaE C l q=bd (zd C 1 zW q) fun a=>bd (zL C a) fun b=>bd (zd C 4 cSemi b.1) fun c=>zZ (fun e=>zq C (zav b.2 e)) l (.ok c)):=by show _=_;rw[zaE,hi];rfl
 clear hf hg ai;go_enter func232,ntmps232;go_wp2_with fail;refine (zcr C V A base J Sc q 1 zW _ h).mono ?_;rintro e w1 ⟨rfl,O⟩;rw[hi];have aA:=h.later O;have ah:=(h0.trans (IS.below O));have au:IS J Sc wc Sc w1:=IS.below O;clear O;have aC:Hid (Fr 97 4 w1 b0 r l.length (l.flatMap (fun e=>epL (zD e))) Sc):=HF.o.step h (by decide) au;clear au;go_wp2_with fail;refine (zeJ C V A base J Sc q zW _ aA).mono ?_;cases az:zd C 1 zW q with
 |error p=>
  rintro e w2 ⟨rfl,O⟩;have HB:=(hh.back ah).trans O;have HX:Hid (zaE C l q= .error p):=bdE HY.o az;unfold Pan;go_wp2;refine⟨rfl,?_⟩;rw[HX.o];exact⟨rfl,HB⟩
 |ok a2=>
  rintro e w2 ⟨rfl,S2,aw,s⟩;have aN:Hid (Fr 97 4 w2 b0 r l.length (l.flatMap (fun e=>epL (zD e))) S2):=aC.o.step aA (by decide) s;have aj:=ah.trans s;clear s;have ax:=zc (bdO HY.o az);go_wp2_with fail;refine (zgt C V A base J S2 a2 _ aw hC).mono ?_;cases an:zL C a2 with
  |error p=>
   rintro e w3 ⟨rfl,O⟩;have HB:=(hh.back aj).trans O;have HX:Hid (zaE C l q= .error p):=bdE ax.o an;unfold Pan;go_wp2;refine⟨rfl,?_⟩;rw[HX.o];exact⟨rfl,HB⟩
  |ok z=>
   rintro e w3 ⟨rfl,S3,af,s⟩;have ab:Hid (Fr 97 4 w3 b0 r l.length (l.flatMap (fun e=>epL (zD e))) S3):=aN.o.step aw (by decide) s;have aD:=aj.trans s;clear s;have ao:=zc (bdO ax.o an);have ad:Hid (Fr 97 4 w3 b0 r l.length ((mxE z.2 l 0).flatMap epL) S3):=by show Fr _ _ _ _ _ _ _ _;rw[ztC,zmb];exact ab.o
   have ac:g≠J:=ab.o.ngp af (by decide) (by rw[Rw.blk,HG.o];rfl);have aq:g≠V:=ab.o.ngt af (by decide) (by rw[Rw.blk,HG.o];rfl);have Y:Hid (¬S3.has g):=ab.o.2 g (by rw[Rw.blk,HG.o];rfl);have ar:=zc ac;have am:=zc aq;clear ac aq;go_wp2;go_loopg [22] l.length (fun k i wr=>∃(j:Nat),i= .int .i64 j/\j+k=l.length/\IM C V A base J S3 z.1 wr/\IS J S w S3 wr/\Fr 97 4 wr b0 r l.length ((mxE z.2 l j).flatMap epL) S3)
   case atStart=>exact⟨0,rfl,by omega,af,aD,ad.o⟩
   case round=>
    obtain⟨j,rfl,hj,m',s',f'⟩:=hrel;have I:=m';have K:=s';have N:Hid (Fr 97 4 wr b0 r l.length ((mxE z.2 l j).flatMap epL) S3):=f';clear m' s' f';by_cases aa:j<l.length
    ·have X:(j:Int)<(l.length:Int):=by omega
     obtain⟨x,hx⟩:=zfP aa;have HX:=zc hx;have M:=N.o.1;have ho:OwnR wr b0 97 4 r (mxE z.2 l j).length ((mxE z.2 l j).flatMap epL):=by rw[zlY];exact M
     obtain⟨g',U,H⟩:=OwnR.elem (f:=epL) (m:=4) (fun _=>rfl) ho (zlZ hx);have eg:g'=g:=by have:=U.symm.trans HG.o;simpa using this
     subst eg;have k0:=H 0 (by omega);have k3:=H 3 (by omega);simp only[epL,zD,Nat.add_zero,List.getElem?_cons_zero,List.getElem?_cons_succ] at k0 k3;unfold OwnR at M;rw[HG.o] at M;have aQ:=M.frozenAt;have aM:=zc M;clear H U hx M ho;obtain⟨Z,L⟩: ∃Z,Z=j+1:=⟨_,rfl⟩;have ej:(j:Int)+1=(Z:Int):=by omega
     have HJ:=zc L;clear L;go_wp2;go_roundg (gk-1)
     case rel=>
      refine⟨Z,rfl,by have:=HJ.o;omega,(I.set ar.o am.o Y.o _ _).set ar.o am.o Y.o _ _,(K.new av.o _ _).new av.o _ _,?_,N.o.2⟩;have aK:=(aM.o.stored (j*4+0) (.int .i64 2)).1;have ap:=(aK.stored (j*4+3) (.string z.2)).1;rw[zlX epL 4 (fun _=>rfl) _ j 0 (zD x) ⟨2,x.name,x.loc,sNone⟩ (.int .i64 2) (zlZ HX.o) (by omega) rfl,zlX epL 4 (fun _=>rfl) ((mxE z.2 l j).set j ⟨2,x.name,x.loc,sNone⟩) j 3 ⟨2,x.name,x.loc,sNone⟩ (zav z.2 x) (.string z.2) (List.getElem?_set_self (by rw[zlY];exact aa)) (by omega) rfl,List.set_set,ztB HX.o,<-HJ.o] at ap;unfold OwnR;rw[HG.o];exact ap
     case measure=>omega
    ·have X: ¬(j:Int)<(l.length:Int):=by omega
     have aJ:j=l.length:=by omega
     subst aJ;have aF:Hid (Fr 97 4 wr b0 r l.length (l.flatMap fun e=>epL (zav z.2 e)) S3):=by show Fr _ _ _ _ _ _ _ _;rw[<-zmb,<-ztD z.2 l];exact N.o
     go_wp2_with fail;refine (zc3 C V A base J S3 z.1 59 _ I).mono ?_;cases ae:zd C 4 cSemi z.1 with
     |error p=>
      rintro e w4 ⟨rfl,O⟩;have HB:=(hh.back K).trans O;have HX:Hid (zaE C l q= .error p):=bdE ao.o ae;unfold Pan;go_wp2;refine⟨rfl,?_⟩;rw[HX.o];exact⟨rfl,HB⟩
     |ok a4=>
      rintro e w4 ⟨rfl,S4,aL,s⟩;have ad:Hid (Fr 97 4 w4 b0 r l.length (l.flatMap fun e=>epL (zav z.2 e)) S4):=aF.o.step I (by decide) s;have aH:=K.trans s;clear s;have aO:=zc (bdO ao.o ae);have ak:0<a4.pos:=by rw[(zbV ae).1];exact Nat.succ_pos _
      go_wp2;go_loopg [39] l.length (fun k i wr=>∃(j:Nat) (S':Sv) (q':PS),i= .int .i64 j/\j+k=l.length/\zaE C l q=zZ (fun e=>zq C (zav z.2 e)) (l.drop j) (.ok q')/\0<q'.pos/\IM C V A base J S' q' wr/\IS J S w S' wr/\Fr 97 4 wr b0 r l.length (l.flatMap fun e=>epL (zav z.2 e)) S')
      case atStart=>exact⟨0,S4,a4,rfl,by omega,aO.o,ak,aL,aH,ad.o⟩
      case round=>
       obtain⟨j,S',q',rfl,hj,hy,ag,m',s',f'⟩:=hrel;have al:=zc hy;have I:=m';have K:=s';have N:Hid (Fr 97 4 wr b0 r l.length (l.flatMap fun e=>epL (zav z.2 e)) S'):=f';clear hy m' s' f';by_cases aa:j<l.length
       ·have X:(j:Int)<(l.length:Int):=by omega
        obtain⟨x,hx⟩:=zfP aa;obtain⟨g',U,H⟩:=OwnR.elem (f:=fun e=>epL (zav z.2 e)) (m:=4) (fun _=>rfl) N.o.1 hx;have eg:g'=g:=by have:=U.symm.trans HG.o;simpa using this
        subst eg;have k0:=H 0 (by omega);have k1:=H 1 (by omega);have k2:=H 2 (by omega);have k3:=H 3 (by omega);simp only[epL,zav,Nat.add_zero,List.getElem?_cons_zero,List.getElem?_cons_succ] at k0 k1 k2 k3;have HZ:=zc (al.o.trans (ziw (fun e=>zq C (zav z.2 e)) hx q'));clear H U hx;obtain⟨Z,L⟩: ∃Z,Z=j+1:=⟨_,rfl⟩;have ej:(j:Int)+1=(Z:Int):=by omega
        rw[<-L] at HZ;have ac:=I.lt;have HJ:=zc L;clear L;go_wp2_with fail;refine (zf3 C V A base J S' q' (zav z.2 x) _ (I.alloc _) ag).mono ?_;cases hn:zq C (zav z.2 x) q' with
        |error p=>
         rintro e wy ⟨rfl,O⟩;have HB:Below base w wy:=(hh.back (K.alloc _)).trans O;have HX:Hid (zaE C l q= .error p):=by show _=_;rw[HZ.o,hn];exact zgU _ _ _
         unfold Pan;go_wp2;refine⟨rfl,?_⟩;rw[HX.o];exact⟨rfl,HB⟩
        |ok ay=>
         rintro e wy ⟨rfl,Sy,aI,s⟩;have aG:IS J S w Sy wy:=(K.alloc _).trans s;have aB:Hid (Fr 97 4 wy b0 r l.length (l.flatMap fun e=>epL (zav z.2 e)) Sy):=(N.o.later ((Below.refl _ _).alloc (Nat.le_refl _) _)).step (I.alloc _) (by decide) s;have aE:Hid (zaE C l q=zZ (fun e=>zq C (zav z.2 e)) (l.drop Z) (.ok ay)):=by show _=_;rw[HZ.o,hn]
         have aP:Hid (0<ay.pos):=by show 0<ay.pos;rw[zlV hn];exact ag
         clear s;go_wp2;go_roundg (gk-1)
         case rel=>exact⟨Z,Sy,ay,rfl,by have:=HJ.o;omega,aE.o,aP.o,aI,aG,aB.o⟩
         case measure=>omega
       ·have X: ¬(j:Int)<(l.length:Int):=by omega
        have HZ:Hid (zaE C l q= .ok q'):=by show _=_;rw[al.o,List.drop_eq_nil_of_le (by omega)];rfl
        go_wp2;go_end0;rw[HZ.o];exact⟨rfl,S',I,K⟩
theorem ztK (C:Cx) (I z base A b0:Nat) (r:Rw) (S H:Sv) (L q:PS) (l:List Ep) (w wc:World) (O:IM C I z base A S L w) (h:IM C I z base A H q wc) (V:IS A S w H wc) (hC:zbr C) (N:l.length<=4000) (U:l.length≠0) (J:Fr 97 4 wc b0 r l.length (l.flatMap (fun e=>epL (zD e))) H) (M:w.heap.size<=b0):
  Calls prog 232 #[.pointer (some ⟨A,0,none⟩),.slice r.a l.length r.cap] wc (zU C I z base A (zaE C l q) id (fun _=>.tuple #[]) S w):=by
 rcases J.1.nil_or with ⟨_,_,e⟩|⟨g,K⟩
 ·exact absurd e U
 ·have Y:w.heap.size<=g:=Nat.le_trans M (J.1.typed (show r.blk=some g by rw[Rw.blk,K];rfl)).1;rw[K];cases X:isT C q.pos 1 zW with
  |true=>exact ztJ C I z base A b0 g r S H L q l w wc O h V hC N J K Y X
  |false=>
   cases Z:zaH l with
   |true=>exact ztI C I z base A b0 g r S H L q l w wc O h V N J K X Z
   |false=>exact ztH C I z base A b0 g r S H L q l w wc O h V N J K X Z
theorem ztL {C:Cx} {k:Int} {n:BA} {q b:PS} (h:zY C k n q= .ok b):b={q with st:=q.st++[⟨k,n,(q.ex.length:Int)-1⟩]}:=by
 unfold zY at h
 split at h
 ·cases h
 ·cases h;rfl
theorem ziy {C:Cx} {k:Int} {n s:BA} {q b:PS} (h:stmtI C k n s q= .ok b) (K:0<s.size):(∃l e,b.st=l++[⟨k,n,e⟩])/\0<b.pos:=by
 obtain⟨a,J,z⟩:=zn h;obtain⟨c,H,A⟩:=zn z;have w:=zjK _ H;have I:=ztL A;subst I;refine⟨⟨_,_,rfl⟩,?_⟩;rw[w];show 0<a.pos+s.size;omega
theorem ztM {C:Cx} {k:Int} {q b:PS} (h:letJ C k q= .ok b):(∃l e,b.st=l++[⟨k,(ze C q.pos).text,e⟩])/\0<b.pos:=by
 obtain⟨a,w,z⟩:=zn h;obtain⟨c,H,A⟩:=zn z;have:=ziy A (by decide);rw[(zb2 w).1] at this;exact this
theorem ztN {C:Cx} {q b:PS} (h:fnI C q= .ok b):(∃l e,b.st=l++[⟨2,(ze C q.pos).text,e⟩])/\0<b.pos:=by
 obtain⟨a,H,z⟩:=zn h;obtain⟨c,J,A⟩:=zn z;obtain⟨d,I,w⟩:=zn A;have:=ziy w (by decide);rw[(zb2 H).1] at this;exact this
theorem zmc (C:Cx) (H z base A:Nat) (S:Sv) (q:PS) (l:List Sm) (k e:Int) (n:BA) (w:World) (h:IM C H z base A S q w) (K:q.st=l++[⟨k,n,e⟩]) (I:n.size<=281474976710656) (J:0<q.pos):
  Calls prog 235 #[.pointer (some ⟨A,0,none⟩)] w (zU C H z base A (zq C ⟨1,n,n,sNone⟩ q) id (fun _=>.tuple #[]) S w):=zoI C H z base A S q l ⟨k,n,e⟩ w h K I J
def zax (C:Cx) (q:PS):PR:=
 if isT C q.pos 4 zN then bd (za4 C true (adv q) []) fun a=>zaE C a.2 a.1
 else if isT C q.pos 4 zy then bd (zd C 1 zW (adv q)) fun a=>bd (zL C a) fun b=>bd (zd C 4 cSemi b.1) fun c=>zq C ⟨3,sNone,sNone,b.2⟩ c
 else if isT C q.pos 1 sDefault then bd (stmtI C 1 zcp cSemi (adv q)) fun a=>zq C ⟨1,sDefault,zcp,sNone⟩ a
 else if isT C q.pos 1 zG then bd (letJ C 1 (adv q)) fun a=>zq C ⟨1,(ze C (q.pos+1)).text,(ze C (q.pos+1)).text,sNone⟩ a
 else if isT C q.pos 1 zV then bd (fnI C (adv q)) fun a=>zq C ⟨1,(ze C (q.pos+1)).text,(ze C (q.pos+1)).text,sNone⟩ a
 else .error (zs C q.pos)
theorem ztO (C:Cx) (L z base H:Nat) (S:Sv) (q:PS) (w:World) (h:IM C L z base H S q w) (hC:zbr C) (h1:isT C q.pos 4 zN=true):
  Calls prog 217 #[.pointer (some ⟨H,0,none⟩)] w (zU C L z base H (zax C q) id (fun _=>.tuple #[]) S w):=by
 have HY:Hid (zax C q=bd (za4 C true (adv q) []) fun a=>zaE C a.2 a.1):=by show _=_;rw[zax,h1];rfl
 go_enter func217,ntmps217;go_wp2_with fail;refine (zO C L z base H S q 4 zN _ h (by decide)).mono ?_;rintro e w1 ⟨rfl,M,A⟩;rw[h1] at M ⊢;go_wp2_with fail;refine (ztA C L z base H S (adv q) _ M).mono ?_;cases J:za4 C true (adv q) [] with
 |error p=>
  rintro e w3 ⟨rfl,hb⟩;have X:=(h.back A).trans hb;have N:Hid (zax C q= .error p):=bdE HY.o J;unfold Pan;go_wp2;refine⟨rfl,?_⟩;rw[N.o];exact⟨rfl,X⟩
 |ok O=>
  rintro e w3 ⟨r,S3,rfl,Y,s,f,l0,l1⟩;have Z:=A.trans s;have aa:=zc f;clear s f;have K:=zc (bdO HY.o J);go_wp2_with fail;refine (ztK C L z base H _ r S S3 q O.1 O.2 w _ h Y Z hC l1 (by omega) aa.o A.size).mono ?_;cases I:zaE C O.2 O.1 with
  |error p=>
   rintro e w4 ⟨rfl,X⟩;have N:=zc (K.o.trans I);unfold Pan;go_wp2;refine⟨rfl,?_⟩;rw[N.o];exact⟨rfl,X⟩
  |ok a4=>
   rintro e w4 ⟨rfl,S4,V,U⟩;have N:=zc (K.o.trans I);go_wp2;go_end0;rw[N.o];exact⟨rfl,S4,V,U⟩
theorem ztP (C:Cx) (H z base A:Nat) (S:Sv) (q:PS) (w:World) (h:IM C H z base A S q w) (hC:zbr C) (h1:isT C q.pos 4 zN=false) (h2:isT C q.pos 4 zy=true):
  Calls prog 217 #[.pointer (some ⟨A,0,none⟩)] w (zU C H z base A (zax C q) id (fun _=>.tuple #[]) S w):=by
 have HY:Hid (zax C q=bd (zd C 1 zW (adv q)) fun a=>bd (zL C a) fun b=>bd (zd C 4 cSemi b.1) fun c=>zq C ⟨3,sNone,sNone,b.2⟩ c):=by show _=_;rw[zax,h1,h2];rfl
 go_enter func217,ntmps217;go_wp2_with fail;refine (zO C H z base A S q 4 zN _ h (by decide)).mono ?_;rintro e w1 ⟨rfl,ae,ah⟩;rw[h1] at ae ⊢;go_wp2_with fail;refine (zO C H z base A S q 4 zy _ ae (by decide)).mono ?_;rintro e w2 ⟨rfl,O,s⟩;rw[h2] at O ⊢;have V:=ah.trans s;clear s;go_wp2_with fail;refine (zeJ C H z base A S (adv q) zW _ O).mono ?_;cases Z:zd C 1 zW (adv q) with
 |error p=>
  rintro e w3 ⟨rfl,J⟩;have K:=(h.back V).trans J;have L:Hid (zax C q= .error p):=bdE HY.o Z;unfold Pan;go_wp2;refine⟨rfl,?_⟩;rw[L.o];exact⟨rfl,K⟩
 |ok a3=>
  rintro e w3 ⟨rfl,S3,aj,s⟩;have ab:=V.trans s;clear s;have aa:=zc (bdO HY.o Z);go_wp2_with fail;refine (zgt C H z base A S3 a3 _ aj hC).mono ?_;cases M:zL C a3 with
  |error p=>
   rintro e w4 ⟨rfl,J⟩;have K:=(h.back ab).trans J;have L:Hid (zax C q= .error p):=bdE aa.o M;unfold Pan;go_wp2;refine⟨rfl,?_⟩;rw[L.o];exact⟨rfl,K⟩
  |ok a4=>
   rintro e w4 ⟨rfl,S4,af,s⟩;have N:=ab.trans s;clear s;have ac:=zc (bdO aa.o M);go_wp2_with fail;refine (zc3 C H z base A S4 a4.1 59 _ af).mono ?_;cases I:zd C 4 cSemi a4.1 with
   |error p=>
    rintro e w5 ⟨rfl,J⟩;have K:=(h.back N).trans J;have L:Hid (zax C q= .error p):=bdE ac.o I;unfold Pan;go_wp2;refine⟨rfl,?_⟩;rw[L.o];exact⟨rfl,K⟩
   |ok a5=>
    rintro e w5 ⟨rfl,S5,ag,s⟩;have ad:=N.trans s;clear s;have U:=zc (bdO ac.o I);have X:0<a5.pos:=by rw[(zbV I).1];exact Nat.succ_pos _
    go_wp2_with fail;refine (zf3 C H z base A S5 a5 ⟨3,sNone,sNone,a4.2⟩ _ ag X).mono ?_;cases Y:zq C ⟨3,sNone,sNone,a4.2⟩ a5 with
    |error p=>
     rintro e w6 ⟨rfl,J⟩;have K:=(h.back ad).trans J;have L:Hid (zax C q= .error p):=U.o.trans Y;unfold Pan;go_wp2;refine⟨rfl,?_⟩;rw[L.o];exact⟨rfl,K⟩
    |ok a6=>
     rintro e w6 ⟨rfl,S6,ai,s⟩;have ak:=ad.trans s;clear s;have al:=zc (U.o.trans Y);go_wp2;go_end0;rw[al.o];exact⟨rfl,S6,ai,ak⟩
theorem ztQ (C:Cx) (I z base A:Nat) (S:Sv) (q:PS) (w:World) (h:IM C I z base A S q w) (h1:isT C q.pos 4 zN=false) (h2:isT C q.pos 4 zy=false) (h3:isT C q.pos 1 sDefault=true):
  Calls prog 217 #[.pointer (some ⟨A,0,none⟩)] w (zU C I z base A (zax C q) id (fun _=>.tuple #[]) S w):=by
 have HY:Hid (zax C q=bd (stmtI C 1 zcp cSemi (adv q)) fun a=>zq C ⟨1,sDefault,zcp,sNone⟩ a):=by show _=_;rw[zax,h1,h2,h3];rfl
 go_enter func217,ntmps217;go_wp2_with fail;refine (zO C I z base A S q 4 zN _ h (by decide)).mono ?_;rintro e w1 ⟨rfl,V,ac⟩;rw[h1] at V ⊢;go_wp2_with fail;refine (zO C I z base A S q 4 zy _ V (by decide)).mono ?_;rintro e w2 ⟨rfl,L,s⟩;rw[h2] at L ⊢;have ab:=ac.trans s;clear s;go_wp2_with fail;refine (zO C I z base A S q 1 sDefault _ L (by decide)).mono ?_;rintro e w3 ⟨rfl,N,s⟩;rw[h3] at N ⊢;have O:=ab.trans s;clear s;go_wp2_with fail;refine (zel C I z base A S (adv q) 1 zcp cSemi _ N (by decide) (by decide)).mono ?_;cases H:stmtI C 1 zcp cSemi (adv q) with
 |error p=>
  rintro e w4 ⟨rfl,X⟩;have HB:=(h.back O).trans X;have HX:Hid (zax C q= .error p):=bdE HY.o H;unfold Pan;go_wp2;refine⟨rfl,?_⟩;rw[HX.o];exact⟨rfl,HB⟩
 |ok a4=>
  rintro e w4 ⟨rfl,S4,Y,s⟩;have K:=O.trans s;clear s;have U:=zc (bdO HY.o H);have M:=(ziy H (by decide)).2;go_wp2_with fail;refine (zf3 C I z base A S4 a4 ⟨1,sDefault,zcp,sNone⟩ _ Y M).mono ?_;cases J:zq C ⟨1,sDefault,zcp,sNone⟩ a4 with
  |error p=>
   rintro e w5 ⟨rfl,X⟩;have HB:=(h.back K).trans X;have HX:Hid (zax C q= .error p):=U.o.trans J;unfold Pan;go_wp2;refine⟨rfl,?_⟩;rw[HX.o];exact⟨rfl,HB⟩
  |ok a5=>
   rintro e w5 ⟨rfl,S5,Z,s⟩;have ad:=K.trans s;clear s;have aa:=zc (U.o.trans J);go_wp2;go_end0;rw[aa.o];exact⟨rfl,S5,Z,ad⟩
theorem ztR (C:Cx) (H z base A:Nat) (S:Sv) (q:PS) (w:World) (h:IM C H z base A S q w) (hC:zbr C) (h1:isT C q.pos 4 zN=false) (h2:isT C q.pos 4 zy=false) (h3:isT C q.pos 1 sDefault=false) (h4:isT C q.pos 1 zG=true):
  Calls prog 217 #[.pointer (some ⟨A,0,none⟩)] w (zU C H z base A (zax C q) id (fun _=>.tuple #[]) S w):=by
 have HY:Hid (zax C q=bd (letJ C 1 (adv q)) fun a=>zq C ⟨1,(ze C (q.pos+1)).text,(ze C (q.pos+1)).text,sNone⟩ a):=by show _=_;rw[zax,h1,h2,h3,h4];rfl
 go_enter func217,ntmps217;go_wp2_with fail;refine (zO C H z base A S q 4 zN _ h (by decide)).mono ?_;rintro e w1 ⟨rfl,Y,ac⟩;rw[h1] at Y ⊢;go_wp2_with fail;refine (zO C H z base A S q 4 zy _ Y (by decide)).mono ?_;rintro e w2 ⟨rfl,K,s⟩;rw[h2] at K ⊢;have ab:=ac.trans s;clear s;go_wp2_with fail;refine (zO C H z base A S q 1 sDefault _ K (by decide)).mono ?_;rintro e w3 ⟨rfl,V,s⟩;rw[h3] at V ⊢;have af:=ab.trans s;clear s;go_wp2_with fail;refine (zO C H z base A S q 1 zG _ V (by decide)).mono ?_;rintro e w4 ⟨rfl,L,s⟩;rw[h4] at L ⊢;have J:=af.trans s;clear s;go_wp2_with fail;refine (zhD C H z base A S (adv q) _ L).mono ?_;cases I:letJ C 1 (adv q) with
 |error p=>
  rintro e w5 ⟨rfl,Z⟩;have HB:=(h.back J).trans Z;have HX:Hid (zax C q= .error p):=bdE HY.o I;unfold Pan;go_wp2;refine⟨rfl,?_⟩;rw[HX.o];exact⟨rfl,HB⟩
 |ok a5=>
  rintro e w5 ⟨rfl,S5,aa,s⟩;have X:=J.trans s;clear s;have N:=zc (bdO HY.o I);obtain⟨⟨l,e,M⟩,U⟩:=ztM I;have ah:=zc M;clear M;go_wp2_with fail;refine (zmc C H z base A S5 a5 l _ _ (ze C (q.pos+1)).text _ aa ah.o (hC _) U).mono ?_;cases O:zq C ⟨1,(ze C (q.pos+1)).text,(ze C (q.pos+1)).text,sNone⟩ a5 with
  |error p=>
   rintro e w6 ⟨rfl,Z⟩;have HB:=(h.back X).trans Z;have HX:Hid (zax C q= .error p):=N.o.trans O;unfold Pan;go_wp2;refine⟨rfl,?_⟩;rw[HX.o];exact⟨rfl,HB⟩
  |ok a6=>
   rintro e w6 ⟨rfl,S6,ad,s⟩;have ae:=X.trans s;clear s;have ag:=zc (N.o.trans O);go_wp2;go_end0;rw[ag.o];exact⟨rfl,S6,ad,ae⟩
theorem ztS (C:Cx) (H z base A:Nat) (S:Sv) (q:PS) (w:World) (h:IM C H z base A S q w) (hC:zbr C) (h1:isT C q.pos 4 zN=false) (h2:isT C q.pos 4 zy=false) (h3:isT C q.pos 1 sDefault=false) (h4:isT C q.pos 1 zG=false) (h5:isT C q.pos 1 zV=true):
  Calls prog 217 #[.pointer (some ⟨A,0,none⟩)] w (zU C H z base A (zax C q) id (fun _=>.tuple #[]) S w):=by
 have HY:Hid (zax C q=bd (fnI C (adv q)) fun a=>zq C ⟨1,(ze C (q.pos+1)).text,(ze C (q.pos+1)).text,sNone⟩ a):=by show _=_;rw[zax,h1,h2,h3,h4,h5];rfl
 go_enter func217,ntmps217;go_wp2_with fail;refine (zO C H z base A S q 4 zN _ h (by decide)).mono ?_;rintro e w1 ⟨rfl,Y,ad⟩;rw[h1] at Y ⊢;go_wp2_with fail;refine (zO C H z base A S q 4 zy _ Y (by decide)).mono ?_;rintro e w2 ⟨rfl,J,s⟩;rw[h2] at J ⊢;have ae:=ad.trans s;clear s;go_wp2_with fail;refine (zO C H z base A S q 1 sDefault _ J (by decide)).mono ?_;rintro e w3 ⟨rfl,O,s⟩;rw[h3] at O ⊢;have ag:=ae.trans s;clear s;go_wp2_with fail;refine (zO C H z base A S q 1 zG _ O (by decide)).mono ?_;rintro e w4 ⟨rfl,K,s⟩;rw[h4] at K ⊢;have aa:=ag.trans s;clear s;go_wp2_with fail;refine (zO C H z base A S q 1 zV _ K (by decide)).mono ?_;rintro e w5 ⟨rfl,M,s⟩;rw[h5] at M ⊢;have V:=aa.trans s;clear s;go_wp2_with fail;refine (zhE C H z base A S (adv q) _ M).mono ?_;cases I:fnI C (adv q) with
 |error p=>
  rintro e w6 ⟨rfl,hb⟩;have HB:=(h.back V).trans hb;have HX:Hid (zax C q= .error p):=bdE HY.o I;unfold Pan;go_wp2;refine⟨rfl,?_⟩;rw[HX.o];exact⟨rfl,HB⟩
 |ok a6=>
  rintro e w6 ⟨rfl,S6,af,s⟩;have U:=V.trans s;clear s;have Z:=zc (bdO HY.o I);obtain⟨⟨l,e,L⟩,N⟩:=ztN I;have ai:=zc L;clear L;go_wp2_with fail;refine (zmc C H z base A S6 a6 l _ _ (ze C (q.pos+1)).text _ af ai.o (hC _) N).mono ?_;cases X:zq C ⟨1,(ze C (q.pos+1)).text,(ze C (q.pos+1)).text,sNone⟩ a6 with
  |error p=>
   rintro e w7 ⟨rfl,hb⟩;have HB:=(h.back U).trans hb;have HX:Hid (zax C q= .error p):=Z.o.trans X;unfold Pan;go_wp2;refine⟨rfl,?_⟩;rw[HX.o];exact⟨rfl,HB⟩
  |ok a7=>
   rintro e w7 ⟨rfl,S7,ac,s⟩;have ah:=U.trans s;clear s;have ab:=zc (Z.o.trans X);go_wp2;go_end0;rw[ab.o];exact⟨rfl,S7,ac,ah⟩
theorem ztT (C:Cx) (H z base A:Nat) (S:Sv) (q:PS) (w:World) (h:IM C H z base A S q w) (h1:isT C q.pos 4 zN=false) (Y:isT C q.pos 4 zy=false) (h3:isT C q.pos 1 sDefault=false) (Z:isT C q.pos 1 zG=false) (h5:isT C q.pos 1 zV=false):
  Calls prog 217 #[.pointer (some ⟨A,0,none⟩)] w (zU C H z base A (zax C q) id (fun _=>.tuple #[]) S w):=by
 have HY:Hid (zax C q= .error (zs C q.pos)):=by show _=_;rw[zax,h1,Y,h3,Z,h5];rfl
 go_enter func217,ntmps217;go_wp2_with fail;refine (zO C H z base A S q 4 zN _ h (by decide)).mono ?_;rintro e w1 ⟨rfl,M,O⟩;rw[h1] at M ⊢;go_wp2_with fail;refine (zO C H z base A S q 4 zy _ M (by decide)).mono ?_;rintro e w2 ⟨rfl,J,s⟩;rw[Y] at J ⊢;have U:=O.trans s;clear s;go_wp2_with fail;refine (zO C H z base A S q 1 sDefault _ J (by decide)).mono ?_;rintro e w3 ⟨rfl,L,s⟩;rw[h3] at L ⊢;have V:=U.trans s;clear s;go_wp2_with fail;refine (zO C H z base A S q 1 zG _ L (by decide)).mono ?_;rintro e w4 ⟨rfl,K,s⟩;rw[Z] at K ⊢;have N:=V.trans s;clear s;go_wp2_with fail;refine (zO C H z base A S q 1 zV _ K (by decide)).mono ?_;rintro e w5 ⟨rfl,I,s⟩;rw[h5] at I ⊢;have X:=N.trans s;clear s;go_wp2_with fail;refine (zeI C H z base A S q _ I).mono ?_;rintro e wz ⟨rfl,hb⟩;have HB:=(h.back X).trans (hb.mono I.mem.base);have HX:Hid (zax C q= .error (zs C q.pos)):=HY.o;unfold Pan;go_wp2;refine⟨rfl,?_⟩;rw[HX.o];exact⟨rfl,HB⟩
theorem ztU (C:Cx) (H z base A:Nat) (S:Sv) (q:PS) (w:World) (h:IM C H z base A S q w) (K:zbr C):
  Calls prog 217 #[.pointer (some ⟨A,0,none⟩)] w (zU C H z base A (zax C q) id (fun _=>.tuple #[]) S w):=by
 cases I:isT C q.pos 4 zN with
 |true=>exact ztO C H z base A S q w h K I
 |false=>
  cases J:isT C q.pos 4 zy with
  |true=>exact ztP C H z base A S q w h K I J
  |false=>
   cases L:isT C q.pos 1 sDefault with
   |true=>exact ztQ C H z base A S q w h I J L
   |false=>
    cases M:isT C q.pos 1 zG with
    |true=>exact ztR C H z base A S q w h K I J L M
    |false=>
     cases N:isT C q.pos 1 zV with
     |true=>exact ztS C H z base A S q w h K I J L M N
     |false=>exact ztT C H z base A S q w h I J L M N
end Go.Proofs.YtgcbmogmniahjaaGreat
