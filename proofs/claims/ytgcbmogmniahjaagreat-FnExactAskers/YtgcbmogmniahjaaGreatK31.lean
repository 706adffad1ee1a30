/- Facts and walks. -/
import Derived.Test.YtgcbmogmniahjaaGreatK30
namespace Go.Proofs.YtgcbmogmniahjaaGreat
open Go.Proofs.Tryz
set_option maxRecDepth 100000
set_option maxHeartbeats 3200000
open Go.RowKit Go.PlainAid Go.Sort
theorem ztU {C:Cx} {q:PS} {a:PS×BA} (w:zm C true q= .ok a) (h:isT C a.1.pos 1 sAs=true):zbD C true q=bd (zm C true (adv a.1)) fun b=>.ok (b.1,⟨0,b.2,a.2,sNone⟩):=by
 rw[zbD,w,zB,asP,if_pos h]
theorem ztV {C:Cx} {q:PS} {a:PS×BA} (w:zm C true q= .ok a) (h:isT C a.1.pos 1 sAs=false):zbD C true q= .ok (a.1,⟨0,a.2,a.2,sNone⟩):=by
 rw[zbD,w,zB,asP,if_neg (by rw[h];decide),if_neg (by simp)];rfl
theorem ztW (C:Cx) (J z base A:Nat) (S:Sv) (q:PS) (w:World) (h:IM C J z base A S q w):
  Calls prog 233 #[.pointer (some ⟨A,0,none⟩)] w (zmi C J z base A 97 4 (fun e=>epL (zF e)) (za7 C true q []) S w):=by
 obtain⟨i0,hi,an,aw,au⟩:=info_parts Tryz.infoExp;have HH:=h;clear h;go_enter func233,ntmps233;go_wp2;go_loopg [3] (C.ts.length+1) (fun k v wr=>∃(S':Sv) (q':PS) (r:Rw) (l:List Ep),v= .slice r.a l.length r.cap/\za7 C true q []=za7 C true q' l/\C.ts.length-q'.pos<k/\l.length+(C.ts.length-q'.pos)<=C.ts.length/\IM C J z base A S' q' wr/\IS A S w S' wr/\Fr 97 4 wr w.heap.size r l.length (l.flatMap (fun e=>epL (zF e))) S')
 case atStart=>exact⟨S,q,⟨some ⟨w.heap.size,0,none⟩,0⟩,[],rfl,rfl,by omega,by simp,HH.alloc _,(IS.refl _ _ _).alloc _,zmj HH _ _⟩
 case round=>
  obtain⟨S',q',r,l,rfl,hy,hk,hl,m',s',f'⟩:=hrel;have ay:Hid (za7 C true q []=za7 C true q' l):=hy;have HY:=zc (ay.o.trans (zkL C true q' l));have aq:=m';have av:=s';have aG:Hid (Fr 97 4 wr w.heap.size r l.length (l.flatMap (fun e=>epL (zF e))) S'):=f';have aH:=m'.mem.few;clear hy m' s' f';go_wp2_with fail;refine (zf9 C J z base A S' q' _ aq).mono ?_;cases ak:zm C true q' with
  |error p=>
   rintro e w1 ⟨rfl,hb⟩;have HB:=(HH.back av).trans hb;have HX:Hid (za7 C true q []= .error p):=by show _=_;rw[HY.o,zbD,ak];rfl
   unfold Pan;go_wp2;refine⟨rfl,?_⟩;rw[HX.o];exact⟨rfl,HB⟩
  |ok a=>
   rintro e w1 ⟨rfl,D,m,s⟩;have aj:=m;have al:=av.trans s;have am:Hid (Fr 97 4 w1 w.heap.size r l.length (l.flatMap (fun e=>epL (zF e))) D):=aG.o.step aq (by decide) s;clear m s;cases ai:isT C a.1.pos 1 sAs with
   |true=>
    have HW:=zc (ztU ak ai);go_wp2_with fail;refine (zP C J z base A D a.1 1 sAs _ aj (by decide)).mono ?_;rintro e w2 ⟨rfl,m,s⟩;rw[ai] at m ⊢;have N:Hid (IM C J z base A D (adv a.1) w2):=m;have ad:Hid (IS A S w D w2):=al.trans s;have O:Hid (Fr 97 4 w2 w.heap.size r l.length (l.flatMap (fun e=>epL (zF e))) D):=am.o.step aj (by decide) s;clear m s;go_wp2_with fail;refine (zf9 C J z base A D (adv a.1) _ N.o).mono ?_;cases ao:zm C true (adv a.1) with
    |error p=>
     rintro e Z ⟨rfl,hb⟩;have HB:=(HH.back ad.o).trans hb;have HX:Hid (za7 C true q []= .error p):=by show _=_;rw[HY.o,HW.o,ao];rfl
     unfold Pan;go_wp2;refine⟨rfl,?_⟩;rw[HX.o];exact⟨rfl,HB⟩
    |ok c=>
     rintro e Z ⟨rfl,S3,m,s⟩;have I:Hid (IM C J z base A S3 c.1 Z):=m;have ae:Hid (IS A S w S3 Z):=ad.o.trans s;have L:Hid (Fr 97 4 Z w.heap.size r l.length (l.flatMap (fun e=>epL (zF e))) S3):=O.o.step N.o (by decide) s;clear m s;have E:=zc (bdO HW.o ao);have HE:=zc (bdO HY.o E.o);have aF:=zi4 E.o;have ax:=I.o.mem.inv.pos;have M:=fun o1=>(L.o.later ((Below.refl Z.heap.size Z).alloc (Nat.le_refl _) o1)).1;have ac:=fun o1=>(ae.o.alloc o1).size;go_wp2_with (at_builtin;refine zbd _ rfl _ _ 50 rfl w.heap.size 97 i0 _ 4 56 underlying50 hi an aw au rfl (by decide) (by decide) r l.length _ (by rfl) (M _) Z.heap.size (epL (zF (⟨0,c.2,a.2,sNone⟩:Ep))) (by rfl) (by exact heap_alloc_new Z _) rfl (zg0 _) (by omega) (ac _) ?_;intro U w4 hr X ag;have K:Hid (IM C J z base A S3 c.1 w4):=(I.o.alloc _).aside X (fun k g=>⟨L.o.2 k g,L.o.ngp I.o (by decide) g,L.o.ngt I.o (by decide) g⟩);have V:Hid (IS A S w S3 w4):=(ae.o.alloc _).aside X (fun k g=>(L.o.1.typed g).1);have ah:Hid (Fr 97 4 w4 w.heap.size U (l.length+1) _ S3):=(L.o.later (bA0)).grown (I.o.alloc _) hr ag;clear hr X ag M ac);have el:(l++[(⟨0,c.2,a.2,sNone⟩:Ep)]).length=l.length+1:=by simp
     have ab:Hid (Fr 97 4 w4 w.heap.size U (l++[(⟨0,c.2,a.2,sNone⟩:Ep)]).length ((l++[(⟨0,c.2,a.2,sNone⟩:Ep)]).flatMap (fun e=>epL (zF e))) S3):=by
      show Fr ..;rw[el,List.flatMap_append]
      simpa using ah.o
     have H:Hid ((l++[(⟨0,c.2,a.2,sNone⟩:Ep)]).length=l.length+1):=el;clear el ah;go_wp2_with fail;cases hc:isT C c.1.pos 4 zbJ with
     |true=>
      have aA:=zaB hc (by decide);have HC:=zc (HE.o.trans (if_pos hc));refine (zP C J z base A S3 (c.1) 4 zbJ _ K.o (by decide)).mono ?_;rintro e w5 ⟨rfl,m,s⟩;rw[hc] at m ⊢;have Y:=m;have aa:=V.o.trans s;have af:Hid (Fr 97 4 w5 w.heap.size U (l++[(⟨0,c.2,a.2,sNone⟩:Ep)]).length ((l++[(⟨0,c.2,a.2,sNone⟩:Ep)]).flatMap (fun e=>epL (zF e))) S3):=ab.o.step K.o (by decide) s;clear m s;go_wp2;go_roundg (gk-1)
      case rel=>exact⟨S3,adv c.1,U,(l++[(⟨0,c.2,a.2,sNone⟩:Ep)]),by rw[H.o],HC.o,by rw[zA];omega,by rw[zA,H.o];omega,Y,aa,af.o⟩
      case measure=>omega
     |false=>
      have HC:=zc (HE.o.trans (if_neg (by rw[hc];decide)));refine (zP C J z base A S3 (c.1) 4 zbJ _ K.o (by decide)).mono ?_;rintro e w5 ⟨rfl,m,s⟩;rw[hc] at m ⊢;have Y:=m;have aa:=V.o.trans s;have af:Hid (Fr 97 4 w5 w.heap.size U (l++[(⟨0,c.2,a.2,sNone⟩:Ep)]).length ((l++[(⟨0,c.2,a.2,sNone⟩:Ep)]).flatMap (fun e=>epL (zF e))) S3):=ab.o.step K.o (by decide) s;clear m s;go_wp2_with fail;refine (zc5 C J z base A S3 c.1 125 _ Y).mono ?_;cases ar:zd C 4 zb5 c.1 with
      |error p=>
       rintro e w6 ⟨rfl,hb⟩;have HB:=(HH.back aa).trans hb;have HX:Hid (za7 C true q []= .error p):=bdE HC.o ar;unfold Pan;go_wp2;refine⟨rfl,?_⟩;rw[HX.o];exact⟨rfl,HB⟩
      |ok a6=>
       rintro e w6 ⟨rfl,S6,m,s⟩;have aE:Hid (Fr 97 4 w6 w.heap.size U (l++[(⟨0,c.2,a.2,sNone⟩:Ep)]).length ((l++[(⟨0,c.2,a.2,sNone⟩:Ep)]).flatMap (fun e=>epL (zF e))) S6):=af.o.step Y (by decide) s;have aD:=m;have aC:=aa.trans s;clear m s;have az:=zc (bdO HC.o ar);go_wp2;go_ret;rw[az.o];exact⟨U,S6,by rw[H.o];rfl,aD,aC,aE.o,by show 0<(l++[(⟨0,c.2,a.2,sNone⟩:Ep)]).length;rw[H.o];omega,by show (l++[(⟨0,c.2,a.2,sNone⟩:Ep)]).length<=4000;rw[H.o];omega⟩
   |false=>
    have E:=zc (ztV ak ai);have HE:=zc (bdO HY.o E.o);go_wp2_with fail;refine (zP C J z base A D a.1 1 sAs _ aj (by decide)).mono ?_;rintro e w2 ⟨rfl,m,s⟩;rw[ai] at m ⊢;have N:Hid (IM C J z base A D a.1 w2):=m;have ad:Hid (IS A S w D w2):=al.trans s;have O:Hid (Fr 97 4 w2 w.heap.size r l.length (l.flatMap (fun e=>epL (zF e))) D):=am.o.step aj (by decide) s;clear m s;have aF:=zi4 E.o;have ax:=N.o.mem.inv.pos;have M:=fun o1=>(O.o.later ((Below.refl w2.heap.size w2).alloc (Nat.le_refl _) o1)).1;have ac:=fun o1=>(ad.o.alloc o1).size;go_wp2_with (at_builtin;refine zbd _ rfl _ _ 50 rfl w.heap.size 97 i0 _ 4 56 underlying50 hi an aw au rfl (by decide) (by decide) r l.length _ (by rfl) (M _) w2.heap.size (epL (zF (⟨0,a.2,a.2,sNone⟩:Ep))) (by rfl) (by exact heap_alloc_new w2 _) rfl (zg0 _) (by omega) (ac _) ?_;intro U Z hr X ag;have I:Hid (IM C J z base A D a.1 Z):=(N.o.alloc _).aside X (fun k g=>⟨O.o.2 k g,O.o.ngp N.o (by decide) g,O.o.ngt N.o (by decide) g⟩);have ae:Hid (IS A S w D Z):=(ad.o.alloc _).aside X (fun k g=>(O.o.1.typed g).1);have ah:Hid (Fr 97 4 Z w.heap.size U (l.length+1) _ D):=(O.o.later (bA0)).grown (N.o.alloc _) hr ag;clear hr X ag M ac);have el:(l++[(⟨0,a.2,a.2,sNone⟩:Ep)]).length=l.length+1:=by simp
    have L:Hid (Fr 97 4 Z w.heap.size U (l++[(⟨0,a.2,a.2,sNone⟩:Ep)]).length ((l++[(⟨0,a.2,a.2,sNone⟩:Ep)]).flatMap (fun e=>epL (zF e))) D):=by
     show Fr ..;rw[el,List.flatMap_append]
     simpa using ah.o
    have H:Hid ((l++[(⟨0,a.2,a.2,sNone⟩:Ep)]).length=l.length+1):=el;clear el ah;go_wp2_with fail;cases hc:isT C a.1.pos 4 zbJ with
    |true=>
     have aA:=zaB hc (by decide);have HC:=zc (HE.o.trans (if_pos hc));refine (zP C J z base A D (a.1) 4 zbJ _ I.o (by decide)).mono ?_;rintro e w4 ⟨rfl,m,s⟩;rw[hc] at m ⊢;have K:Hid (IM C J z base A D (adv (a.1)) w4):=m;have V:Hid (IS A S w D w4):=ae.o.trans s;have ab:Hid (Fr 97 4 w4 w.heap.size U (l++[(⟨0,a.2,a.2,sNone⟩:Ep)]).length ((l++[(⟨0,a.2,a.2,sNone⟩:Ep)]).flatMap (fun e=>epL (zF e))) D):=L.o.step I.o (by decide) s;clear m s;go_wp2;go_roundg (gk-1)
     case rel=>exact⟨D,adv a.1,U,(l++[(⟨0,a.2,a.2,sNone⟩:Ep)]),by rw[H.o],HC.o,by rw[zA];omega,by rw[zA,H.o];omega,K.o,V.o,ab.o⟩
     case measure=>omega
    |false=>
     have HC:=zc (HE.o.trans (if_neg (by rw[hc];decide)));refine (zP C J z base A D (a.1) 4 zbJ _ I.o (by decide)).mono ?_;rintro e w4 ⟨rfl,m,s⟩;rw[hc] at m ⊢;have K:Hid (IM C J z base A D (a.1) w4):=m;have V:Hid (IS A S w D w4):=ae.o.trans s;have ab:Hid (Fr 97 4 w4 w.heap.size U (l++[(⟨0,a.2,a.2,sNone⟩:Ep)]).length ((l++[(⟨0,a.2,a.2,sNone⟩:Ep)]).flatMap (fun e=>epL (zF e))) D):=L.o.step I.o (by decide) s;clear m s;go_wp2_with fail;refine (zc5 C J z base A D a.1 125 _ K.o).mono ?_;cases ap:zd C 4 zb5 a.1 with
     |error p=>
      rintro e w5 ⟨rfl,hb⟩;have HB:=(HH.back V.o).trans hb;have HX:Hid (za7 C true q []= .error p):=bdE HC.o ap;unfold Pan;go_wp2;refine⟨rfl,?_⟩;rw[HX.o];exact⟨rfl,HB⟩
     |ok a5=>
      rintro e w5 ⟨rfl,S5,m,s⟩;have af:Hid (Fr 97 4 w5 w.heap.size U (l++[(⟨0,a.2,a.2,sNone⟩:Ep)]).length ((l++[(⟨0,a.2,a.2,sNone⟩:Ep)]).flatMap (fun e=>epL (zF e))) S5):=ab.o.step K.o (by decide) s;have Y:=m;have aa:=V.o.trans s;clear m s;have aB:=zc (bdO HC.o ap);go_wp2;go_ret;rw[aB.o];exact⟨U,S5,by rw[H.o];rfl,Y,aa,af.o,by show 0<(l++[(⟨0,a.2,a.2,sNone⟩:Ep)]).length;rw[H.o];omega,by show (l++[(⟨0,a.2,a.2,sNone⟩:Ep)]).length<=4000;rw[H.o];omega⟩
end Go.Proofs.YtgcbmogmniahjaaGreat
namespace Go.Proofs.YtgcbmogmniahjaaGreat
open Go.Proofs.Tryz
set_option maxRecDepth 100000
set_option maxHeartbeats 3200000
open Go.RowKit Go.PlainAid Go.Sort
theorem zmm {α:Type} (f:α->List Value) (m:Nat) (q: ∀x,(f x).length=m): ∀(l:List α) (j i:Nat) (x y:α) (v:Value),l[j]? =some x->i<m->f y=(f x).set i v->(l.flatMap f).set (j*m+i) v=(l.set j y).flatMap f:=by
 intro l
 induction l with
 |nil=>intro j i x y v h;simp at h
 |cons z l D=>
  intro j i x y v h w A
  match j with
  |0=>
   simp only[List.getElem?_cons_zero,Option.some.injEq] at h;subst h;rw[List.flatMap_cons,Nat.zero_mul,Nat.zero_add,List.set_append_left _ _ (by rw[q];exact w),List.set_cons_zero,List.flatMap_cons,A]
  |j+1=>
   simp only[List.getElem?_cons_succ] at h;rw[List.flatMap_cons,List.set_append_right _ _ (by rw[q,Nat.succ_mul];omega),q,List.set_cons_succ,List.flatMap_cons,<-D j i x y v h w A];congr 2;rw[Nat.succ_mul];omega
def mxE (s:BA) (l:List Ep) (j:Nat):List Ep:=(l.take j).map (zax s)++(l.drop j).map zF
variable (s:BA) (w:List Ep) (C:Cx) (g b c d n:Nat) (W:Rw) (T q:Sv) (p:PS) (V:World) {t:BA} {h:List Ep} {A:Nat} {B:Ep} {D:Cx} {u:Int} {E:PS}
theorem zmn:(mxE s w g).length=w.length:=by simp[mxE];omega
theorem zmo (F:h[A]? =some B):(mxE t h A)[A]? =some (zF B):=by
 obtain⟨w,rfl⟩:=List.getElem?_eq_some_iff.1 F;have q:((h.take A).map (zax t)).length=A:=by simp;omega
 rw[mxE,List.getElem?_append_right (by omega),q,Nat.sub_self,List.drop_eq_getElem_cons w];rfl
theorem ztX (F:h[A]? =some B):(mxE t h A).set A (zax t B)=mxE t h (A+1):=by
 obtain⟨q,rfl⟩:=List.getElem?_eq_some_iff.1 F;have w:((h.take A).map (zax t)).length=A:=by simp;omega
 rw[mxE,List.set_append_right _ _ (by omega),w,Nat.sub_self,List.drop_eq_getElem_cons q,List.map_cons,List.set_cons_zero,mxE,List.take_succ_eq_append_getElem q,List.map_append,List.append_assoc];rfl
theorem ztY:mxE s w 0=w.map zF:=by simp[mxE]
theorem ztZ:mxE s w w.length=w.map (zax s):=by simp[mxE]
theorem zua (x:Ep) (w:World):
  Calls prog 249 #[epV x] w fun e h=>e= .returned (.bool (x.loc.toList==[100,101,102,97,117,108,116]))/\Bw w h:=by
 unfold epV;cases q:(x.loc.toList==[100,101,102,97,117,108,116]) with
 |true=>
  go_enter func249,ntmps249;go_wp2;go_ret;exact⟨rfl,bA0⟩
 |false=>
  go_enter func249,ntmps249;go_wp2;go_ret;exact⟨rfl,bA0⟩
theorem zub (F:h[A]? =some B):zaI (h.drop A)=((B.loc.toList==[100,101,102,97,117,108,116])||zaI (h.drop (A+1))):=by
 obtain⟨q,rfl⟩:=List.getElem?_eq_some_iff.1 F;rw[List.drop_eq_getElem_cons q];simp only[zaI,List.any_cons]
theorem zuc (F:Nat) (r:Rw) (l:List Ep) (w:World) (h:OwnR w g 97 4 r l.length (l.flatMap fun e=>epL (zF e))) (hl:l.length<=4000) (X:r.a=some ⟨F,0,none⟩):
  Calls prog 255 #[.slice (some ⟨F,0,none⟩) l.length r.cap,.func (.func 249) #[] #[]] w fun e w'=>(∃v:Int,e= .returned (.int .i64 v)/\decide (0<=v)=zaI l)/\Bw w w':=by
 have Y:=zc h;have M:=zc X;clear h X;go_enter func255,ntmps255;go_wp2;go_loopg [8] (l.length+1) (fun k i wr=>∃j:Nat,i= .int .i64 j/\j+k=l.length+1/\zaI (l.drop j)=zaI l/\Bw w wr)
 case atStart=>exact⟨0,rfl,by omega,by simp,Below.refl _ _⟩
 case round=>
  obtain⟨j,rfl,hj,he,J⟩:=hrel;have O:=zc he;clear he;by_cases K:j<l.length
  ·have H:(j:Int)<(l.length:Int):=by omega
   obtain⟨x,N⟩:=zfY K;have L:=zc (Y.o.keep fun k F=>J.block k (Y.o.typed F).2.1);obtain⟨g',A,q⟩:=OwnR.elem (f:=fun e=>epL (zF e)) (m:=4) (fun _=>rfl) L.o N;have eg:g'=F:=by have:=A.symm.trans M.o;simpa using this
   subst eg;have k0:=q 0 (by omega);have k1:=q 1 (by omega);have k2:=q 2 (by omega);have k3:=q 3 (by omega);simp only[epL,zF,Nat.add_zero,List.getElem?_cons_zero,List.getElem?_cons_succ] at k0 k1 k2 k3;have Z:=zub N;clear q A N;obtain⟨I,z⟩: ∃I,I=j+1:=⟨_,rfl⟩;have ej:(j:Int)+1=(I:Int):=by omega
   have V:=zc z;clear z;go_wp2_with fail;refine (zua (zF x) _).mono ?_;rintro e w1 ⟨rfl,E⟩;have D:=J.trans (E.mono J.size);clear E;rw[show (zF x).loc=x.loc from rfl];cases U:(x.loc.toList==[100,101,102,97,117,108,116]) with
   |true=>
    go_wp2;go_ret;refine⟨⟨_,rfl,?_⟩,D⟩;rw[<-O.o,Z,U];simp
   |false=>
    go_wp2;go_roundg (gk-1)
    case rel=>
     refine⟨I,rfl,by have:=V.o;omega,?_,D⟩;rw[<-O.o,Z,U,V.o];simp
    case measure=>omega
  ·have H: ¬(j:Int)<(l.length:Int):=by omega
   go_wp2;go_ret;refine⟨⟨_,rfl,?_⟩,J⟩;rw[<-O.o,List.drop_eq_nil_of_le (by omega)];rfl
theorem zmp (F:Nat) (r:Rw) (l:List Ep) (w:World) (h:OwnR w g 97 4 r l.length (l.flatMap fun e=>epL (zF e))) (H:l.length<=4000) (A:r.a=some ⟨F,0,none⟩):
  Calls prog 250 #[.slice (some ⟨F,0,none⟩) l.length r.cap,.func (.func 249) #[] #[]] w fun e E=>e= .returned (.bool (zaI l))/\Bw w E:=by
 have D:=zc h;have q:=zc A;clear h A;go_enter func250,ntmps250;go_wp2_with fail;refine (zuc g F r l _ D.o H q.o).mono ?_;rintro e K ⟨⟨v,rfl,z⟩,I⟩;have J:=zc z;clear z;go_wp2;go_ret;exact⟨zi J.o,I⟩
def zaF (C:Cx) (l:List Ep) (q:PS):PR:=
 if isT C q.pos 1 zX||zaI l then bd (zd C 1 zX q) fun a=>bd (zM C a) fun b=>bd (zd C 4 cSemi b.1) fun c=>zab (fun e=>zq C (zax b.2 e)) l (.ok c)
 else bd (zd C 4 cSemi q) fun c=>zab (fun e=>zq C (zF e)) l (.ok c)
theorem zmq (X:Ep->Ep) (l:List Ep):(l.map X).flatMap epL=l.flatMap fun e=>epL (X e):=by rw[List.flatMap_map]
theorem zud (F:Nat) (r:Rw) (S I:Sv) (q0 q:PS) (l:List Ep) (w wc:World) (hh:IM C g b c d S q0 w) (h:IM C g b c d I q wc) (h0:IS d S w I wc) (hl:l.length<=4000) (hf:Fr 97 4 wc n r l.length (l.flatMap (fun e=>epL (zF e))) I) (hg:r.a=some ⟨F,0,none⟩) (hi:isT C q.pos 1 zX=false) (ha:zaI l=false):
  Calls prog 232 #[.pointer (some ⟨d,0,none⟩),.slice (some ⟨F,0,none⟩) l.length r.cap] wc (zV C g b c d (zaF C l q) id (fun _=>.tuple #[]) S w):=by
 have HF:=zc hf;have HG:=zc hg;have HY:Hid (zaF C l q=bd (zd C 4 cSemi q) fun G=>zab (fun e=>zq C (zF e)) l (.ok G)):=by show _=_;rw[zaF,hi,ha];rfl
 clear hf hg;go_enter func232,ntmps232;go_wp2_with fail;refine (zcu C g b c d I q 1 zX _ h).mono ?_;rintro e w1 ⟨rfl,A⟩;rw[hi];have aq:=h.later A;have ai:=(h0.trans (IS.below A));have ad:IS d I wc I w1:=IS.below A;clear A;have ae:Hid (Fr 97 4 w1 n r l.length (l.flatMap (fun e=>epL (zF e))) I):=HF.o.step h (by decide) ad;clear ad;go_wp2_with fail;refine (zmp n F r l _ ae.o.1 hl HG.o).mono ?_;rintro e w2 ⟨rfl,A⟩;rw[ha];have am:Hid (Fr 97 4 w2 n r l.length (l.flatMap (fun e=>epL (zF e))) I):=ae.o.later A;have V:=aq.later A;have Z:=(ai.trans (IS.below A));clear A;go_wp2_with fail;refine (zc5 C g b c d I q 59 _ V).mono ?_;cases L:zd C 4 cSemi q with
 |error p=>
  rintro e w3 ⟨rfl,A⟩;have HB:=(hh.back Z).trans A;have HX:Hid (zaF C l q= .error p):=bdE HY.o L;unfold Pan;go_wp2;refine⟨rfl,?_⟩;rw[HX.o];exact⟨rfl,HB⟩
 |ok a3=>
  rintro e w3 ⟨rfl,S3,aj,s⟩;have an:Hid (Fr 97 4 w3 n r l.length (l.flatMap (fun e=>epL (zF e))) S3):=am.o.step V (by decide) s;have ao:=Z.trans s;clear s;have ak:=zc (bdO HY.o L);have aa:0<a3.pos:=by rw[(zcb L).1];exact Nat.succ_pos _
  go_wp2;go_loopg [39] l.length (fun k i wr=>∃(j:Nat) (N:Sv) (J:PS),i= .int .i64 j/\j+k=l.length/\zaF C l q=zab (fun e=>zq C (zF e)) (l.drop j) (.ok J)/\0<J.pos/\IM C g b c d N J wr/\IS d S w N wr/\Fr 97 4 wr n r l.length (l.flatMap fun e=>epL (zF e)) N)
  case atStart=>exact⟨0,S3,a3,rfl,by omega,ak.o,aa,aj,ao,an.o⟩
  case round=>
   obtain⟨j,N,J,rfl,hj,hy,Y,m',s',f'⟩:=hrel;have ab:=zc hy;have H:=m';have O:=s';have ac:Hid (Fr 97 4 wr n r l.length (l.flatMap fun e=>epL (zF e)) N):=f';clear hy m' s' f';by_cases ag:j<l.length
   ·have af:(j:Int)<(l.length:Int):=by omega
    obtain⟨x,hx⟩:=zfY ag;obtain⟨g',X,E⟩:=OwnR.elem (f:=fun e=>epL (zF e)) (m:=4) (fun _=>rfl) ac.o.1 hx;have eg:g'=F:=by have:=X.symm.trans HG.o;simpa using this
    subst eg;have k0:=E 0 (by omega);have k1:=E 1 (by omega);have k2:=E 2 (by omega);have k3:=E 3 (by omega);simp only[epL,zF,Nat.add_zero,List.getElem?_cons_zero,List.getElem?_cons_succ] at k0 k1 k2 k3;have HZ:=zc (ab.o.trans (zi5 (fun e=>zq C (zF e)) hx J));clear E X hx;obtain⟨U,K⟩: ∃U,U=j+1:=⟨_,rfl⟩;have ej:(j:Int)+1=(U:Int):=by omega
    rw[<-K] at HZ;have av:=H.lt;have HJ:=zc K;clear K;go_wp2_with fail;refine (zfD C g b c d N J (zF x) _ (H.alloc _) Y).mono ?_;cases hn:zq C (zF x) J with
    |error p=>
     rintro e wy ⟨rfl,A⟩;have HB:Below c w wy:=(hh.back (O.alloc _)).trans A;have HX:Hid (zaF C l q= .error p):=by show _=_;rw[HZ.o,hn];exact zhe _ _ _
     unfold Pan;go_wp2;refine⟨rfl,?_⟩;rw[HX.o];exact⟨rfl,HB⟩
    |ok ay=>
     rintro e wy ⟨rfl,Sy,ah,s⟩;have au:IS d S w Sy wy:=(O.alloc _).trans s;have al:Hid (Fr 97 4 wy n r l.length (l.flatMap fun e=>epL (zF e)) Sy):=(ac.o.later (bA0)).step (H.alloc _) (by decide) s;have ap:Hid (zaF C l q=zab (fun e=>zq C (zF e)) (l.drop U) (.ok ay)):=by show _=_;rw[HZ.o,hn]
     have ar:Hid (0<ay.pos):=by show 0<ay.pos;rw[zmk hn];exact Y
     clear s;go_wp2;go_roundg (gk-1)
     case rel=>exact⟨U,Sy,ay,rfl,by have:=HJ.o;omega,ap.o,ar.o,ah,au,al.o⟩
     case measure=>omega
   ·have af: ¬(j:Int)<(l.length:Int):=by omega
    have HZ:Hid (zaF C l q= .ok J):=by show _=_;rw[ab.o,List.drop_eq_nil_of_le (by omega)];rfl
    go_wp2;go_end0;rw[HZ.o];exact⟨rfl,N,H,O⟩
theorem zue (F:Nat) (r:Rw) (S D:Sv) (Z q:PS) (l:List Ep) (w wc:World) (hh:IM C g b c d S Z w) (h:IM C g b c d D q wc) (h0:IS d S w D wc) (hl:l.length<=4000) (X:Fr 97 4 wc n r l.length (l.flatMap (fun e=>epL (zF e))) D) (V:r.a=some ⟨F,0,none⟩) (K:isT C q.pos 1 zX=false) (Y:zaI l=true):
  Calls prog 232 #[.pointer (some ⟨d,0,none⟩),.slice (some ⟨F,0,none⟩) l.length r.cap] wc (zV C g b c d (zaF C l q) id (fun _=>.tuple #[]) S w):=by
 have HF:=zc X;have HG:=zc V;have HY:Hid (zaF C l q= .error (zt C q.pos)):=by show _=_;rw[zaF,K,Y,if_pos (by decide),zhG K];rfl
 clear X V;go_enter func232,ntmps232;go_wp2_with fail;refine (zcu C g b c d D q 1 zX _ h).mono ?_;rintro e U ⟨rfl,z⟩;rw[K];have O:=h.later z;have M:=(h0.trans (IS.below z));have H:IS d D wc D U:=IS.below z;clear z;have J:Hid (Fr 97 4 U n r l.length (l.flatMap (fun e=>epL (zF e))) D):=HF.o.step h (by decide) H;clear H;go_wp2_with fail;refine (zmp n F r l _ J.o.1 hl HG.o).mono ?_;rintro e w2 ⟨rfl,z⟩;rw[Y];have aa:Hid (Fr 97 4 w2 n r l.length (l.flatMap (fun e=>epL (zF e))) D):=J.o.later z;have L:=O.later z;have N:=(M.trans (IS.below z));clear z;go_wp2_with fail;refine (zeT C g b c d D q zX _ L).mono ?_;rw[zhG K];rintro e w3 ⟨rfl,z⟩;have HB:=(hh.back N).trans z;have HX:Hid (zaF C l q= .error (zt C q.pos)):=HY.o;unfold Pan;go_wp2;refine⟨rfl,?_⟩;rw[HX.o];exact⟨rfl,HB⟩
theorem zuf (F:Nat) (r:Rw) (S Sc:Sv) (q0 q:PS) (l:List Ep) (w wc:World) (hh:IM C g b c d S q0 w) (h:IM C g b c d Sc q wc) (h0:IS d S w Sc wc) (hC:zbu C) (hl:l.length<=4000) (hf:Fr 97 4 wc n r l.length (l.flatMap (fun e=>epL (zF e))) Sc) (hg:r.a=some ⟨F,0,none⟩) (ah:w.heap.size<=F) (hi:isT C q.pos 1 zX=true):
  Calls prog 232 #[.pointer (some ⟨d,0,none⟩),.slice (some ⟨F,0,none⟩) l.length r.cap] wc (zV C g b c d (zaF C l q) id (fun _=>.tuple #[]) S w):=by
 have HF:=zc hf;have HG:=zc hg;have au:=zc ah;have HY:Hid (zaF C l q=bd (zd C 1 zX q) fun a=>bd (zM C a) fun G=>bd (zd C 4 cSemi G.1) fun P=>zab (fun e=>zq C (zax G.2 e)) l (.ok P)):=by show _=_;rw[zaF,hi];rfl
 clear hf hg ah;go_enter func232,ntmps232;go_wp2_with fail;refine (zcu C g b c d Sc q 1 zX _ h).mono ?_;rintro e w1 ⟨rfl,M⟩;rw[hi];have az:=h.later M;have ag:=(h0.trans (IS.below M));have ar:IS d Sc wc Sc w1:=IS.below M;clear M;have aB:Hid (Fr 97 4 w1 n r l.length (l.flatMap (fun e=>epL (zF e))) Sc):=HF.o.step h (by decide) ar;clear ar;go_wp2_with fail;refine (zeT C g b c d Sc q zX _ az).mono ?_;cases ax:zd C 1 zX q with
 |error p=>
  rintro e w2 ⟨rfl,M⟩;have HB:=(hh.back ag).trans M;have Y:Hid (zaF C l q= .error p):=bdE HY.o ax;unfold Pan;go_wp2;refine⟨rfl,?_⟩;rw[Y.o];exact⟨rfl,HB⟩
 |ok a2=>
  rintro e w2 ⟨rfl,S2,av,s⟩;have aM:Hid (Fr 97 4 w2 n r l.length (l.flatMap (fun e=>epL (zF e))) S2):=aB.o.step az (by decide) s;have ai:=ag.trans s;clear s;have aw:=zc (bdO HY.o ax);go_wp2_with fail;refine (zg2 C g b c d S2 a2 _ av hC).mono ?_;cases am:zM C a2 with
  |error p=>
   rintro e w3 ⟨rfl,M⟩;have HB:=(hh.back ai).trans M;have Y:Hid (zaF C l q= .error p):=bdE aw.o am;unfold Pan;go_wp2;refine⟨rfl,?_⟩;rw[Y.o];exact⟨rfl,HB⟩
  |ok z=>
   rintro e w3 ⟨rfl,S3,ae,s⟩;have aa:Hid (Fr 97 4 w3 n r l.length (l.flatMap (fun e=>epL (zF e))) S3):=aM.o.step av (by decide) s;have aC:=ai.trans s;clear s;have an:=zc (bdO aw.o am);have ac:Hid (Fr 97 4 w3 n r l.length ((mxE z.2 l 0).flatMap epL) S3):=by show Fr _ _ _ _ _ _ _ _;rw[ztY,zmq];exact aa.o
   have ab:F≠d:=aa.o.ngp ae (by decide) (by rw[Rw.blk,HG.o];rfl);have ap:F≠g:=aa.o.ngt ae (by decide) (by rw[Rw.blk,HG.o];rfl);have V:Hid (¬S3.has F):=aa.o.2 F (by rw[Rw.blk,HG.o];rfl);have aq:=zc ab;have al:=zc ap;clear ab ap;go_wp2;go_loopg [22] l.length (fun k i wr=>∃(j:Nat),i= .int .i64 j/\j+k=l.length/\IM C g b c d S3 z.1 wr/\IS d S w S3 wr/\Fr 97 4 wr n r l.length ((mxE z.2 l j).flatMap epL) S3)
   case atStart=>exact⟨0,rfl,by omega,ae,aC,ac.o⟩
   case round=>
    obtain⟨j,rfl,hj,m',s',f'⟩:=hrel;have E:=m';have I:=s';have L:Hid (Fr 97 4 wr n r l.length ((mxE z.2 l j).flatMap epL) S3):=f';clear m' s' f';by_cases Z:j<l.length
    ·have U:(j:Int)<(l.length:Int):=by omega
     obtain⟨x,hx⟩:=zfY Z;have Y:=zc hx;have K:=L.o.1;have ho:OwnR wr n 97 4 r (mxE z.2 l j).length ((mxE z.2 l j).flatMap epL):=by rw[zmn];exact K
     obtain⟨g',N,D⟩:=OwnR.elem (f:=epL) (m:=4) (fun _=>rfl) ho (zmo hx);have eg:g'=F:=by have:=N.symm.trans HG.o;simpa using this
     subst eg;have k0:=D 0 (by omega);have k3:=D 3 (by omega);simp only[epL,zF,Nat.add_zero,List.getElem?_cons_zero,List.getElem?_cons_succ] at k0 k3;unfold OwnR at K;rw[HG.o] at K;have aP:=K.frozenAt;have aL:=zc K;clear D N hx K ho;obtain⟨X,J⟩: ∃X,X=j+1:=⟨_,rfl⟩;have ej:(j:Int)+1=(X:Int):=by omega
     have HJ:=zc J;clear J;go_wp2;go_roundg (gk-1)
     case rel=>
      refine⟨X,rfl,by have:=HJ.o;omega,(E.set aq.o al.o V.o _ _).set aq.o al.o V.o _ _,(I.new au.o _ _).new au.o _ _,?_,L.o.2⟩;have aJ:=(aL.o.stored (j*4+0) (.int .i64 2)).1;have ao:=(aJ.stored (j*4+3) (.string z.2)).1;rw[zmm epL 4 (fun _=>rfl) _ j 0 (zF x) ⟨2,x.name,x.loc,sNone⟩ (.int .i64 2) (zmo Y.o) (by omega) rfl,zmm epL 4 (fun _=>rfl) ((mxE z.2 l j).set j ⟨2,x.name,x.loc,sNone⟩) j 3 ⟨2,x.name,x.loc,sNone⟩ (zax z.2 x) (.string z.2) (List.getElem?_set_self (by rw[zmn];exact Z)) (by omega) rfl,List.set_set,ztX Y.o,<-HJ.o] at ao;unfold OwnR;rw[HG.o];exact ao
     case measure=>omega
    ·have U: ¬(j:Int)<(l.length:Int):=by omega
     have aI:j=l.length:=by omega
     subst aI;have aE:Hid (Fr 97 4 wr n r l.length (l.flatMap fun e=>epL (zax z.2 e)) S3):=by show Fr _ _ _ _ _ _ _ _;rw[<-zmq,<-ztZ z.2 l];exact L.o
     go_wp2_with fail;refine (zc5 C g b c d S3 z.1 59 _ E).mono ?_;cases ad:zd C 4 cSemi z.1 with
     |error p=>
      rintro e w4 ⟨rfl,M⟩;have HB:=(hh.back I).trans M;have Y:Hid (zaF C l q= .error p):=bdE an.o ad;unfold Pan;go_wp2;refine⟨rfl,?_⟩;rw[Y.o];exact⟨rfl,HB⟩
     |ok a4=>
      rintro e w4 ⟨rfl,S4,aK,s⟩;have ac:Hid (Fr 97 4 w4 n r l.length (l.flatMap fun e=>epL (zax z.2 e)) S4):=aE.o.step E (by decide) s;have aG:=I.trans s;clear s;have aN:=zc (bdO an.o ad);have aj:0<a4.pos:=by rw[(zcb ad).1];exact Nat.succ_pos _
      go_wp2;go_loopg [39] l.length (fun k i wr=>∃(j:Nat) (S':Sv) (q':PS),i= .int .i64 j/\j+k=l.length/\zaF C l q=zab (fun e=>zq C (zax z.2 e)) (l.drop j) (.ok q')/\0<q'.pos/\IM C g b c d S' q' wr/\IS d S w S' wr/\Fr 97 4 wr n r l.length (l.flatMap fun e=>epL (zax z.2 e)) S')
      case atStart=>exact⟨0,S4,a4,rfl,by omega,aN.o,aj,aK,aG,ac.o⟩
      case round=>
       obtain⟨j,S',q',rfl,hj,hy,af,m',s',f'⟩:=hrel;have ak:=zc hy;have E:=m';have I:=s';have L:Hid (Fr 97 4 wr n r l.length (l.flatMap fun e=>epL (zax z.2 e)) S'):=f';clear hy m' s' f';by_cases Z:j<l.length
       ·have U:(j:Int)<(l.length:Int):=by omega
        obtain⟨x,hx⟩:=zfY Z;obtain⟨g',N,D⟩:=OwnR.elem (f:=fun e=>epL (zax z.2 e)) (m:=4) (fun _=>rfl) L.o.1 hx;have eg:g'=F:=by have:=N.symm.trans HG.o;simpa using this
        subst eg;have k0:=D 0 (by omega);have k1:=D 1 (by omega);have k2:=D 2 (by omega);have k3:=D 3 (by omega);simp only[epL,zax,Nat.add_zero,List.getElem?_cons_zero,List.getElem?_cons_succ] at k0 k1 k2 k3;have HZ:=zc (ak.o.trans (zi5 (fun e=>zq C (zax z.2 e)) hx q'));clear D N hx;obtain⟨X,J⟩: ∃X,X=j+1:=⟨_,rfl⟩;have ej:(j:Int)+1=(X:Int):=by omega
        rw[<-J] at HZ;have ab:=E.lt;have HJ:=zc J;clear J;go_wp2_with fail;refine (zfD C g b c d S' q' (zax z.2 x) _ (E.alloc _) af).mono ?_;cases hn:zq C (zax z.2 x) q' with
        |error p=>
         rintro e wy ⟨rfl,M⟩;have HB:Below c w wy:=(hh.back (I.alloc _)).trans M;have Y:Hid (zaF C l q= .error p):=by show _=_;rw[HZ.o,hn];exact zhe _ _ _
         unfold Pan;go_wp2;refine⟨rfl,?_⟩;rw[Y.o];exact⟨rfl,HB⟩
        |ok ay=>
         rintro e wy ⟨rfl,Sy,aH,s⟩;have aF:IS d S w Sy wy:=(I.alloc _).trans s;have aA:Hid (Fr 97 4 wy n r l.length (l.flatMap fun e=>epL (zax z.2 e)) Sy):=(L.o.later (bA0)).step (E.alloc _) (by decide) s;have aD:Hid (zaF C l q=zab (fun e=>zq C (zax z.2 e)) (l.drop X) (.ok ay)):=by show _=_;rw[HZ.o,hn]
         have aO:Hid (0<ay.pos):=by show 0<ay.pos;rw[zmk hn];exact af
         clear s;go_wp2;go_roundg (gk-1)
         case rel=>exact⟨X,Sy,ay,rfl,by have:=HJ.o;omega,aD.o,aO.o,aH,aF,aA.o⟩
         case measure=>omega
       ·have U: ¬(j:Int)<(l.length:Int):=by omega
        have HZ:Hid (zaF C l q= .ok q'):=by show _=_;rw[ak.o,List.drop_eq_nil_of_le (by omega)];rfl
        go_wp2;go_end0;rw[HZ.o];exact⟨rfl,S',E,I⟩
theorem zug (G:PS) (l:List Ep) (w wc:World) (M:IM C g b c d T p w) (h:IM C g b c d q G wc) (O:IS d T w q wc) (Y:zbu C) (L:l.length<=4000) (N:l.length≠0) (H:Fr 97 4 wc n W l.length (l.flatMap (fun e=>epL (zF e))) q) (K:w.heap.size<=n):
  Calls prog 232 #[.pointer (some ⟨d,0,none⟩),.slice W.a l.length W.cap] wc (zV C g b c d (zaF C l G) id (fun _=>.tuple #[]) T w):=by
 rcases H.1.nil_or with ⟨_,_,e⟩|⟨F,I⟩
 ·exact absurd e N
 ·have V:w.heap.size<=F:=Nat.le_trans K (H.1.typed (show W.blk=some F by rw[Rw.blk,I];rfl)).1;rw[I];cases U:isT C G.pos 1 zX with
  |true=>exact zuf C g b c d n F W T q p G l w wc M h O Y L H I V U
  |false=>
   cases X:zaI l with
   |true=>exact zue C g b c d n F W T q p G l w wc M h O L H I U X
   |false=>exact zud C g b c d n F W T q p G l w wc M h O L H I U X
theorem zuh {b:PS} (h:zaa D u t E= .ok b):b={E with st:=E.st++[⟨u,t,(E.ex.length:Int)-1⟩]}:=by
 unfold zaa at h
 split at h
 ·cases h
 ·cases h;rfl
theorem zi7 {s:BA} {b:PS} (h:stmtI D u t s E= .ok b) (I:0<s.size):(∃l e,b.st=l++[⟨u,t,e⟩])/\0<b.pos:=by
 obtain⟨a,H,z⟩:=zo h;obtain⟨c,F,A⟩:=zo z;have w:=zjZ _ F;have G:=zuh A;subst G;refine⟨⟨_,_,rfl⟩,?_⟩;rw[w];show 0<a.pos+s.size;omega
theorem zui {b:PS} (h:letJ D u E= .ok b):(∃l e,b.st=l++[⟨u,(ze D E.pos).text,e⟩])/\0<b.pos:=by
 obtain⟨a,w,z⟩:=zo h;obtain⟨c,F,A⟩:=zo z;have:=zi7 A (by decide);rw[(zb6 w).1] at this;exact this
theorem zuj {b:PS} (h:fnI D E= .ok b):(∃l e,b.st=l++[⟨2,(ze D E.pos).text,e⟩])/\0<b.pos:=by
 obtain⟨a,F,z⟩:=zo h;obtain⟨c,H,A⟩:=zo z;obtain⟨d,G,w⟩:=zo A;have:=zi7 w (by decide);rw[(zb6 F).1] at this;exact this
theorem zmr (l:List Sm) (k e:Int) (n:BA) (w:World) (h:IM C g b c d T p w) (I:p.st=l++[⟨k,n,e⟩]) (E:n.size<=281474976710656) (H:0<p.pos):
  Calls prog 235 #[.pointer (some ⟨d,0,none⟩)] w (zV C g b c d (zq C ⟨1,n,n,sNone⟩ p) id (fun _=>.tuple #[]) T w):=zpe C g b c d T p l ⟨k,n,e⟩ w h I E H
def zaz (C:Cx) (q:PS):PR:=
 if isT C q.pos 4 zO then bd (za7 C true (adv q) []) fun a=>zaF C a.2 a.1
 else if isT C q.pos 4 zz then bd (zd C 1 zX (adv q)) fun a=>bd (zM C a) fun b=>bd (zd C 4 cSemi b.1) fun c=>zq C ⟨3,sNone,sNone,b.2⟩ c
 else if isT C q.pos 1 sDefault then bd (stmtI C 1 zcs cSemi (adv q)) fun a=>zq C ⟨1,sDefault,zcs,sNone⟩ a
 else if isT C q.pos 1 zH then bd (letJ C 1 (adv q)) fun a=>zq C ⟨1,(ze C (q.pos+1)).text,(ze C (q.pos+1)).text,sNone⟩ a
 else if isT C q.pos 1 zW then bd (fnI C (adv q)) fun a=>zq C ⟨1,(ze C (q.pos+1)).text,(ze C (q.pos+1)).text,sNone⟩ a
 else .error (zt C q.pos)
theorem zuk (h:IM C g b c d T p V) (hC:zbu C) (Z:isT C p.pos 4 zO=true):
  Calls prog 217 #[.pointer (some ⟨d,0,none⟩)] V (zV C g b c d (zaz C p) id (fun _=>.tuple #[]) T V):=by
 have HY:Hid (zaz C p=bd (za7 C true (adv p) []) fun a=>zaF C a.2 a.1):=by show _=_;rw[zaz,Z];rfl
 go_enter func217,ntmps217;go_wp2_with fail;refine (zP C g b c d T p 4 zO _ h (by decide)).mono ?_;rintro e w1 ⟨rfl,K,A⟩;rw[Z] at K ⊢;go_wp2_with fail;refine (ztW C g b c d T (adv p) _ K).mono ?_;cases H:za7 C true (adv p) [] with
 |error F=>
  rintro e w3 ⟨rfl,hb⟩;have U:=(h.back A).trans hb;have L:Hid (zaz C p= .error F):=bdE HY.o H;unfold Pan;go_wp2;refine⟨rfl,?_⟩;rw[L.o];exact⟨rfl,U⟩
 |ok M=>
  rintro e w3 ⟨r,S3,rfl,G,s,f,l0,l1⟩;have X:=A.trans s;have Y:=zc f;clear s f;have I:=zc (bdO HY.o H);go_wp2_with fail;refine (zug C g b c d _ r T S3 p M.1 M.2 V _ h G X hC l1 (by omega) Y.o A.size).mono ?_;cases E:zaF C M.2 M.1 with
  |error F=>
   rintro e w4 ⟨rfl,U⟩;have L:=zc (I.o.trans E);unfold Pan;go_wp2;refine⟨rfl,?_⟩;rw[L.o];exact⟨rfl,U⟩
  |ok a4=>
   rintro e w4 ⟨rfl,S4,O,N⟩;have L:=zc (I.o.trans E);go_wp2;go_end0;rw[L.o];exact⟨rfl,S4,O,N⟩
theorem zul (h:IM C g b c d T p V) (hC:zbu C) (h1:isT C p.pos 4 zO=false) (h2:isT C p.pos 4 zz=true):
  Calls prog 217 #[.pointer (some ⟨d,0,none⟩)] V (zV C g b c d (zaz C p) id (fun _=>.tuple #[]) T V):=by
 have HY:Hid (zaz C p=bd (zd C 1 zX (adv p)) fun a=>bd (zM C a) fun F=>bd (zd C 4 cSemi F.1) fun G=>zq C ⟨3,sNone,sNone,F.2⟩ G):=by show _=_;rw[zaz,h1,h2];rfl
 go_enter func217,ntmps217;go_wp2_with fail;refine (zP C g b c d T p 4 zO _ h (by decide)).mono ?_;rintro e w1 ⟨rfl,ac,af⟩;rw[h1] at ac ⊢;go_wp2_with fail;refine (zP C g b c d T p 4 zz _ ac (by decide)).mono ?_;rintro e w2 ⟨rfl,M,s⟩;rw[h2] at M ⊢;have O:=af.trans s;clear s;go_wp2_with fail;refine (zeT C g b c d T (adv p) zX _ M).mono ?_;cases X:zd C 1 zX (adv p) with
 |error P=>
  rintro e w3 ⟨rfl,H⟩;have I:=(h.back O).trans H;have J:Hid (zaz C p= .error P):=bdE HY.o X;unfold Pan;go_wp2;refine⟨rfl,?_⟩;rw[J.o];exact⟨rfl,I⟩
 |ok a3=>
  rintro e w3 ⟨rfl,S3,ah,s⟩;have Z:=O.trans s;clear s;have Y:=zc (bdO HY.o X);go_wp2_with fail;refine (zg2 C g b c d S3 a3 _ ah hC).mono ?_;cases K:zM C a3 with
  |error P=>
   rintro e w4 ⟨rfl,H⟩;have I:=(h.back Z).trans H;have J:Hid (zaz C p= .error P):=bdE Y.o K;unfold Pan;go_wp2;refine⟨rfl,?_⟩;rw[J.o];exact⟨rfl,I⟩
  |ok a4=>
   rintro e w4 ⟨rfl,S4,ad,s⟩;have L:=Z.trans s;clear s;have aa:=zc (bdO Y.o K);go_wp2_with fail;refine (zc5 C g b c d S4 a4.1 59 _ ad).mono ?_;cases E:zd C 4 cSemi a4.1 with
   |error P=>
    rintro e w5 ⟨rfl,H⟩;have I:=(h.back L).trans H;have J:Hid (zaz C p= .error P):=bdE aa.o E;unfold Pan;go_wp2;refine⟨rfl,?_⟩;rw[J.o];exact⟨rfl,I⟩
   |ok a5=>
    rintro e w5 ⟨rfl,S5,ae,s⟩;have ab:=L.trans s;clear s;have N:=zc (bdO aa.o E);have U:0<a5.pos:=by rw[(zcb E).1];exact Nat.succ_pos _
    go_wp2_with fail;refine (zfD C g b c d S5 a5 ⟨3,sNone,sNone,a4.2⟩ _ ae U).mono ?_;cases Q:zq C ⟨3,sNone,sNone,a4.2⟩ a5 with
    |error P=>
     rintro e w6 ⟨rfl,H⟩;have I:=(h.back ab).trans H;have J:Hid (zaz C p= .error P):=N.o.trans Q;unfold Pan;go_wp2;refine⟨rfl,?_⟩;rw[J.o];exact⟨rfl,I⟩
    |ok a6=>
     rintro e w6 ⟨rfl,S6,ag,s⟩;have ai:=ab.trans s;clear s;have aj:=zc (N.o.trans Q);go_wp2;go_end0;rw[aj.o];exact⟨rfl,S6,ag,ai⟩
theorem zum (h:IM C g b c d T p V) (h1:isT C p.pos 4 zO=false) (h2:isT C p.pos 4 zz=false) (h3:isT C p.pos 1 sDefault=true):
  Calls prog 217 #[.pointer (some ⟨d,0,none⟩)] V (zV C g b c d (zaz C p) id (fun _=>.tuple #[]) T V):=by
 have HY:Hid (zaz C p=bd (stmtI C 1 zcs cSemi (adv p)) fun a=>zq C ⟨1,sDefault,zcs,sNone⟩ a):=by show _=_;rw[zaz,h1,h2,h3];rfl
 go_enter func217,ntmps217;go_wp2_with fail;refine (zP C g b c d T p 4 zO _ h (by decide)).mono ?_;rintro e w1 ⟨rfl,O,aa⟩;rw[h1] at O ⊢;go_wp2_with fail;refine (zP C g b c d T p 4 zz _ O (by decide)).mono ?_;rintro e w2 ⟨rfl,J,s⟩;rw[h2] at J ⊢;have Z:=aa.trans s;clear s;go_wp2_with fail;refine (zP C g b c d T p 1 sDefault _ J (by decide)).mono ?_;rintro e w3 ⟨rfl,L,s⟩;rw[h3] at L ⊢;have M:=Z.trans s;clear s;go_wp2_with fail;refine (zev C g b c d T (adv p) 1 zcs cSemi _ L (by decide) (by decide)).mono ?_;cases D:stmtI C 1 zcs cSemi (adv p) with
 |error F=>
  rintro e w4 ⟨rfl,U⟩;have HB:=(h.back M).trans U;have HX:Hid (zaz C p= .error F):=bdE HY.o D;unfold Pan;go_wp2;refine⟨rfl,?_⟩;rw[HX.o];exact⟨rfl,HB⟩
 |ok a4=>
  rintro e w4 ⟨rfl,S4,G,s⟩;have I:=M.trans s;clear s;have N:=zc (bdO HY.o D);have K:=(zi7 D (by decide)).2;go_wp2_with fail;refine (zfD C g b c d S4 a4 ⟨1,sDefault,zcs,sNone⟩ _ G K).mono ?_;cases H:zq C ⟨1,sDefault,zcs,sNone⟩ a4 with
  |error F=>
   rintro e w5 ⟨rfl,U⟩;have HB:=(h.back I).trans U;have HX:Hid (zaz C p= .error F):=N.o.trans H;unfold Pan;go_wp2;refine⟨rfl,?_⟩;rw[HX.o];exact⟨rfl,HB⟩
  |ok a5=>
   rintro e w5 ⟨rfl,S5,X,s⟩;have ab:=I.trans s;clear s;have Y:=zc (N.o.trans H);go_wp2;go_end0;rw[Y.o];exact⟨rfl,S5,X,ab⟩
theorem zun (h:IM C g b c d T p V) (hC:zbu C) (h1:isT C p.pos 4 zO=false) (h2:isT C p.pos 4 zz=false) (h3:isT C p.pos 1 sDefault=false) (h4:isT C p.pos 1 zH=true):
  Calls prog 217 #[.pointer (some ⟨d,0,none⟩)] V (zV C g b c d (zaz C p) id (fun _=>.tuple #[]) T V):=by
 have HY:Hid (zaz C p=bd (letJ C 1 (adv p)) fun a=>zq C ⟨1,(ze C (p.pos+1)).text,(ze C (p.pos+1)).text,sNone⟩ a):=by show _=_;rw[zaz,h1,h2,h3,h4];rfl
 go_enter func217,ntmps217;go_wp2_with fail;refine (zP C g b c d T p 4 zO _ h (by decide)).mono ?_;rintro e w1 ⟨rfl,G,aa⟩;rw[h1] at G ⊢;go_wp2_with fail;refine (zP C g b c d T p 4 zz _ G (by decide)).mono ?_;rintro e w2 ⟨rfl,I,s⟩;rw[h2] at I ⊢;have Z:=aa.trans s;clear s;go_wp2_with fail;refine (zP C g b c d T p 1 sDefault _ I (by decide)).mono ?_;rintro e w3 ⟨rfl,O,s⟩;rw[h3] at O ⊢;have ad:=Z.trans s;clear s;go_wp2_with fail;refine (zP C g b c d T p 1 zH _ O (by decide)).mono ?_;rintro e w4 ⟨rfl,J,s⟩;rw[h4] at J ⊢;have H:=ad.trans s;clear s;go_wp2_with fail;refine (zhN C g b c d T (adv p) _ J).mono ?_;cases E:letJ C 1 (adv p) with
 |error F=>
  rintro e w5 ⟨rfl,X⟩;have HB:=(h.back H).trans X;have HX:Hid (zaz C p= .error F):=bdE HY.o E;unfold Pan;go_wp2;refine⟨rfl,?_⟩;rw[HX.o];exact⟨rfl,HB⟩
 |ok a5=>
  rintro e w5 ⟨rfl,S5,Y,s⟩;have U:=H.trans s;clear s;have L:=zc (bdO HY.o E);obtain⟨⟨l,e,K⟩,N⟩:=zui E;have af:=zc K;clear K;go_wp2_with fail;refine (zmr C g b c d S5 a5 l _ _ (ze C (p.pos+1)).text _ Y af.o (hC _) N).mono ?_;cases M:zq C ⟨1,(ze C (p.pos+1)).text,(ze C (p.pos+1)).text,sNone⟩ a5 with
  |error F=>
   rintro e w6 ⟨rfl,X⟩;have HB:=(h.back U).trans X;have HX:Hid (zaz C p= .error F):=L.o.trans M;unfold Pan;go_wp2;refine⟨rfl,?_⟩;rw[HX.o];exact⟨rfl,HB⟩
  |ok a6=>
   rintro e w6 ⟨rfl,S6,ab,s⟩;have ac:=U.trans s;clear s;have ae:=zc (L.o.trans M);go_wp2;go_end0;rw[ae.o];exact⟨rfl,S6,ab,ac⟩
theorem zuo (h:IM C g b c d T p V) (hC:zbu C) (h1:isT C p.pos 4 zO=false) (h2:isT C p.pos 4 zz=false) (h3:isT C p.pos 1 sDefault=false) (h4:isT C p.pos 1 zH=false) (h5:isT C p.pos 1 zW=true):
  Calls prog 217 #[.pointer (some ⟨d,0,none⟩)] V (zV C g b c d (zaz C p) id (fun _=>.tuple #[]) T V):=by
 have HY:Hid (zaz C p=bd (fnI C (adv p)) fun a=>zq C ⟨1,(ze C (p.pos+1)).text,(ze C (p.pos+1)).text,sNone⟩ a):=by show _=_;rw[zaz,h1,h2,h3,h4,h5];rfl
 go_enter func217,ntmps217;go_wp2_with fail;refine (zP C g b c d T p 4 zO _ h (by decide)).mono ?_;rintro e w1 ⟨rfl,G,ab⟩;rw[h1] at G ⊢;go_wp2_with fail;refine (zP C g b c d T p 4 zz _ G (by decide)).mono ?_;rintro e w2 ⟨rfl,H,s⟩;rw[h2] at H ⊢;have ac:=ab.trans s;clear s;go_wp2_with fail;refine (zP C g b c d T p 1 sDefault _ H (by decide)).mono ?_;rintro e w3 ⟨rfl,M,s⟩;rw[h3] at M ⊢;have ae:=ac.trans s;clear s;go_wp2_with fail;refine (zP C g b c d T p 1 zH _ M (by decide)).mono ?_;rintro e w4 ⟨rfl,I,s⟩;rw[h4] at I ⊢;have Y:=ae.trans s;clear s;go_wp2_with fail;refine (zP C g b c d T p 1 zW _ I (by decide)).mono ?_;rintro e w5 ⟨rfl,K,s⟩;rw[h5] at K ⊢;have O:=Y.trans s;clear s;go_wp2_with fail;refine (zhO C g b c d T (adv p) _ K).mono ?_;cases E:fnI C (adv p) with
 |error F=>
  rintro e w6 ⟨rfl,hb⟩;have HB:=(h.back O).trans hb;have HX:Hid (zaz C p= .error F):=bdE HY.o E;unfold Pan;go_wp2;refine⟨rfl,?_⟩;rw[HX.o];exact⟨rfl,HB⟩
 |ok a6=>
  rintro e w6 ⟨rfl,S6,ad,s⟩;have N:=O.trans s;clear s;have X:=zc (bdO HY.o E);obtain⟨⟨l,e,J⟩,L⟩:=zuj E;have ag:=zc J;clear J;go_wp2_with fail;refine (zmr C g b c d S6 a6 l _ _ (ze C (p.pos+1)).text _ ad ag.o (hC _) L).mono ?_;cases U:zq C ⟨1,(ze C (p.pos+1)).text,(ze C (p.pos+1)).text,sNone⟩ a6 with
  |error F=>
   rintro e w7 ⟨rfl,hb⟩;have HB:=(h.back N).trans hb;have HX:Hid (zaz C p= .error F):=X.o.trans U;unfold Pan;go_wp2;refine⟨rfl,?_⟩;rw[HX.o];exact⟨rfl,HB⟩
  |ok a7=>
   rintro e w7 ⟨rfl,S7,aa,s⟩;have af:=N.trans s;clear s;have Z:=zc (X.o.trans U);go_wp2;go_end0;rw[Z.o];exact⟨rfl,S7,aa,af⟩
theorem zup (h:IM C g b c d T p V) (Y:isT C p.pos 4 zO=false) (F:isT C p.pos 4 zz=false) (h3:isT C p.pos 1 sDefault=false) (X:isT C p.pos 1 zH=false) (Z:isT C p.pos 1 zW=false):
  Calls prog 217 #[.pointer (some ⟨d,0,none⟩)] V (zV C g b c d (zaz C p) id (fun _=>.tuple #[]) T V):=by
 have HY:Hid (zaz C p= .error (zt C p.pos)):=by show _=_;rw[zaz,Y,F,h3,X,Z];rfl
 go_enter func217,ntmps217;go_wp2_with fail;refine (zP C g b c d T p 4 zO _ h (by decide)).mono ?_;rintro e w1 ⟨rfl,K,M⟩;rw[Y] at K ⊢;go_wp2_with fail;refine (zP C g b c d T p 4 zz _ K (by decide)).mono ?_;rintro e w2 ⟨rfl,H,s⟩;rw[F] at H ⊢;have N:=M.trans s;clear s;go_wp2_with fail;refine (zP C g b c d T p 1 sDefault _ H (by decide)).mono ?_;rintro e w3 ⟨rfl,J,s⟩;rw[h3] at J ⊢;have O:=N.trans s;clear s;go_wp2_with fail;refine (zP C g b c d T p 1 zH _ J (by decide)).mono ?_;rintro e w4 ⟨rfl,I,s⟩;rw[X] at I ⊢;have L:=O.trans s;clear s;go_wp2_with fail;refine (zP C g b c d T p 1 zW _ I (by decide)).mono ?_;rintro e w5 ⟨rfl,E,s⟩;rw[Z] at E ⊢;have U:=L.trans s;clear s;go_wp2_with fail;refine (zeS C g b c d T p _ E).mono ?_;rintro e wz ⟨rfl,hb⟩;have HB:=(h.back U).trans (hb.mono E.mem.base);have HX:Hid (zaz C p= .error (zt C p.pos)):=HY.o;unfold Pan;go_wp2;refine⟨rfl,?_⟩;rw[HX.o];exact⟨rfl,HB⟩
theorem zuq (h:IM C g b c d T p V) (I:zbu C):
  Calls prog 217 #[.pointer (some ⟨d,0,none⟩)] V (zV C g b c d (zaz C p) id (fun _=>.tuple #[]) T V):=by
 cases E:isT C p.pos 4 zO with
 |true=>exact zuk C g b c d T p V h I E
 |false=>
  cases H:isT C p.pos 4 zz with
  |true=>exact zul C g b c d T p V h I E H
  |false=>
   cases J:isT C p.pos 1 sDefault with
   |true=>exact zum C g b c d T p V h E H J
   |false=>
    cases K:isT C p.pos 1 zH with
    |true=>exact zun C g b c d T p V h I E H J K
    |false=>
     cases L:isT C p.pos 1 zW with
     |true=>exact zuo C g b c d T p V h I E H J K L
     |false=>exact zup C g b c d T p V h E H J K L
end Go.Proofs.YtgcbmogmniahjaaGreat
