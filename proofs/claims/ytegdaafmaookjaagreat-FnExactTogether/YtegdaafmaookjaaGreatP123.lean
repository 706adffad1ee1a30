/- Facts. -/
import Derived.Test.YtegdaafmaookjaaGreatP95
import Derived.Test.YtegdaafmaookjaaGreatP87
import Derived.RangeFuncBox
namespace Go.Proofs.YtegdaafmaookjaaGreat
open Nat (add_zero mul_one le_refl le_trans)
open Go.Proofs.Tryz
set_option maxRecDepth 100000
set_option maxHeartbeats 3200000
open Go.RowKit Go.PlainAid Go.Sort
abbrev Sl:=Option Addr×Nat×Nat
def slE:Enc Sl:=⟨fun s=>[.slice s.1 s.2.1 s.2.2],1,fun _=>rfl,by decide,fun x v hv=>by simp at hv;rw[hv];rfl⟩
structure TogE (w:World) (base:Nat) (a:Option Addr) (n cap:Nat) (L:List (List Int)) (vs:List Sl):Prop where
 vl:vs.length=L.length
 o:OutE slE 36 w base a n cap vs
 inn: ∀(i:Nat) (s:Sl) (l:List Int),vs[i]? =some s->L[i]? =some l->OutE itE 3 w base s.1 s.2.1 s.2.2 l
 sep: ∀(i j:Nat) (s t:Sl) (g:Nat),vs[i]? =some s->vs[j]? =some t->s.1=some ⟨g,0,none⟩->t.1=some ⟨g,0,none⟩->0<s.2.1->0<t.2.1->i=j
variable (g b:Nat) (w W:Option Addr) (c:Nat) (C:Nat->Nat->Bool) (d:Nat) {V S:World} {n k m q z s:Nat} {x:Option Addr} {p:List Sl} {t:List Int} {h:TypeId} {A:Nat->Nat->Bool} {B:Gr} {D:Array Value} {E:Value} {F:List Bool} {G:GS}
theorem TogE.later {K:Nat} {L:List (List Int)} (h:TogE V n x K k L p) (H:Bw V S):TogE S n x K k L p:=
 ⟨h.vl,h.o.later H,fun i s l J I=>(h.inn i s l J I).later H,h.sep⟩
theorem zke (c2:Nat) (L:List (List Int)) (v1 v2:List Sl) (P:World) (A:TogE P g w c d L v1) (K:TogE P b W c c2 L v2) (hn:c<=1048576) (hl: ∀l∈L,l.length<=1048576):
  Calls prog 31 #[.slice w c d,.slice W c c2] P fun e w'=>e= .returned (.bool true)/\Bw P w':=by
 have H1:=zc A;have H2:=zc K;have HL:=zc hl;have O:Hid (c=v1.length/\c=v2.length/\v1.length=L.length):=zc ⟨A.o.1,K.o.1,A.vl⟩;clear A K hl;go_enter func31,ntmps31;go_wp2;go_loopw [5] (fun i wr=>∃k:Nat,k<=c/\i= .int .i64 k/\Hid (Bw P wr)) (fun i _=>(c-intOf i).toNat)
 case atStart=>exact⟨0,by omega,rfl,zc (Below.refl _ _)⟩
 case round=>
  obtain⟨k,hk,rfl,B⟩:=hrel;by_cases I:k<c
  ·have aa:(k:Int)<(c:Int):=by omega
   obtain⟨⟨p1,n1,d1⟩,U⟩: ∃x,v1[k]? =some x:=⟨_,gE (by have:=O.o;omega)⟩;obtain⟨⟨p2,H,d2⟩,N⟩: ∃y,v2[k]? =some y:=⟨_,gE (by have:=O.o;omega)⟩;obtain⟨l,h⟩: ∃l,L[k]? =some l:=⟨_,gE (by have:=O.o;omega)⟩;obtain⟨x1,o1,M,X⟩:=((H1.o.later B.o).o.row).get U;obtain⟨x2,o2,J,k2⟩:=((H2.o.later B.o).o.row).get N;subst M;subst J;have z1:=X 0 _ rfl;have z2:=k2 0 _ rfl;simp only[slE,add_zero,mul_one] at z1 z2;have Z:=zc ((H1.o.later B.o).inn k _ l U h);have I2:=zc ((H2.o.later B.o).inn k _ l N h);have e1:n1=l.length:=Z.o.1;have e2:H=l.length:=I2.o.1;have ab:=HL.o l (mG h);have V:H=n1:=by omega
   subst V;have q:Hid (H=l.length):=zc e1;clear X k2 U N h e1 e2;go_wp2_with fail;go_region_with (first|(go_at_call 19;refine (zcS p1 p2 H d1 d2 l _ (Z.o.later (Below.refl wr.heap.size wr).drew).row (I2.o.later (Below.refl wr.heap.size wr).drew).row q.o (by have:=q.o;omega)).mono ?_;rintro e w2 ⟨rfl,Y⟩;have B2:=zc (B.o.trans (((Below.refl wr.heap.size wr).drew.trans Y).mono B.o.size));clear Y))
   all_goals
    go_wp2;go_roundw
    case rel=>exact⟨k+1,I,by go_num,B2⟩
    case measure=>simp[intOf];omega
  ·obtain rfl:k=c:=by omega
   go_wp2;go_ret;exact⟨rfl,B.o⟩
def za8 (L:List (List Int)) (i:Nat):Nat:=1+((L.take i).map List.length).sum
theorem zkf {L:List (List Int)} (h:L[n]? =some t):za8 L (n+1)=za8 L n+t.length:=by
 obtain⟨q,rfl⟩:=gS h;rw[za8,za8,tG q,List.map_append,List.sum_append];simp;omega
theorem zpj {L:List (List Int)} (h:n<=L.length):za8 L n<=za8 L L.length:=by
 obtain⟨d,q⟩: ∃d,L.length=n+d:=⟨L.length-n,by omega⟩
 induction d generalizing n with
 |zero=>
  rw[q];exact le_refl _
 |succ d w=>
  obtain⟨l,A⟩: ∃l,L[n]? =some l:=⟨_,gE (by omega)⟩;have:=w (show n+1<=L.length by omega) (by omega);rw[zkf A] at this;omega
def MkK (w:World) (base:Nat) (a:Option Addr) (n cap k:Nat):Prop:=0<n->∃g,a=some ⟨g,0,none⟩/\OwnX w base 3 1 g n cap (mkI k) n
theorem MkK.later {I J:Nat} (h:MkK V n x I k J) (H:Bw V S):MkK S n x I k J:=fun p=>by
 obtain⟨g,e,A⟩:=h p;exact⟨g,e,A.later H⟩
structure MkSS (base:Nat) (a:Option Addr) (n cap:Nat) (L:List (List Int)) (vs:List Sl) (i:Nat) (W:World):Prop where
 o:OutE slE 36 W base a n cap vs
 done: ∀(j:Nat) (s:Sl) (l:List Int),j<i->vs[j]? =some s->L[j]? =some l->s.2.1=l.length/\MkK W base s.1 s.2.1 s.2.2 (za8 L j)
 left: ∀(j:Nat) (s:Sl) (l:List Int),i<=j->vs[j]? =some s->L[j]? =some l->OutE itE 3 W base s.1 s.2.1 s.2.2 l
theorem MkSS.later {M:Nat} {L:List (List Int)} (h:MkSS n x M k L p m V) (J:Bw V S):MkSS n x M k L p m S:=
 ⟨h.o.later J,fun j s l H A I=>⟨(h.done j s l H A I).1,(h.done j s l H A I).2.later J⟩,fun j s l H A I=>(h.left j s l H A I).later J⟩
theorem zek {α:Type} {E:Enc α} {L:Nat} {l:List α} (M:OwnE E V n h k L m l): ∃q,V.heap[k]? =some (.cells q h (0,0)):=by
 rcases M.1.2 with ⟨A,_⟩|⟨K,I,q,A,_,J,_⟩
 ·simp at A
 ·simp only[vI,sI0,Addr.mk.injEq,and_true] at A;rw[A.1];exact⟨q,J⟩
theorem MkSS.next {P R:Nat} {L:List (List Int)} (h:MkSS n x P k L p m V) (u:p[m]? =some (some ⟨q,0,none⟩,R,z)) (hl:L[m]? =some t) (Y:0<R) (I: ∀(m j:Nat) (s v:Sl) (q:Nat),p[m]? =some s->p[j]? =some v->s.1=some ⟨q,0,none⟩->v.1=some ⟨q,0,none⟩->0<s.2.1->0<v.2.1->m=j) (ho:OwnX S n 3 1 q R z (mkI (za8 L m)) R) (hg:V.grownBy S (some q)):MkSS n x P k L p (m+1) S:=by
 have hi:=h.left m _ t (le_refl _) u hl;obtain⟨M,eg,o0⟩:=hi.2 Y;have Z:M=q:=by
  have:=oI eg;exact (Addr.mk.inj this).1.symm
 subst Z;obtain⟨ab,hc⟩:=zek o0;have X: ∀Q,Q<V.heap.size->Q≠M->S.heap[Q]? =V.heap[Q]?:=fun Q hk hn=>hg.block Q hk fun e=>hn (oI e);refine⟨⟨h.o.1,fun r=>?_⟩,fun j s f hj T H=>?_,fun j s f hj T H=>⟨(h.left j s f (by omega) T H).1,fun r=>?_⟩⟩
 ·obtain⟨go,e,o⟩:=h.o.2 r;obtain⟨aa,A⟩:=zek o;refine⟨go,e,o.keep (X go o.blk.2 fun e=>?_)⟩;rw[e,hc] at A;simp only[sI0,Obj.cells.injEq] at A;exact absurd A.2.1 (by decide)
 ·by_cases e:j=m
  ·subst e;rw[u] at T;rw[hl] at H;cases T;cases H;exact⟨hi.1,fun _=>⟨M,rfl,ho⟩⟩
  ·obtain⟨q1,q2⟩:=h.done j s f (by omega) T H;refine⟨q1,fun r=>?_⟩;obtain⟨K,O,U⟩:=q2 r;exact⟨K,O,U.keep (X K U.blk.2 fun Q=>e (I j m _ _ M T u (by rw[O,Q]) rfl r Y))⟩
 ·obtain⟨K,O,U⟩:=(h.left j s f (by omega) T H).2 r;exact⟨K,O,U.keep (X K U.blk.2 fun Q=>by have:=I j m _ _ M T u (by rw[O,Q]) rfl r Y;omega)⟩
theorem MkSS.skip {O:Nat} {R:Option Addr} {L:List (List Int)} (h:MkSS n x O k L p m V) (K:p[m]? =some (R,0,q)) (J:L[m]? =some t):MkSS n x O k L p (m+1) V:=by
 refine⟨h.o,fun j s Q M A P=>?_,fun j s Q M A P=>h.left j s Q (by omega) A P⟩;by_cases e:j=m
 ·subst e;have N:=h.left j _ t (le_refl _) K J;rw[K] at A;rw[J] at P;cases A;cases P;exact⟨N.1,fun R=>absurd R (Nat.lt_irrefl _)⟩
 ·exact h.done j s Q (by omega) A P
theorem zzE (L:List (List Int)) (I:List Sl) (Q:World) (h:TogE Q g w c d L I) (hn:c<=1048576) (hb:g<=Q.heap.size) (hs:za8 L L.length<=8388608) (hl: ∀l∈L,l.length<=1048576):
  Calls prog 32 #[.slice w c d,.int .i64 1] Q fun e w'=>e= .returned (.int .i64 ((za8 L L.length:Nat):Int))/\MkSS g w c d L I L.length w'/\Below g Q w':=by
 have Y:=zc h.sep;have M:Hid (c=L.length/\c=I.length):=zc ⟨by have:=h.o.1;have:=h.vl;omega,h.o.1⟩;have M0:Hid (MkSS g w c d L I 0 Q):=zc ⟨h.o,fun j s l hj _ _=>absurd hj (Nat.not_lt_zero j),fun j s l _ h1 h2=>h.inn j s l h1 h2⟩;have HL:=zc hl;have HS:=zc hs;have HB:=zc hb;clear h hl hs hb;go_enter func32,ntmps32;go_wp2;go_loopw [1,5] (fun q i wr=>∃k:Nat,k<=c/\i= .int .i64 k/\q= .int .i64 ((za8 L k:Nat):Int)/\Hid (MkSS g w c d L I k wr)/\Hid (Below g Q wr)) (fun _ i _=>(c-intOf i).toNat)
 case atStart=>exact⟨0,by omega,rfl,rfl,M0,zc (Below.refl _ _)⟩
 case round=>
  obtain⟨k,hk,rfl,rfl,N,B⟩:=hrel;clear M0;by_cases J:k<c
  ·have ab:(k:Int)<(c:Int):=by omega
   obtain⟨⟨p,m,R⟩,U⟩: ∃x,I[k]? =some x:=⟨_,gE (by have:=M.o;omega)⟩;obtain⟨l,H⟩: ∃l,L[k]? =some l:=⟨_,gE (by have:=M.o;omega)⟩;obtain⟨x1,o1,aa,k1⟩:=(N.o.o.row).get U;subst aa;have z1:=k1 0 _ rfl;simp only[slE,add_zero,mul_one] at z1;have I1:=zc (N.o.left k _ l (le_refl _) U H);have E1:Hid (m=l.length):=zc I1.o.1;have KN:=zc (zkf H);have KL:Hid (za8 L k<=8388608):=zc (le_trans (zpj (by have:=M.o;omega)) HS.o);have ac:=HL.o l (mG H);have HX:=zc U;have K:=zc H;clear k1 U H;rcases Nat.eq_zero_or_pos m with O|O
   ·subst O;have Z:Hid (za8 L (k+1)=za8 L k):=zc (by rw[KN.o,<-E1.o];rfl);have M2:=zc (N.o.skip HX.o K.o);go_wp2_with fail;refine (zo7 p R (za8 L k) _).mono ?_;rintro e w2 ⟨rfl,hw⟩;rw[hw];clear hw w2;go_wp2;go_roundw
    case rel=>exact⟨k+1,J,by go_num,by rw[Z.o],M2,B⟩
    case measure=>simp[intOf];omega
   ·obtain⟨P,hp,og⟩:=I1.o.2 O;simp only at hp;subst hp;have OG:=zc og;clear og;go_wp2_with fail;refine (zo8 g P m R (za8 L k) _ (OwnX.start OG.o.1 _) (by have:=E1.o;omega) KL.o).mono ?_;rintro e w2 ⟨rfl,ox,X⟩;have M2:=zc (N.o.next HX.o K.o O Y.o ox X);have B2:=zc (B.o.trans (zoC X OG.o.blk.1 (le_trans HB.o B.o.size)));have Z:Hid (za8 L (k+1)=za8 L k+m):=zc (by rw[KN.o,<-E1.o]);clear ox X;go_wp2;go_roundw
    case rel=>exact⟨k+1,J,by go_num,by rw[Z.o];first|done|rfl|simp,M2,B2⟩
    case measure=>simp[intOf];omega
  ·obtain rfl:k=c:=by omega
   have V:Hid (MkSS g w k d L I L.length wr):=zc (by rw[<-M.o.1];exact N.o);go_wp2;go_ret;exact⟨by rw[<-M.o.1];first|done|rfl,V.o,B.o⟩
theorem zpk (L:List (List Int)) (J:List Sl) (Q:World) (h:MkSS g w c d L J L.length Q) (hv:J.length=L.length) (hn:c<=1048576) (Z:za8 L L.length<=8388608) (Y: ∀l∈L,l.length<=1048576):
  Calls prog 33 #[.slice w c d,.int .i64 1] Q fun e w'=>e= .returned (.int .i64 ((za8 L L.length:Nat):Int))/\w'=Q:=by
 have MS:=zc h;have I:Hid (c=L.length/\c=J.length):=zc ⟨by have:=h.o.1;omega,h.o.1⟩;have HL:=zc Y;have HS:=zc Z;clear h Y Z hv;go_enter func33,ntmps33;go_wp2;go_loopw [1,5] (fun q i wr=>∃k:Nat,k<=c/\i= .int .i64 k/\q= .int .i64 ((za8 L k:Nat):Int)/\wr=Q) (fun _ i _=>(c-intOf i).toNat)
 case atStart=>exact⟨0,by omega,rfl,rfl,rfl⟩
 case round=>
  obtain⟨k,hk,rfl,rfl,rfl⟩:=hrel;by_cases M:k<c
  ·have aa:(k:Int)<(c:Int):=by omega
   obtain⟨⟨p,m,R⟩,O⟩: ∃x,J[k]? =some x:=⟨_,gE (by have:=I.o;omega)⟩;obtain⟨l,A⟩: ∃l,L[k]? =some l:=⟨_,gE (by have:=I.o;omega)⟩;obtain⟨x1,o1,N,U⟩:=(MS.o.o.row).get O;subst N;have z1:=U 0 _ rfl;simp only[slE,add_zero,mul_one] at z1;obtain⟨V,q2⟩:=MS.o.done k _ l (by have:=I.o;omega) O A;have E1:Hid (m=l.length):=zc V;have Q2:Hid (MkK wr g p m R (za8 L k)):=zc q2;have KN:=zc (zkf A);have KL:Hid (za8 L k<=8388608):=zc (le_trans (zpj (by have:=I.o;omega)) HS.o);have KZ:Hid (za8 L (k+1)=za8 L k+m):=zc (by rw[KN.o,<-E1.o]);have ab:=HL.o l (mG A);have qd:decide (((za8 L k+m:Nat):Int)<0)=false:=dF (by omega);clear U O A V q2;have C:Hid (Calls prog 22 #[.slice p m R,.int .i64 ((za8 L k:Nat):Int)] wr fun e w'=>e= .returned (.int .i64 ((za8 L k+m:Nat):Int))/\w'=wr):=by
    rcases Nat.eq_zero_or_pos m with K|K
    ·subst K;exact zc (zo9 p R (za8 L k) wr)
    ·obtain⟨P,rfl,og⟩:=Q2.o K;exact zc (zoA g P m R (za8 L k) wr og (by have:=E1.o;omega) KL.o)
   go_wp2_with fail;refine C.o.mono ?_;rintro e w2 ⟨rfl,X⟩;rw[X];clear X w2 C;go_wp2;go_roundw
   case rel=>exact⟨k+1,M,by go_num,by rw[KZ.o];first|done|rfl|simp,by first|rfl|trivial⟩
   case measure=>simp[intOf];omega
  ·obtain rfl:k=c:=by omega
   go_wp2;go_ret;exact⟨by rw[<-I.o.1];first|done|rfl,rfl⟩
def zt (g:Gr) (i k:Nat):Bool:=zx g i k&&zx g k i
def zbn (p:Nat->Nat->Bool) (i:Nat):Bool:=(List.range i).all fun k=> !p i k
def zbk (n:Nat) (p:Nat->Nat->Bool) (i:Nat):List (List Int):=((List.range i).filter (zbn p)).map fun j=>zM n (p j)
def zkg (g:Gr):List (List Int):=zbk g.ms.length (zt g) g.ms.length
theorem zpl:zbk g C (d+1)=if zbn C d=true then zbk g C d++[zM g (C d)] else zbk g C d:=by
 rw[zbk,List.range_succ,List.filter_append,List.map_append];cases h:zbn C d<;>simp[h,zbk]
theorem zkh:(zbk g C d).length<=d:=by
 rw[zbk,List.length_map];exact le_trans (List.length_filter_le _ _) (Nat.le_of_eq List.length_range)
theorem zfg:zbn A n=true↔∀k,k<n->A n k=false:=by
 rw[zbn,List.all_eq_true];constructor
 ·intro h k q;have:=h k (List.mem_range.2 q)
  simpa using this
 ·intro h k q;rw[h k (List.mem_range.1 q)];rfl
theorem z0y (h:zbn A n=false): ∃k,k<n/\A n k=true:=Classical.byContradiction fun w=>by
 rw[zfg.2 fun k q=>Bool.eq_false_iff.2 fun e=>w ⟨k,q,e⟩] at h;cases h
theorem zki {p:Nat->Bool}: ∀{i:Nat},(∀k,k<i->p k=false)->zM i p=[]
 |0,_=>rfl
 |i+1,h=>by rw[zdw,if_neg (by rw[h i (by omega)];decide),zki fun k q=>h k (by omega)]
theorem zpm (p:Nat->Bool) (i n:Nat) (h:i<=n): ∃t,zM n p=zM i p++t:=by
 induction n with
 |zero=>
  obtain rfl:i=0:=by omega
  exact⟨[],rfl⟩
 |succ n w=>
  by_cases e:i=n+1
  ·subst e;exact⟨[],(List.append_nil _).symm⟩
  ·obtain⟨t,q⟩:=w (by omega);rw[zdw]
   split
   ·exact⟨t++[Int.ofNat n],by rw[q,List.append_assoc]⟩
   ·exact⟨t,q⟩
theorem zkj {p:Nat->Bool}: ∀{i:Nat} {z:Int},z∈zM i p->0<=z/\z<(i:Int)
 |0,z,h=>absurd h (by simp[zM])
 |i+1,z,h=>by
  rw[zdw] at h
  split at h
  ·rcases List.mem_append.1 h with h|h
   ·have:=zkj h;omega
   ·rw[List.mem_singleton.1 h];exact⟨Int.natCast_nonneg i,by show (i:Int)<_;omega⟩
  ·have:=zkj h;omega
theorem zzF {p:Nat->Nat->Bool} (J:k<n) (L:p k k=true): ∃z t,zM n (p k)=z::t/\(z=(k:Int)↔zbn p k=true):=by
 obtain⟨t,w⟩:=zpm (p k) (k+1) n J;rw[zdw,if_pos L] at w;cases H:zbn p k with
 |true=>
  rw[zki (zfg.1 H)] at w;exact⟨(k:Int),t,w,by simp⟩
 |false=>
  have M:zM k (p k)≠[]:=fun e=>by
   obtain⟨O,K,I⟩:=z0y H;obtain⟨N,h⟩:=zpm (p k) (O+1) k K;rw[zdw,if_pos I,e] at h;simp at h
  cases A:zM k (p k) with
  |nil=>exact absurd A M
  |cons z q=>
   rw[A] at w;have:=@zkj (p k) k z (by rw[A];exact List.mem_cons_self ..);exact⟨z,_,w,by simp;omega⟩
theorem zzG (g:Gr) (w:GrS g) (q:n<g.ms.length):zt g n n=true:=by
 have h:=(zid q w.inn n).2 (RchF.self g.ls n);rw[zdO q] at h;rw[zt,oI h];rfl
theorem zkk (g:Gr) (i k:Nat):zt g i k=zt g k i:=Bool.and_comm ..
theorem zfR (h:GrS B) (q:n<B.ms.length) (w:k<B.ms.length):zx B n k=true↔RchF B.ls n k:=by
 rw[<-zid q h.inn k,zdO w];simp
theorem zzH (h:GrS B) (J:n<B.ms.length) (w:k<B.ms.length) (A:m<B.ms.length) (I:zt B n k=true) (H:zt B k m=true):zt B n m=true:=by
 rw[zt,Bool.and_eq_true] at I H ⊢;rw[zfR h J w,zfR h w J] at I;rw[zfR h w A,zfR h A w] at H;rw[zfR h J A,zfR h A J];exact⟨fun S K q=>H.1 S (I.1 S K q) q,fun S K q=>I.2 S (H.2 S K q) q⟩
theorem zzI (N:GrS B) (O:n<B.ms.length):(∃j,j<n/\zbn (zt B) j=true/\zt B j n=true)↔zbn (zt B) n=false:=by
 constructor
 ·rintro⟨j,L,_,h⟩;cases H:zbn (zt B) n with
  |false=>rfl
  |true=>
   have:=zfg.1 H j L;rw[zkk,h] at this;cases this
 ·intro h;have w: ∀k,k<n->zt B n k=true->∃j,j<n/\zbn (zt B) j=true/\zt B j n=true:=by
   intro k
   induction k using Nat.strongRecOn with
   |_ k M=>
    intro I A;cases H:zbn (zt B) k with
    |true=>exact⟨k,I,H,by rw[zkk];exact A⟩
    |false=>
     obtain⟨q,K,J⟩:=z0y H;exact M q K (by omega) (zzH N O (by omega) (by omega) A J)
  obtain⟨k,I,A⟩:=z0y h;exact w k I A
def zpn (g:Gr) (w:World) (e:Ending) (w':World):Prop:=
 ∃a n cap L vs,e= .returned (.slice a n cap)/\TogE w' w.heap.size a n cap L vs/\Bw w w'/\(GrS g->L=zkg g)/\(¬GrS g->L=[])
theorem zgI {α:Type} {l:List α} {x y:α} (h:(l++[x])[n]? =some y):(n<l.length/\l[n]? =some y)∨(n=l.length/\y=x):=by
 by_cases e:n<l.length
 ·rw[List.getElem?_append_left e] at h;exact .inl ⟨e,h⟩
 ·have q:=(gS h).1;rw[List.length_append,List.length_singleton] at q;obtain rfl:n=l.length:=by omega
  rw[List.getElem?_append_right (le_refl _),Nat.sub_self] at h;exact .inr ⟨rfl,(oI h).symm⟩
def zgJ (vs:List Sl) (B:Nat):Prop:=∀(i:Nat) (s:Sl) (k:Nat),vs[i]? =some s->s.1=some ⟨k,0,none⟩->0<s.2.1->k<B
theorem TogE.below {O:Nat} {L:List (List Int)} (h:TogE V n x O k L p):zgJ p V.heap.size:=fun i s P I K J=>by
 have N:=(gS I).1;obtain⟨Q,M⟩: ∃Q,L[i]? =some Q:=⟨_,gE (by have:=h.vl;omega)⟩;obtain⟨q,e,o⟩:=(h.inn i s Q I M).2 J;rw[K] at e;have:P=q:=(Addr.mk.inj (oI e)).1;rw[this];exact o.blk.2
theorem zgK {α:Type} {E:Enc α} {K:Nat} {e t:TypeId} {l:List α} (o:OwnE E V n e k K m l) (J:V.heap[q]? =some (.cells D t (0,0))) (H:e≠t):q≠k:=by
 rintro rfl;obtain⟨A,L⟩:=zek o;rw[J] at L;simp only[sI0,Obj.cells.injEq] at L;exact H L.2.1.symm
theorem zik {α:Type} {L:Enc α} {J:Nat} {e t:TypeId} {l:List α} (o:OwnE L V n e k J m l) (H:V.heap[q]? =some (.cells D t (0,0))) (K:e≠t):OwnE L (V.setCell ⟨q,z,none⟩ E) n e k J m l:=
 o.keep (heap_setCell_other V ⟨q,z,none⟩ k E fun I=>zgK o H K I.symm)
theorem TogE.aside {P:Nat} {L:List (List Int)} (T:TogE V n x P k L p) (K:V.heap[m]? =some (.cells D h (0,0))) (O:36≠h) (M:3≠h):TogE (V.setCell ⟨m,q,none⟩ E) n x P k L p:=
 ⟨T.vl,⟨T.o.1,fun R=>by obtain⟨Q,e,o⟩:=T.o.2 R;exact⟨Q,e,zik o K O⟩⟩,fun i s l J I=>⟨(T.inn i s l J I).1,fun R=>by obtain⟨Q,e,o⟩:=(T.inn i s l J I).2 R;exact⟨Q,e,zik o K M⟩⟩,T.sep⟩
theorem TogE.push2 {Q T d:Nat} {L:List (List Int)} {N:List Sl} (Z:TogE V n (some ⟨m,0,none⟩) Q q L N) (hv:zgJ N k) (A:n<=k) (hl:OutE itE 3 V k x T d t) (hg:V.grownBy S (some m)) (ho:OwnE slE S n 36 z (Q+1) s (N++[(x,T,d)])) (ab: ∃J,V.heap[m]? =some (.cells J 36 (0,0))):TogE S n (some ⟨z,0,none⟩) (Q+1) s (L++[t]) (N++[(x,T,d)]):=by
 obtain⟨J,hc⟩:=ab;have kp: ∀{b R U c:Nat} {u:List Int},OwnE itE V b 3 R U c u->OwnE itE S b 3 R U c u:=fun {b R U c u} o=>by
  obtain⟨ac,H⟩:=zek o;refine o.keep (hg.block R o.blk.2 fun e=>?_);rw[oI e,hc] at H;simp only[sI0,Obj.cells.injEq] at H;exact absurd H.2.1 (by decide)
 have lv:=Z.vl;refine⟨by rw[List.length_append,List.length_append,lv];rfl,OutE.own ho,fun i r u w O=>?_,fun i j r v R w M es et X P=>?_⟩
 ·rcases zgI w with ⟨hi,w⟩|⟨hi,rfl⟩
  ·rcases zgI O with ⟨_,O⟩|⟨Y,_⟩
   ·have o:=Z.inn i r u w O;exact⟨o.1,fun f=>by obtain⟨R,e,o2⟩:=o.2 f;exact⟨R,e,kp o2⟩⟩
   ·omega
  ·rcases zgI O with ⟨Y,_⟩|⟨_,rfl⟩
   ·omega
   ·exact⟨hl.1,fun f=>by obtain⟨R,e,o2⟩:=hl.2 f;exact⟨R,e,(kp o2).low A⟩⟩
 ·have K:x=some ⟨R,0,none⟩->0<T->k<=R:=fun ep pm=>by
   obtain⟨f,e,o⟩:=hl.2 pm;rw[ep] at e;have:R=f:=(Addr.mk.inj (oI e)).1;rw[this];exact o.blk.1
  rcases zgI w with ⟨hi,w⟩|⟨hi,rfl⟩<;>rcases zgI M with ⟨hj,M⟩|⟨hj,rfl⟩
  ·exact Z.sep i j r v R w M es et X P
  ·have:=hv i r R w es X;have:=K et P;omega
  ·have:=hv j v R M et P;have:=K es X;omega
  ·omega
theorem TogE.push {W:World} {Q K R m:Nat} {L:List (List Int)} {I:List Sl} (h:TogE V n (some ⟨k,0,none⟩) Q K L I) (P:Bw V S) (w:n<=V.heap.size) (U:OutE itE 3 S V.heap.size x m z t) (X:S.grownBy W (some k)) (O:OwnE slE W n 36 q (Q+1) R (I++[(x,m,z)])) (M: ∃H,S.heap[k]? =some (.cells H 36 (0,0))):TogE W n (some ⟨q,0,none⟩) (Q+1) R (L++[t]) (I++[(x,m,z)]):=(h.later P).push2 h.below w U X O M
def dnB (p:Nat->Nat->Bool) (n i:Nat):List Bool:=(List.range n).map fun k=>(List.range i).any fun j=>zbn p j&&p j k
def ddB (p:Nat->Nat->Bool) (n i k:Nat):List Bool:=(List.range n).map fun q=>((List.range i).any fun j=>zbn p j&&p j q)||(decide (q<k)&&p i q)
theorem zil {α:Type} {f:Nat->α} (h:k<n):((List.range n).map f)[k]? =some (f k):=by
 rw[List.getElem?_map,List.getElem?_range h];rfl
theorem zzJ:dnB C d 0=List.replicate d false:=by
 rw[dnB,List.eq_replicate_iff];exact⟨by simp,by simp⟩
theorem zzK (J:GrS B) (A:n<B.ms.length):(dnB (zt B) B.ms.length n)[n]? =some (!zbn (zt B) n):=by
 rw[dnB,zil A];have h:=zzI J A;refine congrArg some (Bool.eq_iff_iff.2 ?_);rw[List.any_eq_true,Bool.not_eq_true',<-h];constructor
 ·rintro⟨j,w,q⟩;rw[Bool.and_eq_true] at q;exact⟨j,List.mem_range.1 w,q.1,q.2⟩
 ·rintro⟨j,w,I,H⟩;exact⟨j,List.mem_range.2 w,by rw[I,H];rfl⟩
theorem zzL {i:Nat} (h:zbn A i=false):dnB A g (i+1)=dnB A g i:=by
 refine List.map_congr_left fun k _=>?_;rw[List.range_succ,List.any_append];simp[h]
theorem zzM {i:Nat} (h:zbn A i=true):ddB A g i i=dnB A g i:=by
 refine List.map_congr_left fun k _=>?_;by_cases e:k<i
 ·rw[zfg.1 h k e];simp
 ·simp[e]
theorem zzN {i n:Nat} (h:zbn A i=true):ddB A n i n=dnB A n (i+1):=by
 refine List.map_congr_left fun k q=>?_;rw[List.range_succ,List.any_append];simp[h,List.mem_range.1 q]
theorem zpo {i:Nat} (h:A i k=false):ddB A g i (k+1)=ddB A g i k:=by
 refine List.map_congr_left fun q _=>?_;by_cases e:q=k
 ·subst e;simp[h]
 ·rw[show decide (q<k+1)=decide (q<k) from decide_eq_decide.2 (by omega)]
theorem zzO {i n:Nat} (h:A i k=true) (H:k<n):ddB A n i (k+1)=(ddB A n i k).set k true:=by
 refine List.ext_getElem? fun q=>?_;rw[List.getElem?_set];by_cases w:q<n
 ·rw[ddB,ddB,zil w,List.length_map,List.length_range];by_cases e:k=q
  ·subst e;rw[if_pos rfl,if_pos H,h];simp
  ·rw[if_neg e,zil w,show decide (q<k+1)=decide (q<k) from decide_eq_decide.2 (by omega)]
 ·have e: ¬k=q:=by omega
  rw[if_neg e,ddB,ddB,List.getElem?_eq_none (by simp;omega),List.getElem?_eq_none (by simp;omega)]
theorem zzP {H:Nat} (h:OwnBl V n k H F) (J:k≠m):OwnBl (V.setCell ⟨m,q,none⟩ E) n k H F:=
 OwnR.keep h fun I w=>heap_setCell_other V ⟨m,q,none⟩ I E (by have e:I=k:=(by simpa [Rw.blk,Value.ownBlock] using w.symm);rw[e];exact J)
theorem zkl {α:Type} {E:Enc α} {P R:Nat} {l:List α} (T:OwnBl V n m P F) (I:OwnE E V k h q z R l) (K:h≠4) (M:V.grownBy S (some q)):OwnBl S n m P F:=by
 obtain⟨A,N⟩:=T.block;refine OwnR.keep T fun Q H=>?_;have J:Q=m:=by simpa [Rw.blk,Value.ownBlock] using H.symm
 rw[J];exact M.block m T.at.2 fun O=>zgK I N K (oI O)
theorem zpp {α:Type} {E:Enc α} {L:Nat} {l:List α} (O:Bk V k D 32) (J:OwnE E V n h m L z l) (K:h≠32) (M:V.grownBy S (some m)):Bk S k D 32:=by
 have A:V.heap[k]? =_:=O;exact (M.block k (aLt A) fun N=>zgK J A K (oI N)).trans A
theorem TogE.grown {Q T:Nat} {L:List (List Int)} (h:TogE V n (some ⟨m,0,none⟩) Q q L p) (X:zgJ p k) (K:OwnE itE V k 3 z T s t) (O:V.grownBy S (some z)):TogE S n (some ⟨m,0,none⟩) Q q L p:=by
 obtain⟨P,Y⟩:=zek K;refine⟨h.vl,⟨h.o.1,fun f=>?_⟩,fun i j t I M=>⟨(h.inn i j t I M).1,fun f=>?_⟩,h.sep⟩
 ·obtain⟨R,e,o⟩:=h.o.2 f;exact⟨R,e,o.keep (O.block R o.blk.2 fun J=>zgK o Y (by decide) (oI J).symm)⟩
 ·obtain⟨R,e,o⟩:=(h.inn i j t I M).2 f;refine⟨R,e,o.keep (O.block R o.blk.2 fun J=>?_)⟩;have h1:=X i j R I e f;have Z:=K.blk.1;have h3:R=z:=oI J;omega
structure TgW (w W:World) (G:GS) (g:Gr) (gx gd go n cap:Nat) (L:List (List Int)) (vs:List Sl) (D:List Bool):Prop where
 x:Bk W gx (grC G g) 32
 t:TogE W w.heap.size (some ⟨go,0,none⟩) n cap L vs
 o:OwnE slE W w.heap.size 36 go n cap vs
 d:OwnBl W w.heap.size gd g.ms.length D
 b:Bw w W
theorem TgW.later {M:World} {N:Nat} {L:List (List Int)} (h:TgW V S G B n k m N q L p F) (A:Bw S M):TgW V M G B n k m N q L p F:=
 ⟨h.x.later A,h.t.later A,h.o.later A,h.d.later A,zi h.b A⟩
theorem TgW.set {P A:Nat} {L:List (List Int)} (h:TgW V S G B n k m P A L p F) (Q:Nat):TgW V (S.setCell ⟨k,Q,none⟩ (.bool true)) G B n k m P A L p (F.set Q true):=by
 obtain⟨O,J⟩:=h.d.block;have I:S.heap[n]? =_:=h.x;refine⟨(heap_setCell_other S ⟨k,Q,none⟩ n (.bool true) fun e=>?_).trans I,h.t.aside J (by decide) (by decide),zik h.o J (by decide),h.d.set Q true,h.b.setCell h.d.at.1 _⟩;have N:n=k:=e;rw[N,J] at I;simp only[sI0,Obj.cells.injEq] at I;exact absurd I.2.1 (by decide)
theorem TgW.grown {O:World} {R Q T:Nat} {L:List (List Int)} {l:List Int} (h:TgW V S G B n k m R q L p F) (P:zgJ p Q) (hB:V.heap.size<=Q) (e:OwnE itE S Q 3 z T s l) (H:S.grownBy O (some z)):TgW V O G B n k m R q L p F:=by
 obtain⟨U,Y⟩:=zek e;exact⟨zpp h.x e (by decide) H,h.t.grown P e H,h.o.keep (H.block m h.o.blk.2 fun Z=>zgK h.o Y (by decide) (oI Z).symm),zkl h.d e (by decide) H,h.b.grown H h.b.size (fun j X=>by cases X;exact le_trans hB e.blk.1)⟩
theorem TgW.push {K:World} {N R Q m P T:Nat} {L:List (List Int)} {l:List Int} (h:TgW V S G B n k N R q L p F) (X:zgJ p Q) (hB:V.heap.size<=Q) (Y:OwnE itE S Q 3 z m s l) (M:OwnE slE K V.heap.size 36 P (R+1) T (p++[(some ⟨z,0,none⟩,m,s)])) (H:S.grownBy K (some N)):TgW V K G B n k P (R+1) T (L++[l]) (p++[(some ⟨z,0,none⟩,m,s)]) F:=
 ⟨zpp h.x h.o (by decide) H,h.t.push2 X hB (OutE.own Y) H M (zek h.o),M,zkl h.d h.o (by decide) H,h.b.grown H h.b.size (fun j Z=>by cases Z;exact h.o.blk.1)⟩
set_option maxHeartbeats 6400000
theorem Tryz.infoSlS:(prog.info? 36).map (fun i=>(i.zero,i.size,i.bytes))=some (some (.slice none 0 0),1,24):=by kernel_rfl
theorem Tryz.infoItU:(prog.info? 3).map (fun i=>(i.zero,i.size,i.bytes))=some (some (.int .i64 0),1,8):=by kernel_rfl
theorem zzQ (cG:GrC 11) (base:Nat) (G:GS) (g:Gr) (w:World) (ho:GrOwn w base G g) (hg:GdG g):
  Calls prog 29 #[grD G g] w (zpn g w):=by
 obtain⟨iS,sS,aO,aN,aF⟩:=info_parts Tryz.infoSlS;obtain⟨iI,sI,aE,aI,aL⟩:=info_parts Tryz.infoItU;obtain⟨iB,sB,aC,aM,aH⟩:=info_parts Tryz.infoBl;have CG:=zc cG;have HG:=zc hg;have aw:=hg.ll;have O0:=zc ho;clear ho hg cG;unfold grD;go_enter func29,ntmps29;go_upto_region 1 with fail;obtain⟨gx,af⟩: ∃gx,gx=w.heap.size:=⟨_,rfl⟩;rw[<-af];refine zp (R:=fun W=>Bk W gx (grC G g) 32/\Below w.heap.size w W) (by rw[af];exact⟨hN0 w _,zn w _⟩) ?_;clear af;rintro W0 ⟨hx,V⟩;have X0:=zc hx;have B0:=zc V;clear hx V;go_upto_region 2 with fail;obtain⟨go,ah⟩: ∃go,go=W0.heap.size:=⟨_,rfl⟩;rw[<-ah];refine zp (R:=fun W=>Bk W gx (grC G g) 32/\OwnE slE W w.heap.size 36 go 0 0 []/\Below w.heap.size w W) ⟨X0.o.later (zn W0 _),by rw[ah];exact (OwnE.nil slE W0 36).low B0.o.size,zi B0.o (zn W0 _)⟩ ?_;clear ah X0 B0;rintro W1 ⟨hx,hr,V⟩;have X0:=zc hx;have R0:=zc hr;have B0:=zc V;clear hx hr V;obtain⟨c0,c1,Z,cf⟩:=zg X0.o;go_wp2_with fail;refine (CG.o base G g W1 (O0.o.later B0.o) HG.o).mono ?_;rintro e w1 ⟨⟨b,rfl,al⟩,V⟩;have X1:=zc (X0.o.later V);have R1:=zc (R0.o.later V);have B1:=zc (zi B0.o V);have OK:=zc al;clear al V c0 c1 Z cf X0 B0 R0;obtain⟨c0,c1,Z,cf⟩:=zg X1.o;cases b with
 |false=>
  have HK:Hid (¬GrS g):=zc (fun k=>absurd (OK.o.2 k) (by decide));clear OK;go_wp2;go_ret;exact⟨_,_,_,[],[],rfl,⟨rfl,OutE.own R1.o,fun i s l h _=>(by cases h),fun i j s t k h _ _ _ _ _=>(by cases h)⟩,B1.o,fun k=>absurd k HK.o,fun _=>rfl⟩
 |true=>
  have U:Hid (GrS g):=OK.o.1 (by simp);clear OK;have aj:1<=g.ms.length:=U.o.1.1;have aq:g.ms.length<=8:=U.o.1.2;have LK:=zc U.o.links;go_wp2_with (first|(at_make;refine wpList_make_full w1 rfl _ _ 63 rfl w.heap.size 4 iB _ 1 underlying63 sB aC aM .i64 .i64 _ _ g.ms.length (by rfl) (by rfl) rfl rfl (by rw[aH];omega) (by unfold maxLen;omega) B1.o.size ?_));intro w2 O aA;have L:Bw w1 w2:=(Below.refl _ _).grown aA (Nat.le_refl _) (fun k h=>by cases h);obtain⟨X,ae⟩: ∃X,X=w1.heap.size:=⟨_,rfl⟩;have T0:Hid (TgW w w2 G g gx X go 0 0 (zbk g.ms.length (zt g) 0) [] (dnB (zt g) g.ms.length 0)):=by
   refine⟨X1.o.later L,⟨rfl,OutE.own (R1.o.later L),fun i s l h _=>(by cases h),fun i j s t k h _ _ _ _ _=>(by cases h)⟩,R1.o.later L,?_,zi B1.o L⟩;unfold OwnBl OwnR;rw[toList_madeCells_one] at O;rw[zzJ,ae,List.map_replicate];exact O
  rw[<-ae];clear O aA L ae X1 R1 B1 c0 c1 Z cf;go_wp2;go_loopw [5,3] (fun i o wr=>∃(k g' N H:Nat) (vs:List Sl),k<=g.ms.length/\i= .int .i64 k/\o= .slice (some ⟨g',0,none⟩) N H/\Hid (TgW w wr G g gx X g' N H (zbk g.ms.length (zt g) k) vs (dnB (zt g) g.ms.length k))) (fun i _ _=>(g.ms.length-intOf i).toNat)
  case atStart=>exact⟨0,go,0,0,[],Nat.zero_le _,rfl,rfl,T0⟩
  case round=>
   obtain⟨k,g',N,H,vs,hk,rfl,rfl,K⟩:=hrel;clear T0;obtain⟨c0,c1,Z,cf⟩:=zg K.o.x;by_cases aa:k<g.ms.length
   ·have ao:(k:Int)<(g.ms.length:Int):=by omega
    have ac:=zc (zpl g.ms.length (zt g) k);have aR:N<=8:=by
     have h1:=K.o.o.2;have h2:=K.o.t.vl;have h3:=zkh g.ms.length (zt g) k;omega
    have d0:=K.o.d.cell (zzK U.o aa);cases A:zbn (zt g) k with
    |false=>
     rw[A] at d0;have HM:Hid (zbk g.ms.length (zt g) (k+1)=zbk g.ms.length (zt g) k):=zc (by rw[ac.o,if_neg (by rw[A];decide)]);have HD:=zc (zzL g.ms.length A);go_wp2;go_roundw
     case rel=>exact⟨k+1,g',N,H,vs,aa,by go_num,rfl,by rw[HM.o,HD.o];exact K⟩
     case measure=>simp[intOf];omega
    |true=>
     rw[A] at d0;have HM:Hid (zbk g.ms.length (zt g) (k+1)=zbk g.ms.length (zt g) k++[zM g.ms.length (zt g k)]):=zc (by rw[ac.o,if_pos A]);have HD:=zc (zzM g.ms.length A);have HE:=zc (zzN (n:=g.ms.length) A);have HZ:Hid (zM k (zt g k)=[]):=zc (zki (zfg.1 A));have LT:=zc K.o.t.below;obtain⟨B,hB⟩: ∃B,B=wr.heap.size:=⟨_,rfl⟩;obtain⟨W2,M⟩: ∃W2,W2=wr.alloc (.cells #[] 3):=⟨_,rfl⟩;have T2:Hid (TgW w W2 G g gx X g' N H (zbk g.ms.length (zt g) k) vs (dnB (zt g) g.ms.length k)):=zc (by rw[M];exact K.o.later (zn wr _));have L2:Hid (OwnE itE W2 B 3 B 0 0 []):=zc (by rw[M,hB];exact OwnE.nil itE wr 3);have az:Hid (w.heap.size<=B):=zc (by rw[hB];exact K.o.b.size);have aJ:Hid (X<B):=zc (by rw[hB];exact K.o.d.at.2);have an:Hid (B<=W2.heap.size):=zc (by rw[M,hB];exact (zn wr _).size);rw[<-hB] at LT;go_upto_region 10 with fail;rw[<-M,<-hB];clear M hB K d0 c0 c1 Z cf;obtain⟨c0,c1,Z,cf⟩:=zg T2.o.x;go_wp2_with fail;refine (zfO base G g k aa W2 (O0.o.later T2.o.b) aj aq aw LK.o).mono ?_;rintro e w3 ⟨gf,rfl,au,ag⟩;have T3:Hid (TgW w w3 G g gx X g' N H (zbk g.ms.length (zt g) k) vs (ddB (zt g) g.ms.length k k)):=zc (by rw[HD.o];exact T2.o.later ag);have L3:Hid (OwnE itE w3 B 3 B 0 0 (zM k (zt g k))):=zc (by rw[HZ.o];exact L2.o.later ag);have F3:Hid (OwnBl w3 B gf g.ms.length (zai g.ls g.ms.length (zas g.ms.length k))):=zc (OwnR.low au an.o);clear au ag T2 L2 HD HZ an c0 c1 Z cf;go_wp2;go_loopw [8,6] (fun i o wq=>∃(q gl J I:Nat),k<=q/\q<=g.ms.length/\i= .int .i64 q/\o= .slice (some ⟨gl,0,none⟩) J I/\Hid (TgW w wq G g gx X g' N H (zbk g.ms.length (zt g) k) vs (ddB (zt g) g.ms.length k q))/\Hid (OwnE itE wq B 3 gl J I (zM q (zt g k)))/\Hid (OwnBl wq B gf g.ms.length (zai g.ls g.ms.length (zas g.ms.length k)))) (fun i _ _=>(g.ms.length-intOf i).toNat)
     case atStart=>exact⟨k,B,0,0,Nat.le_refl _,hk,rfl,rfl,T3,L3,F3⟩
     case round=>
      obtain⟨q,gl,J,I,aS,hq,rfl,rfl,QT,QL,QF⟩:=hrel;clear T3 L3 F3;obtain⟨c0,c1,Z,cf⟩:=zg QT.o.x;by_cases Y:q<g.ms.length
      ·have ar:(q:Int)<(g.ms.length:Int):=by omega
       have NX:=zc (zdw (zt g k) q);have aP:J<=8:=by have:=QL.o.2;have:=zei q (zt g k);omega
       have q0:=QF.o.cell (zdO (a:=k) Y);have HP:Hid (zt g k q=(zx g k q&&zx g q k)):=zc rfl;cases aB:zx g k q with
       |false=>
        rw[aB] at q0 HP;have HN:Hid (zt g k q=false):=zc HP.o;have E1:Hid (zM (q+1) (zt g k)=zM q (zt g k)):=zc (by rw[NX.o,if_neg (by rw[HN.o];decide)]);have E2:=zc (zpo g.ms.length HN.o);go_wp2;go_roundw
        case rel=>exact⟨q+1,gl,J,I,by omega,by omega,by go_num,rfl,by rw[E2.o];exact QT,by rw[E1.o];exact QL,QF⟩
        case measure=>simp[intOf];omega
       |true=>
        rw[aB] at q0 HP;go_wp2_with fail;refine (zfO base G g q Y wr (O0.o.later QT.o.b) aj aq aw LK.o).mono ?_;rintro e w4 ⟨gq,rfl,ap,ab⟩;have r0:=ap.cell (zdO (a:=q) aa);have T4:=zc (QT.o.later ab);have L4:=zc (QL.o.later ab);have F4:=zc (QF.o.later ab);clear ap ab QT QL QF q0 c0 c1 Z cf;cases am:zx g q k with
        |false=>
         rw[am] at r0 HP;have HN:Hid (zt g k q=false):=zc HP.o;have E1:Hid (zM (q+1) (zt g k)=zM q (zt g k)):=zc (by rw[NX.o,if_neg (by rw[HN.o];decide)]);have E2:=zc (zpo g.ms.length HN.o);go_wp2;go_roundw
         case rel=>exact⟨q+1,gl,J,I,by omega,by omega,by go_num,rfl,by rw[E2.o];exact T4,by rw[E1.o];exact L4,F4⟩
         case measure=>simp[intOf];omega
        |true=>
         rw[am] at r0 HP;have HN:Hid (zt g k q=true):=zc HP.o;have E1:Hid (zM (q+1) (zt g k)=zM q (zt g k)++[Int.ofNat q]):=zc (by rw[NX.o,if_pos HN.o]);have E2:=zc (zzO (n:=g.ms.length) HN.o Y);go_wp2_with (at_builtin;refine zeh itE _ rfl _ _ 36 rfl B 3 iI _ 8 underlying36 sI aE aI aL rfl (by decide) gl J I _ (by rfl) (L4.o.later (bA0)) w4.heap.size (Int.ofNat q) (by rfl) (by exact hN0 _ _) (by omega) ?_;intro g5 ad w5 ak ai av;have T5:=zc ((T4.o.later (bA0)).grown LT.o az.o (L4.o.later (bA0)) ai);have F5:=zc (zkl (F4.o.later (bA0)) (L4.o.later (bA0)) (by decide) ai);have L5:=zc ak;have f5:=T5.o.d.free q;obtain⟨u5,ax⟩: ∃u,(ddB (zt g) g.ms.length k q)[q]? =some u:=⟨_,zil Y⟩;have d5:=T5.o.d.cell ax;clear ak ai av ax T4 L4 F4 r0);have T6:=zc (T5.o.set q);have L6:Hid (OwnE itE (w5.setCell ⟨X,q,none⟩ (.bool true)) B 3 g5 (J+1) ad (zM q (zt g k)++[Int.ofNat q])):=zc (by obtain⟨cs,hc⟩:=T5.o.d.block;exact zik L5.o hc (by decide));have F6:Hid (OwnBl (w5.setCell ⟨X,q,none⟩ (.bool true)) B gf g.ms.length (zai g.ls g.ms.length (zas g.ms.length k))):=zc (zzP F5.o (by have:=F5.o.at.1;have:=aJ.o;omega));go_roundw
         case rel=>exact⟨q+1,g5,J+1,ad,by omega,by omega,by go_num,by go_num,by rw[E2.o];exact T6,by rw[E1.o];exact L6,F6⟩
         case measure=>simp[intOf];omega
      ·obtain rfl:q=g.ms.length:=by omega
       have ar: ¬((g.ms.length:Nat):Int)<(g.ms.length:Int):=by omega
       have aD:N+1<=100000000:=by omega
       go_wp2_with (at_builtin;refine zeh slE _ rfl _ _ 43 rfl w.heap.size 36 iS _ 24 underlying43 sS aO aN aF rfl (by decide) g' N H vs (by rfl) (QT.o.o.later (bA0)) wr.heap.size (some ⟨gl,0,none⟩,J,I) (by rfl) (by exact hN0 _ _) aD ?_;intro g7 ay w7 aG aK aQ);have T7:=zc ((QT.o.later (bA0)).push LT.o az.o (QL.o.later (bA0)) aG aK);go_roundw
       case rel=>exact⟨k+1,g7,N+1,ay,_,by omega,by go_num,by go_num,by rw[HM.o,<-HE.o];exact T7⟩
       case measure=>simp[intOf];omega
   ·obtain rfl:k=g.ms.length:=by omega
    have ao: ¬((g.ms.length:Nat):Int)<(g.ms.length:Int):=by omega
    go_wp2;go_ret;exact⟨_,_,_,_,vs,rfl,K.o.t,K.o.b,fun _=>rfl,fun k=>absurd U.o k⟩
set_option maxHeartbeats 3200000
theorem Tryz.infoItT:(prog.info? 3).map (fun i=>(i.zero,i.size,i.bytes))=some (some (.int .i64 0),1,8):=by kernel_rfl
theorem zzR (g:Gr) (b J A q j:Nat) (Y:Nat->Nat) (w:World) (h:ReAt w g b Y) (N:w.heap[J]? =some (.cells #[.slice (some ⟨b,0,none⟩) g.ms.length g.ms.length] 75 (0,0))) (H:w.heap[A]? =some (.cells #[.int .i64 (q:Int)] 3 (0,0))) (L:q<g.ms.length) (M:j<g.ms.length):
  Calls prog 64 #[.int .i64 (j:Int),.pointer (some ⟨J,0,none⟩),.pointer (some ⟨A,0,none⟩)] w fun e w'=>e= .returned (.bool (zt g q j))/\Bw w w':=by
 obtain⟨h1,_,K⟩:=h.2 q L;obtain⟨k1,_,I⟩:=h.2 j M;have V:=K j M;have k4:=I q L;have O:Hid (zt g q j=(zx g q j&&zx g j q)):=zc rfl;rw[O.o];generalize zx g q j=v at V ⊢;generalize zx g j q=u at k4 ⊢;have c0:=Boxed.cell N;have c1:=Boxed.cell H;have Z:(q:Int)<(g.ms.length:Int):=by omega
 have X:(j:Int)<(g.ms.length:Int):=by omega
 have U:Hid (Bw w w.drew):=zc (Below.refl _ _).drew;clear h K I N H O;cases v<;>
 ·go_enter func64,ntmps64;go_wp2_with fail;go_region;go_wp2;go_ret;exact⟨by cases u<;>rfl,U.o⟩
theorem zzS (g:Gr) (b gc Z A:Nat) (gs:Nat->Nat) (w:World) (h:ReAt w g b gs) (hc:w.heap[gc]? =some (.cells #[.slice (some ⟨b,0,none⟩) g.ms.length g.ms.length] 75 (0,0))) (hq:w.heap[Z]? =some (.cells #[.int .i64 (A:Int)] 3 (0,0))) (hm:A<g.ms.length) (ah:g.ms.length<=8):
  Calls prog 57 #[.slice (some ⟨b,0,none⟩) g.ms.length g.ms.length,.func (.func 64) #[] #[.pointer (some ⟨gc,0,none⟩),.pointer (some ⟨Z,0,none⟩)]] w fun e w'=>∃a n M,e= .returned (.slice a n M)/\OutE itE 3 w' w.heap.size a n M (zM g.ms.length fun j=>zt g A j)/\Bw w w':=by
 obtain⟨i0,hi,V,ab,ad⟩:=info_parts Tryz.infoItT;have RA:=zc h;have HC:=zc hc;have HQ:=zc hq;clear h hc hq;go_enter func57,ntmps57;have O0:Hid (OwnE itE (w.alloc (.cells #[] 3)) w.heap.size 3 w.heap.size 0 0 []):=zc (OwnE.nil itE w 3);have B0:Hid (Bw w (w.alloc (.cells #[] 3))):=zc (bA0);go_wp2;go_loopw [10,5,6] (fun i o _ wr=>∃(k N K q:Nat),k<=g.ms.length/\i= .int .i64 k/\o= .slice (some ⟨N,0,none⟩) K q/\Hid (OwnE itE wr w.heap.size 3 N K q (zM k fun j=>zt g A j))/\Hid (Bw w wr)) (fun i _ _ _=>(g.ms.length-intOf i).toNat)
 case atStart=>exact⟨0,w.heap.size,0,0,Nat.zero_le _,rfl,rfl,O0,B0⟩
 case round=>
  obtain⟨k,N,K,q,hk,rfl,rfl,U,J⟩:=hrel;clear O0 B0;by_cases I:k<g.ms.length
  ·have af:(k:Int)<(g.ms.length:Int):=by omega
   have H:=zc (zdw (fun j=>zt g A j) k);have ag:K<=8:=by have:=U.o.2;have:=zei k fun j=>zt g A j;omega
   go_wp2_with fail;refine (zzR g b gc Z A k gs wr (RA.o.later J.o) (zdc HC.o J.o) (zdc HQ.o J.o) hm I).mono ?_;rintro e w2 ⟨rfl,Y⟩;have O2:=zc (U.o.later Y);have O:=zc (J.o.trans (Y.mono J.o.size));clear Y U J;cases hp:zt g A k with
   |true=>
    have X:Hid ((zM (k+1) fun j=>zt g A j)=(zM k fun j=>zt g A j)++[Int.ofNat k]):=by show _=_;rw[H.o,if_pos hp]
    go_wp2_with (at_builtin;refine zeh itE _ rfl _ _ 36 rfl w.heap.size 3 i0 _ 8 underlying36 hi V ab ad rfl (by decide) N K q _ (by rfl) (O2.o.later (bA0)) w2.heap.size (Int.ofNat k) (by rfl) (by exact hN0 _ _) (by omega) ?_;intro g4 L w4 ac aa ae);go_roundw
    case rel=>exact⟨k+1,g4,K+1,L,I,by go_num,by go_num,by rw[X.o];exact zc ac,zc ((O.o.alloc O.o.size _).grown aa (O.o.alloc O.o.size _).size (fun j hj=>by cases hj;exact O2.o.blk.1))⟩
    case measure=>simp[intOf];omega
   |false=>
    have X:Hid ((zM (k+1) fun j=>zt g A j)=zM k fun j=>zt g A j):=by show _=_;rw[H.o,if_neg (by rw[hp];decide)]
    go_wp2;go_roundw
    case rel=>exact⟨k+1,N,K,q,I,by go_num,rfl,by rw[X.o];exact O2,O⟩
    case measure=>simp[intOf];omega
  ·obtain rfl:k=g.ms.length:=by omega
   go_wp2;go_ret;exact⟨_,_,_,rfl,OutE.own U.o,J.o⟩
set_option maxHeartbeats 6400000
theorem Tryz.infoSlT:(prog.info? 36).map (fun i=>(i.zero,i.size,i.bytes))=some (some (.slice none 0 0),1,24):=by kernel_rfl
variable {w:World} {g:Nat} {W:Option Addr} {C:List Sl}
theorem TogE.low {b n q:Nat} {L:List (List Int)} (h:TogE w g W n q L C) (H:b<=g):TogE w b W n q L C:=
 ⟨h.vl,zgD h.o H,fun i s l J I=>zgD (h.inn i s l J I) H,h.sep⟩
theorem zpq (cG:GrC 13) (base:Nat) (G:GS) (g:Gr) (w:World) (ho:GrOwn w base G g) (hg:GdG g):
  Calls prog 30 #[grD G g] w (zpn g w):=by
 obtain⟨i0,hi,aq,aw,au⟩:=info_parts Tryz.infoSlT;have CG:=zc cG;have HG:=zc hg;have av:=hg.ll;have O0:=zc ho;clear ho hg cG;obtain⟨pr,mr,sv,⟨la,lc⟩⟩:=G;unfold grD;simp only;go_enter func30,ntmps30;go_upto_region 1 with fail;obtain⟨gx,ab⟩: ∃gx,gx=w.heap.size:=⟨_,rfl⟩;rw[<-ab];refine zp (R:=fun W=>Bk W gx (grC ⟨pr,mr,sv,⟨la,lc⟩⟩ g) 32/\Below w.heap.size w W) ⟨by rw[ab];exact hN0 w _,zn w _⟩ ?_;clear ab;rintro W0 ⟨hx,L⟩;have X0:=zc hx;have B0:=zc L;clear hx L;obtain⟨c0,c1,c2,cf⟩:=zg X0.o;simp only at c0 c1 c2;go_wp2_with fail;refine (CG.o base ⟨pr,mr,sv,⟨la,lc⟩⟩ g W0 (O0.o.later B0.o) HG.o).mono ?_;rintro e w1 ⟨⟨b,rfl,al⟩,L⟩;have X1:=zc (X0.o.later L);have B1:=zc (zi B0.o L);have OK:=zc al;clear al L c0 c1 c2 cf X0 B0;obtain⟨c0,c1,c2,cf⟩:=zg X1.o;simp only at c0 c1 c2;cases b with
 |false=>
  have HK:Hid (¬GrS g):=zc (fun k=>absurd (OK.o.2 k) (by decide));clear OK;go_wp2;go_ret;exact⟨none,0,0,[],[],rfl,⟨rfl,⟨rfl,fun h=>absurd h (by decide)⟩,fun i s l h _=>(by cases h),fun i j s t k h _ _ _ _ _=>(by cases h)⟩,B1.o,fun k=>absurd k HK.o,fun _=>rfl⟩
 |true=>
  have J:Hid (GrS g):=OK.o.1 (by simp);clear OK;have ay:1<=g.ms.length:=J.o.1.1;have ao:g.ms.length<=8:=J.o.1.2;have LK:=zc J.o.links;go_wp2_with fail;refine (zgC base ⟨pr,mr,sv,⟨la,lc⟩⟩ g w1 (O0.o.later B1.o) ao av LK.o).mono ?_;rintro e w2 ⟨bb,gs,rfl,ai,L⟩;have B2:=zc (zi B1.o L);have RA:=zc ai;clear ai L X1 B1 c0 c1 c2 cf;obtain⟨bc,aa⟩: ∃bc,bc=w2.heap.size:=⟨_,rfl⟩;obtain⟨q,U⟩: ∃q,q=w2.alloc (.cells #[.slice (some ⟨bb,0,none⟩) g.ms.length g.ms.length] 75):=⟨_,rfl⟩;have ad:Bw w2 q:=by rw[U];exact zn w2 _
  have ac:Hid (q.heap[bc]? =some (.cells #[.slice (some ⟨bb,0,none⟩) g.ms.length g.ms.length] 75 (0,0))):=zc (by rw[U,aa];exact hN0 w2 _);have B3:=zc (zi B2.o ad);have ar:=zc (RA.o.later ad);go_upto_region 4 with fail;rw[<-U,<-aa];clear ad U aa B2 RA;have O0:Hid (OwnE slE (q.alloc (.cells #[] 36)) q.heap.size 36 q.heap.size 0 0 []):=zc (OwnE.nil slE q 36);have C0:=zc (zn q (.cells #[] 36));have T0:Hid (TogE (q.alloc (.cells #[] 36)) q.heap.size (some ⟨q.heap.size,0,none⟩) 0 0 (zbk g.ms.length (zt g) 0) []):=zc ⟨rfl,OutE.own O0.o,fun i s l h _=>(by cases h),fun i j s t k h _ _ _ _ _=>(by cases h)⟩;have bx:=Boxed.cell (zdc ac.o C0.o);go_wp2;go_loopw [15,4] (fun i o wr=>∃(k g' Z A:Nat) (vs:List Sl),k<=g.ms.length/\i= .int .i64 k/\o= .slice (some ⟨g',0,none⟩) Z A/\Hid (TogE wr q.heap.size (some ⟨g',0,none⟩) Z A (zbk g.ms.length (zt g) k) vs)/\Hid (OwnE slE wr q.heap.size 36 g' Z A vs)/\Hid (Bw q wr)) (fun i _ _=>(g.ms.length-intOf i).toNat)
  case atStart=>exact⟨0,q.heap.size,0,0,[],Nat.zero_le _,rfl,rfl,T0,O0,C0⟩
  case round=>
   obtain⟨k,g',Z,A,vs,hk,rfl,rfl,HT,HO,HB⟩:=hrel;clear T0 O0 C0 bx;by_cases I:k<g.ms.length
   ·have an:(k:Int)<(g.ms.length:Int):=by omega
    have X:=zc (zpl g.ms.length (zt g) k);have ax:Z<=8:=by
     have h1:=HO.o.2;have h2:=HT.o.vl;have h3:=zkh g.ms.length (zt g) k;omega
    obtain⟨gm,ae⟩: ∃gm,gm=wr.heap.size:=⟨_,rfl⟩;obtain⟨Y,O⟩: ∃Y,Y=wr.alloc (.cells #[.int .i64 (k:Int)] 3):=⟨_,rfl⟩;have N:Bw wr Y:=by rw[O];exact zn wr _
    have T2:=zc (HT.o.later N);have O2:=zc (HO.o.later N);have M:=zc (HB.o.trans (N.mono HB.o.size));have M2:Hid (Y.heap[gm]? =some (.cells #[.int .i64 (k:Int)] 3 (0,0))):=zc (by rw[O,ae];exact hN0 wr _);go_upto_region 8 with fail;rw[<-O,<-ae];clear N O ae HT HO HB;have bx:=Boxed.cell (zdc ac.o M.o);go_wp2_with fail;refine (zzS g bb bc gm k gs Y (ar.o.later M.o) (zdc ac.o M.o) M2.o I ao).mono ?_;rintro e K ⟨p,m,d,rfl,ah,V⟩;have B5:Hid (Bw Y K.drew):=zc (V.trans ((Below.refl K.heap.size K).drew.mono V.size));have M5:=zdc M2.o V;have L5:=zc ah;have D5:Hid (OutE itE 3 K.drew Y.heap.size p m d (zM g.ms.length (zt g k))):=zc (ah.later (Below.refl K.heap.size K).drew);obtain⟨z,t,hz,ak⟩:=zzF (p:=zt g) I (zzG g J.o I);obtain⟨b5,o5,e5,k5⟩:=(L5.o.row).get (j:=0) (x:=z) (by show (zM g.ms.length (zt g k))[0]? =_;rw[hz];rfl);subst e5;have z0:=k5 0 _ rfl;simp only[itE,Nat.add_zero,Nat.zero_mul] at z0;have m0:=Boxed.cell M5;have az:(0:Int)<(m:Int):=by
     have h1:m=(zM g.ms.length (zt g k)).length:=L5.o.1;rw[hz] at h1;simp at h1;omega
    have am:=zc ak;clear ah V k5 hz ak bx M5 L5;cases H:zbn (zt g) k with
    |true=>
     have e9:z=(k:Int):=am.o.2 H;subst e9;have HM:Hid (zbk g.ms.length (zt g) (k+1)=zbk g.ms.length (zt g) k++[zM g.ms.length (zt g k)]):=zc (by rw[X.o,if_pos H]);go_wp2_with fail;go_region
     all_goals
      go_wp2_with (at_builtin;refine zeh slE _ rfl _ _ 43 rfl q.heap.size 36 i0 _ 24 underlying43 hi aq aw au rfl (by decide) g' Z A vs (by rfl) (O2.o.later (B5.o.trans ((zn K.drew _).mono B5.o.size))) K.drew.heap.size (some ⟨b5,o5,none⟩,m,d) (by rfl) (by exact hN0 _ _) (by omega) ?_;intro g4 ap w6 af ag aj);have BA:=B5.o.trans ((zn K.drew (.cells #[.slice (some ⟨b5,o5,none⟩) m d] 36)).mono B5.o.size);have T6:=zc (T2.o.push BA M.o.size (D5.o.later (zn K.drew _)) ag af (zek (O2.o.later BA)));have O6:=zc af;have C6:Hid (Bw q w6):=zc ((M.o.trans (BA.mono M.o.size)).grown ag (Nat.le_trans M.o.size BA.size) (fun j hj=>by cases hj;exact O2.o.blk.1));clear af ag aj BA;go_roundw
      case rel=>exact⟨k+1,g4,Z+1,ap,_,I,by go_num,by go_num,by rw[HM.o];exact T6,O6,C6⟩
      case measure=>simp[intOf];omega
    |false=>
     have e9: ¬z=(k:Int):=fun e=>by have:=am.o.1 e;rw[H] at this;cases this
     have HM:Hid (zbk g.ms.length (zt g) (k+1)=zbk g.ms.length (zt g) k):=zc (by rw[X.o,if_neg (by rw[H];decide)]);have T6:=zc (T2.o.later B5.o);have O6:=zc (O2.o.later B5.o);have C6:=zc (M.o.trans (B5.o.mono M.o.size));go_wp2_with fail;go_region
     all_goals
      go_wp2;go_roundw
      case rel=>exact⟨k+1,g',Z,A,vs,I,by go_num,rfl,by rw[HM.o];exact T6,O6,C6⟩
      case measure=>simp[intOf];omega
   ·obtain rfl:k=g.ms.length:=by omega
    have an: ¬((g.ms.length:Nat):Int)<(g.ms.length:Int):=by omega
    go_wp2;go_ret;exact⟨_,_,_,_,vs,rfl,HT.o.low B3.o.size,B3.o.trans (HB.o.mono B3.o.size),fun _=>rfl,fun k=>absurd J.o k⟩
theorem zpr: ∀{L:List (List Int)},(∀l∈L,l.length<=8)->(L.map List.length).sum<=8*L.length
 |[],_=>Nat.le_refl _
 |x::L,h=>by
  have w:=zpr fun l q=>h l (List.mem_cons_of_mem _ q);have A:=h x (List.mem_cons_self ..);rw[List.map_cons,List.sum_cons,List.length_cons];omega
theorem zzT {L:List (List Int)} (q:L.length<=8) (h: ∀l∈L,l.length<=8):za8 L L.length<=65:=by
 rw[za8,List.take_length];have:=zpr h;omega
theorem zzU {g:Gr} {L:List (List Int)} (H:GrS g->L=zkg g) (A: ¬GrS g->L=[]):L.length<=8/\∀l∈L,l.length<=8:=by
 by_cases q:GrS g
 ·have w:=q.1.2;rw[H q,zkg];refine⟨Nat.le_trans (zkh ..) w,fun l h=>?_⟩;rw[zbk] at h;obtain⟨j,_,rfl⟩:=List.mem_map.1 h;exact Nat.le_trans (zei ..) w
 ·rw[A q];exact⟨Nat.zero_le _,fun l h=>absurd h List.not_mem_nil⟩
theorem zzV: ∀s,¬MkT 36 s:=by
 intro s h;rcases h with ⟨k,_⟩|⟨k,_⟩|⟨k,_⟩|⟨k,_⟩|⟨k,_⟩|⟨k,_⟩<;>exact absurd k (by decide)
theorem TogE.marked {z:World} {b n q:Nat} {L:List (List Int)} (h:TogE w g W n q L C) (A:Mkd b w z):TogE z g W n q L C:=by
 refine⟨h.vl,⟨h.o.1,fun p=>?_⟩,fun i s l K J=>(h.inn i s l K J).marked A,h.sep⟩;obtain⟨S,e,o⟩:=h.o.2 p;obtain⟨I,M⟩:=zek o;exact⟨S,e,o.keep (A.off M zzV)⟩
