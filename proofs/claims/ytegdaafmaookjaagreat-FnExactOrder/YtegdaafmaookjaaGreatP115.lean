/- Facts. -/
import Derived.Test.YtegdaafmaookjaaGreatP89
namespace Go.Proofs.YtegdaafmaookjaaGreat
open Go.Proofs.Tryz
set_option maxRecDepth 100000
set_option maxHeartbeats 12800000
open Go.RowKit Go.PlainAid Go.Sort
def zjY (g:Gr):List Int:=(zhZ g).map Int.ofNat
def zoL (g:Gr) (w:World) (e:Ending) (w':World):Prop:=
 ∃a n cap l,e= .returned (.slice a n cap)/\OutE itE 3 w' w.heap.size a n cap l/\Bw w w'/\(GrS g->l=zjY g)/\(¬GrS g->l=[])
variable (g:Nat) (w:World) (b:Nat) {W:Gr} {V C:World} {c:Nat} {S:Rw} {q:List Nat} {z:List Bool}
theorem zz2 (h:GrS W):(zjY W).length=W.ms.length:=by rw[zjY,List.length_map];exact ((zh1 W).1 h).2.2.2.2.2
theorem zjZ (h:GrS W):zbM (zw W) W.ls:=((zh1 W).1 h).2.2.2.2.1
theorem zz3 (l:List Nat):zcC l=(l.map Int.ofNat).flatMap itE.f:=by
 induction l with
 |nil=>rfl
 |cons x l h=>rw[List.map_cons,List.flatMap_cons,<-h];rfl
theorem zoM (h:OwnR V c 3 1 S q.length (zcC q)):OutE itE 3 V c S.a q.length S.cap (q.map Int.ofNat):=by
 refine⟨by rw[List.length_map],fun J=>?_⟩;have A:V.ownsRow c 3 1 (.slice S.a q.length S.cap) q.length (zcC q):=h;rcases A.2 with ⟨_,K⟩|⟨g,H,I,s,_⟩
 ·omega
 ·simp only[vI] at s;refine⟨g,s.1,⟨?_,by rw[List.length_map]⟩⟩;rw[<-zz3,<-s.1];exact A
theorem zoN (X:GrC 13) (base:Nat) (G:GS) (g:Gr) (w:World) (I:GrOwn w base G g) (M:GdG g):
  Calls prog 26 #[grD G g] w (zoL g w):=by
 have CG:=zc X;have HG:=zc M;have L:=M.ll;have Y:=zc I;clear I M X;unfold grD;go_enter func26,ntmps26;go_upto_region 1 with fail;refine zp (R:=fun W=>Bk W w.heap.size (grC G g) 32/\Below w.heap.size w W) ⟨hN0 w _,zn w _⟩ ?_;rintro W0 ⟨hx,q⟩;have O:=zc hx;have N:=zc q;clear hx q;obtain⟨c0,U,V,Z⟩:=zg O.o;go_wp2_with fail;refine (CG.o base G g W0 (Y.o.later N.o) HG.o).mono ?_;rintro e w1 ⟨⟨b,rfl,H⟩,q⟩;have X1:=zc (O.o.later q);have K:=zc (zi N.o q);have J:=zc H;clear H q c0 U V Z O N;obtain⟨c0,U,V,Z⟩:=zg X1.o;cases b with
 |false=>
  have HK:Hid (¬GrS g):=zc (fun k=>absurd (J.o.2 k) (by decide));clear J;go_wp2;go_ret;exact⟨none,0,0,[],rfl,⟨rfl,fun h=>absurd h (by decide)⟩,K.o,fun k=>absurd k HK.o,fun _=>rfl⟩
 |true=>
  have A:Hid (GrS g):=J.o.1 (by simp);clear J;go_wp2_with fail;refine (zot base G g w1 (Y.o.later K.o) (zjZ A.o) A.o.1.1 A.o.1.2 L).mono ?_;rintro e w2 ⟨r,rfl,I,q⟩;have B2:=zc (zi K.o q);have R2:=zc (zgD (zoM I) K.o.size);clear I q;go_wp2;go_ret;exact⟨_,_,_,_,rfl,R2.o,B2.o,fun _=>rfl,fun k=>absurd A.o k⟩
theorem zz4 (G:GS) (d:Gr) (f:Int) (s:BA0) (w:World) (ho:GrOwn w g G d) (hl:d.ls.length<=1048576):
  Calls prog 90 #[grD G d,.int .i64 f,.string s] w fun e w'=>e= .returned (.int .i64 (zbd d.ls (f,s.toList)))/\Bw w w':=by
 have HR:=zc (RowAt.of (f:=lkL) (m:=3) (fun _=>rfl) ho.ls);clear ho;obtain⟨pr,mr,sv,⟨la,lc⟩⟩:=G;unfold grD;simp only at HR ⊢;go_enter func90,ntmps90;go_upto_region 1 with fail;obtain⟨V,H⟩: ∃V,V=w.heap.size:=⟨_,rfl⟩;rw[<-H];refine zp (R:=fun W=>Bk W V #[.slice pr.a d.ps.length pr.cap,.slice mr.a d.ms.length mr.cap,.slice la d.ls.length lc] 32/\Below w.heap.size w W) ⟨by rw[H];exact hN0 w _,zn w _⟩ ?_;rintro W0 ⟨h,Z⟩;have q:=zc Z;obtain⟨c0,c1,c2,cf⟩:=zg h;clear H h Z;go_wp2;go_loopg [7] d.ls.length (fun k s7 wr=>∃i:Nat,s7= .int .i64 i/\i+k=d.ls.length/\Hid (∀(j:Nat) (x:Lk),j<i->d.ls[j]? =some x->zW x≠(f,s.toList))/\wr=W0)
 case atStart=>exact⟨0,rfl,by omega,zc (fun j x M=>absurd M (Nat.not_lt_zero j)),rfl⟩
 case round=>
  obtain⟨i,rfl,hi,Y,rfl⟩:=hrel;by_cases U:i<d.ls.length
  ·have N:(i:Int)<(d.ls.length:Int):=by omega
   obtain⟨l,A⟩: ∃l,d.ls[i]? =some l:=⟨_,gE U⟩;obtain⟨b1,o1,e1,O⟩:=(HR.o.later q.o).get A;subst e1;have d0:=O 0 _ rfl;have d1:=O 1 _ rfl;have d2:=O 2 _ rfl;simp only[Nat.add_zero] at d0;have HL:=zc A;clear A O;obtain⟨L,J⟩: ∃L,L=i+1:=⟨_,rfl⟩;have ei:(i:Int)+1=(L:Int):=by omega
   have K:=zc J;clear J;rcases zon l f s with ⟨h1,h2,I⟩|⟨h1,h2,I⟩|⟨h1,I⟩
   ·have X:=zc (zlq HL.o I Y.o);clear I;go_wp2;go_ret;exact⟨by rw[X.o];rfl,q.o⟩
   all_goals (
    have HK:Hid (∀(j:Nat) (x:Lk),j<L->d.ls[j]? =some x->zW x≠(f,s.toList)):=fun j x M h=>by
     by_cases e:j=i
     ·rw[e,HL.o] at h;cases h;exact I
     ·exact Y.o j x (by have:=K.o;omega) h
    clear I;go_wp2;go_roundg (gk-1)
    case rel=>exact⟨L,rfl,by have:=K.o;omega,HK,rfl⟩
    case measure=>omega)
  ·have N: ¬(i:Int)<(d.ls.length:Int):=by omega
   have X:Hid (zbd d.ls (f,s.toList)= -1):=zc (zlp fun x h=>by
    obtain⟨j,M⟩:=List.getElem?_of_mem h
    exact Y.o j x (by have:=(gS M).1;omega) M)
   go_wp2;go_ret;exact⟨by rw[X.o];rfl,q.o⟩
structure SoW (w:World) (g:Gr) (gq:Nat) (b:List Bool) (r:Rw) (out:List Nat) (W:World):Prop where
 bl:OwnBl W w.heap.size gq g.ms.length b
 ro:OwnR W w.heap.size 3 1 r out.length (zcC out)
 b:Bw w W
theorem SoW.later {I:World} {g:Gr} {b:List Bool} (h:SoW V g c b S q C) (A:Bw C I):SoW V g c b S q I:=⟨h.bl.later A,h.ro.later A,zi h.b A⟩
theorem SoW.mark {g:Gr} (h:SoW V g c z S q C) (m:Nat):SoW V g c (z.set m true) S q (C.setCell ⟨c,m,none⟩ (.bool true)):=by
 obtain⟨H,I⟩:=h.bl.block;exact⟨h.bl.set m true,h.ro.aside I (by decide),h.b.setCell h.bl.at.1 _⟩
def KeB (W W':World):Prop:=∀(k:Nat) (cs:Array Value) (t:TypeId),W.heap[k]? =some (.cells cs t (0,0))->4≠t->3≠t->W'.heap[k]? =some (.cells cs t (0,0))
theorem KeB.of (h:Bw V C):KeB V C:=fun k _ _ w _ _=>(h.block k (aLt w)).trans w
theorem KeB.trans {I:World} (h:KeB V C) (k:KeB C I):KeB V I:=fun j w t J A q=>k j w t (h j w t J A q) A q
theorem SoW.keep {g:Gr} {m:Nat} {b:List Bool} (h:SoW V g c b S q C):KeB C (C.setCell ⟨c,m,none⟩ (.bool true)):=by
 obtain⟨H,J⟩:=h.bl.block;intro k L t I K _;exact Bk.set I J (fun e=>K e.symm)
theorem SoW.push {U A:World} {g:Gr} {m:Nat} {M:Rw} (h:SoW V g c z S q C) (K:Bw C U) (O:U.grownBy A S.blk) (Z:OwnR A V.heap.size 3 1 M (q.length+1) (zcC (q++[m]))):SoW V g c z M (q++[m]) A/\KeB C A:=by
 have L: ∀{a:Nat} {J:Array Value} {t:TypeId},C.heap[a]? =some (.cells J t (0,0))->3≠t->A.heap[a]? =some (.cells J t (0,0)):=fun ha ht=>zjT h.ro K O ha ht;obtain⟨s,N⟩:=h.bl.block;have H:OwnBl A V.heap.size c g.ms.length z:=OwnR.keep h.bl fun k e=>by
  cases e;rw[L N (by decide),N]
 exact⟨⟨H,by rw[List.length_append];exact Z,(zi h.b K).grown O (Nat.le_trans h.b.size K.size) fun k e=>(h.ro.typed e).1⟩,fun k J t X _ Y=>L X Y⟩
def SoC (w:World) (base:Nat) (G:GS) (g:Gr) (gq f:Nat):Prop:=∀(m:Nat) (b:List Bool) (r:Rw) (out:List Nat) (W:World),SoW w g gq b r out W->m<g.ms.length->g.ms.length<=f+zF b->out.length<=zF b->GrOwn w base G g->
 Calls prog 63 #[grD G g,.int .i64 (m:Int),.slice (some ⟨gq,0,none⟩) g.ms.length g.ms.length,.slice r.a out.length r.cap] W fun e W'=>∃r':Rw,e= .returned (.tuple #[.slice (some ⟨gq,0,none⟩) g.ms.length g.ms.length,.slice r'.a (dfs (zaQ (zw g) g.ls) f m (b,out)).2.length r'.cap])/\SoW w g gq (dfs (zaQ (zw g) g.ls) f m (b,out)).1 r' (dfs (zaQ (zw g) g.ls) f m (b,out)).2 W'/\KeB W W'
theorem zoO (G:GS) (g:Gr) (gq:Nat) (hl:zbM (zw g) g.ls) (hn:g.ms.length<=8) (aP:g.ls.length<=1048576) (f:Nat):SoC w b G g gq f:=by
 have HL:=zc hl;clear hl;obtain⟨L,⟨V,M⟩,N,K⟩:=G
 induction f with
 |zero=>
  intro m d r h W hw hm hf _ _;have ab:=hw.bl.len;have ai:zF d=d.length:=by have:=zdG d;omega
  have hv:=zgr.1 ai m (by omega);have HW:=zc (hw.later (zn W (.cells (grC ⟨L,⟨V,M⟩,N,K⟩ g) 32)));have KW:=zc (KeB.of (zn W (.cells (grC ⟨L,⟨V,M⟩,N,K⟩ g) 32)));have c1:=HW.o.bl.cell hv;have aL:(m:Int)<(g.ms.length:Int):=by omega
  clear hw hv;unfold grD;simp only;go_enter func63,ntmps63;go_upto_region 1 with fail;obtain⟨W1,I⟩: ∃W1,W1=W.alloc (.cells (grC ⟨L,⟨V,M⟩,N,K⟩ g) 32):=⟨_,rfl⟩;rw[<-I] at c1 HW KW;change Code.wp _ _ _ _ (W.alloc (.cells (grC ⟨L,⟨V,M⟩,N,K⟩ g) 32));rw[<-I];clear I;go_wp2;go_ret2;exact⟨r,rfl,HW.o,KW.o⟩
 |succ f ih=>
  intro m d r h W hw hm hf aY ho;have IH:=zc ih;have HO:=zc ho;have ab:=hw.bl.len;have aL:(m:Int)<(g.ms.length:Int):=by omega
  have hv:=zos (b:=d) (m:=m) (by omega);have q:=zc (hw.later (zn W (.cells (grC ⟨L,⟨V,M⟩,N,K⟩ g) 32)));have Y:=zc (KeB.of (zn W (.cells (grC ⟨L,⟨V,M⟩,N,K⟩ g) 32)));have X0:Hid (Bk (W.alloc (.cells (grC ⟨L,⟨V,M⟩,N,K⟩ g) 32)) W.heap.size (grC ⟨L,⟨V,M⟩,N,K⟩ g) 32):=zc (hN0 W _);clear ih hw ho;unfold grD;simp only;go_enter func63,ntmps63;go_upto_region 1 with fail;obtain⟨W1,I⟩: ∃W1,W1=W.alloc (.cells (grC ⟨L,⟨V,M⟩,N,K⟩ g) 32):=⟨_,rfl⟩;rw[<-I] at X0 q Y;change Code.wp _ _ _ _ (W.alloc (.cells (grC ⟨L,⟨V,M⟩,N,K⟩ g) 32));rw[<-I];clear I;obtain⟨gx,al⟩: ∃gx,gx=W.heap.size:=⟨_,rfl⟩;rw[<-al] at X0 ⊢;clear al;have c1:=q.o.bl.cell hv;cases hb:d.getD m true with
  |true=>
   have HD:Hid (dfs (zaQ (zw g) g.ls) (f+1) m (d,h)=(d,h)):=by show _=_;rw[dfs,if_pos hb]
   rw[hb] at c1;clear hv hb;go_wp2;go_ret2;exact⟨r,by rw[HD.o];rfl,by rw[HD.o];exact q.o,Y.o⟩
  |false=>
   rw[hb] at c1 hv;have hc:=zgt hv;have f1:=q.o.bl.free m;have HD:Hid (dfs (zaQ (zw g) g.ls) (f+1) m (d,h)=(((zaQ (zw g) g.ls m).foldl (fun s k=>dfs (zaQ (zw g) g.ls) f k s) (d.set m true,h)).1,((zaQ (zw g) g.ls m).foldl (fun s k=>dfs (zaQ (zw g) g.ls) f k s) (d.set m true,h)).2++[m])):=by show _=_;rw[dfs,if_neg (by rw[hb];decide)]
   have Z:=zc (q.o.mark m);have ad:=zc (Y.o.trans (q.o.keep (m:=m)));have X1:=zc (q.o.keep (m:=m) _ _ _ X0.o (by decide) (by decide));clear hb hv;go_upto_region 4 with fail;obtain⟨W2,ap⟩: ∃W2,W2=W1.setCell ⟨gq,m,none⟩ (.bool true):=⟨_,rfl⟩;rw[<-ap] at Z ad X1 ⊢;clear ap q Y X0 c1 f1;obtain⟨O,aa⟩: ∃O,g.ms[m]? =some O:=⟨_,gE hm⟩;obtain⟨S,hS⟩:=zec HO.o.len aa;have H:=zc (HO.o.later Z.o.b);obtain⟨b1,o1,e1,_⟩:=(RowAt.of (f:=mdL) (m:=5) (fun _=>rfl) (zey H.o.len H.o.ms)).get hS;simp only at e1;subst e1;have HS:=zc hS;have RS:=zc (RowS.of (HO.o.md _ (mG hS)).rq);have ag:Hid ((zw g)[m]? =some O.rq):=by show _=_;rw[zw,List.getElem?_map,aa];rfl
   have ac:Hid (zaQ (zw g) g.ls m=O.rq.map fun s=>(zbd g.ls ((m:Int),s.toList)).toNat):=by show _=_;rw[zaQ,List.getD,ag.o];rfl
   have aW:O.rq.length<=1048576:=by
    have h1:=HL.o.1;have h2:=zh2 ag.o;have h3:=zh3 (zw g) (m+1);omega
   have aU:g.ms.length<=f+zF (d.set m true):=by omega
   have aG:h.length<=zF (d.set m true):=by omega
   clear aa hS H;obtain⟨⟨ra,rc⟩,a1,a0,aZ,aV,aX⟩:=S;simp only at RS;obtain⟨J,U⟩: ∃J,J=zaQ (zw g) g.ls:=⟨_,rfl⟩;have aN:Hid (∀a,a<g.ms.length->∀k∈J a,k<g.ms.length):=fun a _ k hk=>by rw[U] at hk;have:=zht HL.o a k hk;rw[zcf] at this;exact this
   have HQ:=zc U;rw[<-U] at HD ac;have aO:Hid (∀(m:Nat) (d:List Bool) (r:Rw) (h:List Nat) (W:World),SoW w g gq d r h W->m<g.ms.length->g.ms.length<=f+zF d->h.length<=zF d->Calls prog 63 #[grD ⟨L,⟨some ⟨b1,o1,none⟩,M⟩,N,K⟩ g,.int .i64 (m:Int),.slice (some ⟨gq,0,none⟩) g.ms.length g.ms.length,.slice r.a h.length r.cap] W fun e W'=>∃r':Rw,e= .returned (.tuple #[.slice (some ⟨gq,0,none⟩) g.ms.length g.ms.length,.slice r'.a (dfs J f m (d,h)).2.length r'.cap])/\SoW w g gq (dfs J f m (d,h)).1 r' (dfs J f m (d,h)).2 W'/\KeB W W'):=by rw[U];exact fun m d r h W h1 h2 h3 h4=>IH.o m d r h W h1 h2 h3 h4 HO.o
   clear U IH;go_wp2;go_loopg [2,3,10] O.rq.length (fun k s2 s3 aC wr=>∃(j:Nat) (A:List Bool×List Nat) (r1:Rw),s2= .slice (some ⟨gq,0,none⟩) g.ms.length g.ms.length/\s3= .slice r1.a A.2.length r1.cap/\aC= .int .i64 j/\j+k=O.rq.length/\Hid (A=((J m).take j).foldl (fun s k=>dfs J f k s) (d.set m true,h))/\Hid (SoW w g gq A.1 r1 A.2 wr)/\Hid (Bk wr gx (grC ⟨L,⟨some ⟨b1,o1,none⟩,M⟩,N,K⟩ g) 32)/\Hid (KeB W wr)/\g.ms.length<=f+zF A.1/\A.2.length<=zF A.1)
   case atStart=>exact⟨0,(d.set m true,h),r,rfl,rfl,rfl,by omega,zc rfl,Z,X1,ad,aU,aG⟩
   case round=>
    obtain⟨j,A,r1,rfl,rfl,rfl,hj,az,X,XX,KK,ay,aH⟩:=hrel;clear Z X1 ad;have a2:=zdG A.1;have ab:=X.o.bl.len;have H:=zc (HO.o.later X.o.b);obtain⟨b2,o2,e2,k2⟩:=(RowAt.of (f:=mdL) (m:=5) (fun _=>rfl) (zey H.o.len H.o.ms)).get HS.o;simp only[sI0,Addr.mk.injEq,and_true] at e2;obtain⟨rfl,rfl⟩:=e2;have z0:=k2 0 _ rfl;simp only[Nat.add_zero] at z0;clear k2 H;obtain⟨y0,y1,y2,yf⟩:=zg XX.o;simp only at y0 y1 y2;by_cases aD:j<O.rq.length
    ·have ao:(j:Int)<(O.rq.length:Int):=by omega
     obtain⟨s,hs⟩: ∃s,O.rq[j]? =some s:=⟨_,gE aD⟩;obtain⟨b3,o3,e3,k3⟩:=(RS.o.later X.o.b).get hs;subst e3;have z1:=k3 0 _ rfl;simp only[Nat.add_zero,Nat.mul_one] at z1;have hk:=HL.o.2 m O.rq ag.o s (mG hs);rw[zcf] at hk;obtain⟨k,ah⟩: ∃k:Nat,zbd g.ls ((m:Int),s.toList)=(k:Int):=⟨_,(Int.toNat_of_nonneg hk.1).symm⟩;have aj:k<g.ms.length:=by omega
     have aA:Hid ((J m)[j]? =some k):=by show _=_;rw[ac.o,List.getElem?_map,hs];simp[ah]
     have aM:=zc ah;obtain⟨j1,am⟩: ∃j1,j1=j+1:=⟨_,rfl⟩;have ej:(j:Int)+1=(j1:Int):=by omega
     have av:=zc am;have aT:=zc (zor (f:=fun s k=>dfs J f k s) aA.o (d.set m true,h));clear hs k3 hk ah am;have DP:=zc (ziP (S:=fun _=>True) aN.o (fun _ _ _ _=>trivial) f k A ab aj ay trivial);go_upto_region 7 with fail;go_region_with (first|(go_at_call 90;refine (zz4 b ⟨L,⟨some ⟨b1,o1,none⟩,M⟩,N,K⟩ g m s _ (HO.o.later X.o.b.drew) aP).mono ?_;rintro e w2 ⟨rfl,an⟩;rw[aM.o];have B2:Hid (Bw wr w2):=zc (((Below.refl _ _).drew).trans an);have aq:=zc (X.o.later B2.o);have ae:=zc (XX.o.later B2.o);have ak:=zc (KK.o.trans (KeB.of B2.o));clear an;obtain⟨t0,t1,t2,tf⟩:=zg ae.o;simp only at t0 t1 t2)|(go_at_call 63;refine (aO.o k A.1 r1 A.2 _ aq.o aj ay aH).mono ?_;rintro e w3 ⟨r4,rfl,ar,af⟩))
     all_goals (
      have aJ:=zc ar;have aI:=zc (af _ _ _ ae.o (by decide) (by decide));have aS:=zc (ak.o.trans af);clear ar af aq X XX ae KK ak t0 t1 t2 tf y0 y1 y2 yf z0 z1;go_wp2;go_roundg (gk-1)
      case rel=>
       refine⟨j1,dfs J f k A,r4,rfl,rfl,rfl,by have:=av.o;omega,?_,aJ,aI,aS,by have:=DP.o.le.cnt.1;omega,by have:=DP.o.cnt;omega⟩;rw[av.o,aT.o,<-az.o];exact zc rfl
      case measure=>omega)
    ·have ao: ¬(j:Int)<(O.rq.length:Int):=by omega
     have aw:Hid (A=(J m).foldl (fun s k=>dfs J f k s) (d.set m true,h)):=by
      have:=az.o;rw[List.take_of_length_le (by rw[ac.o,List.length_map];omega)] at this;exact this
     obtain⟨i0,hi,aE,aR,aK⟩:=info_parts Tryz.infoIntO;have au:=fun o1=>X.o.ro.alloc (o:=o1);have aB: ∀o1,w.heap.size<=(wr.alloc o1).heap.size:=fun o1=>by rw[zh];have:=X.o.b.size;omega
     go_wp2_with (at_builtin;refine zbm _ rfl _ _ 36 rfl w.heap.size 3 i0 _ 1 8 underlying36 hi aE aR aK rfl (by decide) (by decide) r1 A.2.length (zcC A.2) (by rfl) (au _) wr.heap.size [.int .i64 (m:Int)] (by rfl) (by exact hN0 wr _) rfl (by simp[Value.oneCell']) (by omega) (aB _) ?_;intro r' wz hr ax aQ;have HR:=zc hr;have aF:=zc ax;clear hr ax aQ);have hp:=X.o.push (zn wr _) aF.o (m:=m) (by have:=HR.o;unfold zcC at this ⊢;rw[List.map_append];exact this);go_ret2;refine⟨r',?_,?_,KK.o.trans hp.2⟩
     ·rw[<-HQ.o,HD.o,<-aw.o,List.length_append];rfl
     ·rw[<-HQ.o,HD.o,<-aw.o];exact hp.1
theorem zoP (J:g<=1048576) (W:World):(Instr.makeSlice 63 (.int .i64 (g:Int)) (.int .i64 (g:Int))).run prog W= .ok (.slice (some ⟨W.heap.size,0,none⟩) g g) (W.alloc (.cells (madeCells #[.bool false] g) 4)):=by
 obtain⟨I,q,A,w,H⟩:=info_parts Tryz.infoBl;have h:=run_make (P:=prog) W 63 4 I _ underlying63 q A .i64 .i64 (g:Int) (g:Int) (by omega) (Int.le_refl _) (by rw[H];omega) (by omega);rw[w,Int.toNat_natCast,Nat.mul_one] at h;exact h
theorem zoQ (L:b<=1048576) (W:World) (K:g<=W.heap.size):OwnBl (W.alloc (.cells (madeCells #[.bool false] b) 4)) g W.heap.size b (List.replicate b false):=by
 obtain⟨I,h,w,q,A⟩:=info_parts Tryz.infoBl;obtain⟨M,J,H,_⟩:=run_make_full (P:=prog) W g 63 4 I _ 1 underlying63 h w q .i64 .i64 b (by rw[A];omega) (by unfold maxLen;omega) K;have e:=J.symm.trans (zoP b L W);simp only[Result.ok.injEq,true_and] at e;rw[e,show madeCells (Value.bool false).cells (b*1)=madeCells #[.bool false] b by rw[Nat.mul_one];rfl,toList_madeCells_one] at H;unfold OwnBl OwnR;rw[List.map_replicate];exact H
theorem zoR (h:g<=w.heap.size):OwnR (w.alloc (.cells #[] 3)) g 3 1 ⟨some ⟨w.heap.size,0,none⟩,0⟩ 0 (zcC []):=⟨rfl,.inr ⟨w.heap.size,0,#[],rfl,h,hN0 w _,Nat.le_refl _,Nat.zero_le _,rfl,rfl⟩⟩
theorem zz5 (cG:GrC 11) (base:Nat) (G:GS) (g:Gr) (w:World) (ho:GrOwn w base G g) (Y:GdG g):
  Calls prog 25 #[grD G g] w (zoL g w):=by
 have CG:=zc cG;have HG:=zc Y;have K:=Y.ll;have O0:=zc ho;clear ho Y cG;unfold grD;go_enter func25,ntmps25;go_upto_region 1 with fail;refine zp (R:=fun W=>Bk W w.heap.size (grC G g) 32/\Below w.heap.size w W) ⟨hN0 w _,zn w _⟩ ?_;rintro W0 ⟨hx,J⟩;have X0:=zc hx;have B0:=zc J;clear hx J;obtain⟨c0,c1,c2,cf⟩:=zg X0.o;go_wp2_with fail;refine (CG.o base G g W0 (O0.o.later B0.o) HG.o).mono ?_;rintro e h ⟨⟨b,rfl,N⟩,J⟩;have X1:=zc (X0.o.later J);have O:=zc (zi B0.o J);have X:=zc N;clear N J c0 c1 c2 cf X0 B0;obtain⟨c0,c1,c2,cf⟩:=zg X1.o;cases b with
 |false=>
  have HK:Hid (¬GrS g):=zc (fun k=>absurd (X.o.2 k) (by decide));have R1:=zc ((OwnE.nil itE h 3).low O.o.size);have B2:=zc (zi O.o (zn h (.cells #[] 3)));clear X;go_wp2;go_ret;exact⟨_,_,_,_,rfl,OutE.own R1.o,B2.o,fun k=>absurd k HK.o,fun _=>rfl⟩
 |true=>
  have A:Hid (GrS g):=X.o.1 (by simp);clear X;have ae:1<=g.ms.length:=A.o.1.1;have M:g.ms.length<=8:=A.o.1.2;have af:=zoP g.ms.length (by omega);have q:w.heap.size<=h.heap.size:=O.o.size;have SA:Hid (SoW w g h.heap.size (List.replicate g.ms.length false) ⟨some ⟨h.heap.size+1,0,none⟩,0⟩ [] ((h.alloc (.cells (madeCells #[.bool false] g.ms.length) 4)).alloc (.cells #[] 3)).drew):=by
   have U:=zn h (.cells (madeCells #[.bool false] g.ms.length) 4);have V:=zn (h.alloc (.cells (madeCells #[.bool false] g.ms.length) 4)) (.cells #[] 3);have L:=zoR w.heap.size (h.alloc (.cells (madeCells #[.bool false] g.ms.length) 4)) (Nat.le_trans q U.size);rw[zh] at L;exact zc (SoW.later ⟨(zoQ w.heap.size g.ms.length (by omega) h q).later V,L,zi (zi O.o U) V⟩ (Below.refl _ _).drew)
  have SB:Hid (SoW w g (h.heap.size+1) (List.replicate g.ms.length false) ⟨some ⟨h.heap.size,0,none⟩,0⟩ [] ((h.alloc (.cells #[] 3)).alloc (.cells (madeCells #[.bool false] g.ms.length) 4)).drew):=by
   have U:=zn h (.cells #[] 3);have V:=zn (h.alloc (.cells #[] 3)) (.cells (madeCells #[.bool false] g.ms.length) 4);have L:=zoQ w.heap.size g.ms.length (by omega) (h.alloc (.cells #[] 3)) (Nat.le_trans q U.size);rw[zh] at L;exact zc (SoW.later ⟨L,(zoR w.heap.size h q).later V,zi (zi O.o U) V⟩ (Below.refl _ _).drew)
  obtain⟨WA,H⟩: ∃WA,WA=((h.alloc (.cells (madeCells #[.bool false] g.ms.length) 4)).alloc (.cells #[] 3)).drew:=⟨_,rfl⟩;obtain⟨WB,I⟩: ∃WB,WB=((h.alloc (.cells #[] 3)).alloc (.cells (madeCells #[.bool false] g.ms.length) 4)).drew:=⟨_,rfl⟩;rw[<-H] at SA;rw[<-I] at SB;have ab:=zc H;have aa:=zc I;clear H I;have ac:zF (List.replicate g.ms.length false)=0:=by unfold zF;rw[List.count_replicate];rfl
  have CA:=zc (zoO w base G g h.heap.size (zjZ A.o) M K g.ms.length 0 _ _ [] _ SA.o (by omega) (by omega) (Nat.zero_le _) O0.o);have Z:=zc (zoO w base G g (h.heap.size+1) (zjZ A.o) M K g.ms.length 0 _ _ [] _ SB.o (by omega) (by omega) (Nat.zero_le _) O0.o);rw[show ((0:Nat):Int)=(0:Int) from rfl] at CA Z;clear SA SB q ac;have ad:w.heap.size<h.heap.size:=(aLt X1.o);go_upto_region 3 with fail;go_region_with (first|(go_at_call 63;(first|(rw[<-ab.o];refine CA.o.mono ?_)|(rw[<-aa.o];refine Z.o.mono ?_));rintro e w2 ⟨r,rfl,hs,_⟩))
  all_goals
   have R2:=zc (zoM hs.ro);have B2:=zc hs.b;clear hs CA Z;go_wp2;go_ret;exact⟨_,_,_,_,rfl,R2.o,B2.o,fun _=>rfl,fun k=>absurd A.o k⟩
