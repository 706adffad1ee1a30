/- Facts and walks. -/
import Derived.Test.YtgcbmogmniahjaaGreatR26
import Derived.Sort.KeysCollected
import Derived.Sort.Walk0
namespace Go.Proofs.YtgcbmogmniahjaaGreat
open Go.Proofs.Tryz
set_option maxRecDepth 100000
set_option maxHeartbeats 6400000
open Go.RowKit Go.PlainAid Go.Sort
variable (g b:Nat) (z:Int) (w:World) (c:Nat) (W:Nat->Nat) {C:World} {d n:Nat} {S:Sv} {q:Md} {s:Nat->Nat}
theorem ztd (S:Sv) (m:Md) (H:Bool) (w:World) (h:OwnMd w g S m) (hm:Small m) (V:Tree m->(zcn m).size<=4294967296):
  Calls prog 28 #[zl S m,.bool H] w fun e w'=>zgA (zcn m) m H e/\Bw w w':=by
 have HH:=zc h;have SM:=zc hm;have HU:=zc V;have SF:Hid (zdT m):=hm.few;clear h hm V;unfold zl;go_enter func28,ntmps28;go_upto_region 1 with fail;have I:Hid (Bw w (w.alloc (.cells #[.slice S.rq.a m.rq.length S.rq.cap,.slice S.im.a m.im.length S.im.cap,.slice S.ep.a m.ep.length S.ep.cap,.slice S.st.a m.st.length S.st.cap,.slice S.ex.a m.ex.length S.ex.cap] 54))):=bA0;refine zu (R:=fun W=>W.heap[w.heap.size]? =some (.cells #[.slice S.rq.a m.rq.length S.rq.cap,.slice S.im.a m.im.length S.im.cap,.slice S.ep.a m.ep.length S.ep.cap,.slice S.st.a m.st.length S.st.cap,.slice S.ex.a m.ex.length S.ex.cap] 54 (0,0))/\OwnMd W g S m/\Below w.heap.size w W) ⟨heap_alloc_new w _,HH.o.later I.o,I.o⟩ ?_;obtain⟨gx,M⟩: ∃gx,gx=w.heap.size:=⟨_,rfl⟩;rw[<-M];rintro w1 ⟨hx,ho,A⟩;rw[M] at A;clear M I HH;have X1:=zc hx;have O1:=zc ho;have Y:=zc A;clear hx ho A;obtain⟨c0,c1,c2,c3,c4,cf⟩:=zj X1.o;go_wp2_with fail;refine (zrR g S m H w1 O1.o SM.o (fun t=>Nat.le_trans (HU.o t) (by omega))).mono ?_;rintro e w2 ⟨D,A⟩;obtain⟨t,L,rfl⟩:=D.form;have PR:=zc L;have ht:=L.size HU.o;have X2:=zc ((A.block _ (aLt X1.o)).trans X1.o);have O2:=zc (O1.o.later A);have Z:=zc (Y.o.trans (A.mono Y.o.size));clear D L A c0 c1 c2 c3 c4 cf;go_wp2_with fail;refine (ztc t H w2 ht).mono ?_;rintro e N ⟨D,A⟩;have X3:=zc ((A.block _ (aLt X2.o)).trans X2.o);have O3:=zc (O2.o.later A);have E:=zc (Z.o.trans (A.mono Z.o.size));clear A;rcases D.md with ⟨q,z,n,X,hn,rfl,J,K⟩|⟨p,X,rfl⟩
 ·have OK:=zc (zkq (m:=m) X hn);have O4:=zc J;have NF:=zc K;clear D X hn J K;unfold zl;go_upto_region 2 with fail;have I:Hid (Bw N (N.alloc (.cells #[.slice z.rq.a n.rq.length z.rq.cap,.slice z.im.a n.im.length z.im.cap,.slice z.ep.a n.ep.length z.ep.cap,.slice z.st.a n.st.length z.st.cap,.slice z.ex.a n.ex.length z.ex.cap] 54))):=bA0;refine zu (R:=fun W=>W.heap[gx]? =some (.cells #[.slice S.rq.a m.rq.length S.rq.cap,.slice S.im.a m.im.length S.im.cap,.slice S.ep.a m.ep.length S.ep.cap,.slice S.st.a m.st.length S.st.cap,.slice S.ex.a m.ex.length S.ex.cap] 54 (0,0))/\W.heap[N.heap.size]? =some (.cells #[.slice z.rq.a n.rq.length z.rq.cap,.slice z.im.a n.im.length z.im.cap,.slice z.ep.a n.ep.length z.ep.cap,.slice z.st.a n.st.length z.st.cap,.slice z.ex.a n.ex.length z.ex.cap] 54 (0,0))/\OwnMd W g S m/\OwnMd W w2.heap.size z n/\Below w.heap.size w W) ⟨(I.o.block _ (aLt X3.o)).trans X3.o,heap_alloc_new N _,O3.o.later I.o,O4.o.later I.o,E.o.trans (I.o.mono E.o.size)⟩ ?_;obtain⟨gy,U⟩: ∃gy,gy=N.heap.size:=⟨_,rfl⟩;rw[<-U];intro w4 h4;have O:=zc h4;clear h4 U I X3 O3 O4 E;obtain⟨c0,c1,c2,c3,c4,cf⟩:=zj O.o.1;obtain⟨d0,d1,d2,d3,d4,df⟩:=zj O.o.2.1;go_wp2_with fail;refine ((zrq zkS zkT zkU zkV zkW zkX zkY zkZ w2.heap.size g z S n m _ O.o.2.2.2.1 O.o.2.2.1 NF.o)).mono ?_;rintro e w5 ⟨⟨r,rfl,hr⟩,A⟩;have HR:=zc hr;have aa:=zc (O.o.2.2.2.2.trans (A.mono O.o.2.2.2.2.size));clear hr A c0 c1 c2 c3 c4 cf d0 d1 d2 d3 d4 df;go_wp2;go_ret;exact⟨⟨t,PR.o,r,rfl,HR.o.trans OK.o.symm⟩,aa.o⟩
 ·have NO:=zc (zkp (m:=m) X);clear D X;go_wp2;go_ret;exact⟨⟨t,PR.o,false,rfl,⟨fun k=>(by cases k),fun k=>absurd k NO.o⟩⟩,(E.o.alloc E.o.size _)⟩
def md0:Md:=⟨[],[],[],[],[]⟩
theorem zlD:OwnMd w c S0 md0:=⟨zcU _ _ _ _,zcU _ _ _ _,zcU _ _ _ _,zcU _ _ _ _,zcU _ _ _ _⟩
theorem zfX:Calls prog 222 #[.int .i64 z] w fun e h=>e= .returned (.bool (z==6||z==7))/\h=w:=by
 cases m:(z==6) with
 |true=>
  go_enter func222,ntmps222;go_wp2;go_ret;exact⟨rfl,rfl⟩
 |false=>
  cases q:(z==7) with
  |true=>
   go_enter func222,ntmps222;go_wp2;go_ret;exact⟨rfl,rfl⟩
  |false=>
   go_enter func222,ntmps222;go_wp2;go_ret;exact⟨rfl,rfl⟩
theorem zlE:Calls prog 198 #[.int .i64 z] w fun e D=>e= .returned (.bool (zac z))/\D=w:=by
 cases h:(z==6||z==7) with
 |true=>
  have q:Hid (zac z=true):=by show _=_;rw[zac,h];rfl
  go_enter func198,ntmps198;go_wp2_with fail;refine (zfX z _).mono ?_;rintro e A ⟨rfl,rfl⟩;rw[h];go_wp2;go_ret;exact⟨zi q.o.symm,rfl⟩
 |false=>
  cases m:(z==8) with
  |true=>
   have q:Hid (zac z=true):=by show _=_;rw[zac,h,m];rfl
   go_enter func198,ntmps198;go_wp2_with fail;refine (zfX z _).mono ?_;rintro e A ⟨rfl,rfl⟩;rw[h];go_wp2;go_ret;exact⟨zi q.o.symm,rfl⟩
  |false=>
   have q:Hid (zac z=false):=by show _=_;rw[zac,h,m];rfl
   go_enter func198,ntmps198;go_wp2_with fail;refine (zfX z _).mono ?_;rintro e A ⟨rfl,rfl⟩;rw[h];go_wp2;go_ret;exact⟨zi q.o.symm,rfl⟩
theorem zte:Calls prog 200 #[.int .i64 z] w fun e h=>e= .returned (.bool (z !=1))/\h=w:=by
 go_enter func200,ntmps200;go_wp2;go_ret;exact⟨rfl,rfl⟩
theorem zlF {t:TypeId} {v0:Value} (h:C.heap[d]? =some (.cells #[v0] t (0,0))):C.cell? ⟨d,0,none⟩=some v0/\∀i,C.frozen? ⟨d,i,none⟩=false:=by
 refine⟨?_,fun i=>?_⟩<;>simp[World.cell?,World.frozen?,h]
theorem zi0 (n:Int) (u:Value) (w:World) (h: ¬(0<=z/\z<n)):
  Calls prog 197 #[.int .i64 z,.int .i64 n,u] w fun e q=>e= .returned (.bool false)/\q=w:=by
 by_cases k:z<0
 ·go_enter func197,ntmps197;go_wp2;go_ret;exact⟨rfl,rfl⟩
 ·have A:n<=z:=by omega
  clear h;go_enter func197,ntmps197;go_wp2;go_ret;exact⟨rfl,rfl⟩
theorem ztf (m J:Nat) (n:Int) (f:Nat->Nat) (w:World) (I:w.heap[J]? =some (.cells #[.slice (some ⟨m,0,none⟩) b b] 36 (0,0))) (h:w.ownsRow c 3 1 (.slice (some ⟨m,0,none⟩) b b) b (zau b f)) (M:f g<=17179869184) (hi:g<b) (hn:(g:Int)<n):
  Calls prog 197 #[.int .i64 (g:Int),.int .i64 n,.pointer (some ⟨J,0,none⟩)] w fun e K=>e= .returned (.bool true)/\K=w.setCell ⟨m,g,none⟩ (.int .i64 (f g+1:Nat)):=by
 have V: ¬(g:Int)<0:=by omega
 have X: ¬n<=(g:Int):=by omega
 have N:(g:Int)<(b:Int):=by omega
 obtain⟨Y,Z⟩:=zlF I;obtain⟨H,z⟩: ∃v,f g=v:=⟨_,rfl⟩;have O:=zfe h (k:=g) (by omega);have U:=h.frozenAt;rw[z] at O M;rw[z];obtain⟨D,A⟩: ∃u,u=H+1:=⟨_,rfl⟩;have L:(H:Int)+1=(D:Int):=by omega
 have E:IntKind.i64.wrap (D:Int)=(D:Int):=IntWalk.i64_in _ ⟨by omega,by omega⟩;rw[<-A];clear I h z A;go_enter func197,ntmps197;go_wp2;go_ret;exact⟨rfl,rfl⟩
def odd (n:Nat) (f:Nat->Nat) (j:Nat):Bool:=(List.range n).any fun k=>decide (j<=k)&&((f k:Int) !=1)
theorem ztg {f:Nat->Nat} {j:Nat} (z:j<d):odd d f j=(((f j:Int) !=1)||odd d f (j+1)):=by
 rw[Bool.eq_iff_iff,Bool.or_eq_true];simp only[odd,List.any_eq_true,List.mem_range,Bool.and_eq_true,decide_eq_true_eq];constructor
 ·rintro⟨k,w,q,h⟩;by_cases e:k=j
  ·exact .inl (e▸h)
  ·exact .inr ⟨k,w,by omega,h⟩
 ·rintro (h|⟨k,w,q,h⟩)
  ·exact⟨j,z,Nat.le_refl _,h⟩
  ·exact⟨k,w,by omega,h⟩
theorem zth {j:Nat} (w:d<=j):odd d W j=false:=by
 rw[Bool.eq_false_iff];intro h;simp only[odd,List.any_eq_true,List.mem_range,Bool.and_eq_true,decide_eq_true_eq] at h;obtain⟨k,z,q,_⟩:=h;omega
theorem zti (m q:Nat) (f:Nat->Nat) (w:World) (h:w.ownsRow g 3 1 (.slice (some ⟨m,0,none⟩) q q) q (zau q f)) (hl:q<=4294967296):
  Calls prog 223 #[.slice (some ⟨m,0,none⟩) q q,.func (.func 200) #[] #[]] w fun e Y=>(∃v:Int,e= .returned (.int .i64 v)/\decide (0<=v)=odd q f 0)/\Bw w Y:=by
 have HO:=zc h;clear h;go_enter func223,ntmps223;go_wp2;go_loopg [8] (q+1) (fun k i wr=>∃j:Nat,i= .int .i64 j/\j+k=q+1/\odd q f j=odd q f 0/\Bw w wr)
 case atStart=>exact⟨0,rfl,by omega,rfl,Below.refl _ _⟩
 case round=>
  obtain⟨j,rfl,hj,U,M⟩:=hrel;have J:=zc U;have H:=zc M;clear U M;by_cases z:j<q
  ·have D:(j:Int)<(q:Int):=by omega
   have Z:=zfe (zfT HO.o H.o) z;have O:=zc (ztg (f:=f) z);obtain⟨v,I⟩: ∃v,f j=v:=⟨_,rfl⟩;rw[I] at Z;have V:=zc I;clear I;obtain⟨E,A⟩: ∃E,E=j+1:=⟨_,rfl⟩;have ej:(j:Int)+1=(E:Int):=by omega
   have L:=zc A;clear A;go_wp2_with fail;refine (zte (v:Int) _).mono ?_;rintro e X ⟨rfl,N⟩;rw[N];clear N X;cases K:((v:Int) !=1) with
   |true=>
    go_wp2;go_ret;refine⟨⟨_,rfl,?_⟩,H.o⟩;rw[<-J.o,O.o,V.o,K];simp
   |false=>
    go_wp2;go_roundg (gk-1)
    case rel=>
     refine⟨E,rfl,by have:=L.o;omega,?_,H.o⟩;rw[<-J.o,O.o,V.o,K,L.o];simp
    case measure=>omega
  ·have D: ¬(j:Int)<(q:Int):=by omega
   go_wp2;go_ret;refine⟨⟨_,rfl,?_⟩,H.o⟩;rw[<-J.o,zth f (by omega)];rfl
theorem ztj (k q:Nat) (f:Nat->Nat) (w:World) (h:w.ownsRow g 3 1 (.slice (some ⟨k,0,none⟩) q q) q (zau q f)) (H:q<=4294967296):
  Calls prog 199 #[.slice (some ⟨k,0,none⟩) q q,.func (.func 200) #[] #[]] w fun e E=>e= .returned (.bool (odd q f 0))/\Bw w E:=by
 have D:=zc h;clear h;go_enter func199,ntmps199;go_wp2_with fail;refine (zti g k q f _ D.o H).mono ?_;rintro e K ⟨⟨v,rfl,z⟩,A⟩;have J:=zc z;have I:=zc A;clear z A;go_wp2;go_ret;exact⟨zi J.o,I.o⟩
def UM (w0:World) (base:Nat) (S:Sv) (m:Md) (gu:Nat) (f:Nat->Nat) (w:World):Prop:=
 (w.heap[gu]? =some (.cells #[.slice (some ⟨w0.heap.size+1,0,none⟩) m.ex.length m.ex.length] 36 (0,0))/\w0.heap.size+1<gu)/\
 w.ownsRow (w0.heap.size+1) 3 1 (.slice (some ⟨w0.heap.size+1,0,none⟩) m.ex.length m.ex.length) m.ex.length (zau m.ex.length f)/\OwnMd w base S m/\
 w.heap[w0.heap.size]? =some (.cells #[.slice S.rq.a m.rq.length S.rq.cap,.slice S.im.a m.im.length S.im.cap,.slice S.ep.a m.ep.length S.ep.cap,.slice S.st.a m.st.length S.st.cap,.slice S.ex.a m.ex.length S.ex.cap] 54 (0,0))/\Bw w0 w
theorem UM.later {w A:World} (h:UM C d S q n s w) (k:Bw w A):UM C d S q n s A:=by
 obtain⟨⟨D,I⟩,K,J,E,z⟩:=h;exact⟨⟨(k.block _ (aLt D)).trans D,I⟩,zfT K k,J.later k,(k.block _ (aLt E)).trans E,z.trans (k.mono z.size)⟩
theorem UM.used {w:World} (h:UM C d S q n s w) (i:Nat):UM C d S q n (zaM s i) (w.setCell ⟨C.heap.size+1,i,none⟩ (.int .i64 (s i+1:Nat))):=by
 obtain⟨⟨H,D⟩,k,E,I,A⟩:=h;exact⟨⟨(zx (by omega)).trans H,D⟩,zgT k i _ rfl,zgU E (zgW k),(zx (by omega)).trans I,A.setCell (Nat.le_succ _) _⟩
theorem UM.congr {w:World} {x:Nat} {g:Nat->Nat} (h:UM C d S q x s w) (e: ∀k,k<q.ex.length->s k=g k):UM C d S q x g w:=by
 obtain⟨D,H,A,E,z⟩:=h;exact⟨D,by rw[<-ze7 e];exact H,A,E,z⟩
theorem zi1 {w0:World} {b0:Nat} {S:Sv} {m:Md} {f:Nat->Nat} (h:UM w0 b0 S m d f w) (A:f g<=17179869184) (E:g<m.ex.length) (H:(g:Int)<z):
  Calls prog 197 #[.int .i64 (g:Int),.int .i64 z,.pointer (some ⟨d,0,none⟩)] w fun e x=>e= .returned (.bool true)/\UM w0 b0 S m d (zaM f g) x/\∀k,k≠w0.heap.size+1->x.heap[k]? =w.heap[k]?:=by
 refine (ztf g m.ex.length (w0.heap.size+1) (w0.heap.size+1) d z f w h.1.1 h.2.1 A E H).mono ?_;rintro e x ⟨rfl,rfl⟩;exact⟨rfl,h.used g,fun k D=>zx D⟩
theorem zlG:odd d s 0=false↔∀k,k<d->s k=1:=by
 rw[Bool.eq_false_iff];constructor
 ·intro h k q;by_cases e:s k=1
  ·exact e
  ·exact absurd (by
    simp only[odd,List.any_eq_true,List.mem_range,Bool.and_eq_true,decide_eq_true_eq]
    exact⟨k,q,Nat.zero_le _,by rw[bne_iff_ne];omega⟩) h
 ·intro h e;simp only[odd,List.any_eq_true,List.mem_range,Bool.and_eq_true,decide_eq_true_eq] at e;obtain⟨k,q,_,w⟩:=e;rw[bne_iff_ne] at w;have:=h k q;omega
theorem ztk (S:Sv) (m:Md) (w:World) (h:OwnMd w g S m) (hl:m.ex.length<=4294967296) (hs:m.st.length<=4294967296):
  Calls prog 170 #[zl S m] w fun e w'=>zgV m e/\Bw w w':=by
 obtain⟨i0,hi,az,aD,aB⟩:=info_parts Tryz.infoInt;have HH:=zc h;clear h;unfold zl;go_enter func170,ntmps170;go_wp2_with (first|(at_make;refine wpList_make_full _ rfl _ _ 36 rfl (w.heap.size+1) 3 i0 (.int .i64 0) 1 underlying36 hi az aD .i64 .i64 _ _ m.ex.length (by rfl) (by rfl) rfl rfl (by rw[aB];omega) (by unfold maxLen;omega) (by rw[zg];omega) ?_));intro N O I;rw[zll] at O;have bb:Below (w.heap.size+1) (w.alloc _) N:=⟨I.os,I.tape,I.output,I.size,fun k J=>I.block k (by rw[zg];exact J) (by simp)⟩;have X:Hid (Bw w N):=(bA0).trans (bb.mono (by omega));have ai:Hid (N.heap[w.heap.size]? =some (.cells #[.slice S.rq.a m.rq.length S.rq.cap,.slice S.im.a m.im.length S.im.cap,.slice S.ep.a m.ep.length S.ep.cap,.slice S.st.a m.st.length S.st.cap,.slice S.ex.a m.ex.length S.ex.cap] 54 (0,0))):=(bb.block _ (by omega)).trans (heap_alloc_new w _);have av:=zc (HH.o.later X.o);have af:Hid (N.ownsRow (w.heap.size+1) 3 1 (.slice (some ⟨w.heap.size+1,0,none⟩) m.ex.length m.ex.length) m.ex.length (zau m.ex.length (cE m.ex 0))):=by show World.ownsRow _ _ _ _ _ _ _;rw[show zau m.ex.length (cE m.ex 0)=zau m.ex.length (fun _=>0) from ze7 fun k _=>by simp[cE,zav]];exact O
 clear O I bb;have ar:=(zir af.o).2;go_upto_region 3 with fail;have HA:Hid (Bw N (N.alloc (.cells #[.slice (some ⟨w.heap.size+1,0,none⟩) m.ex.length m.ex.length] 36))):=bA0;have hz:=(aLt ai.o);refine zu (R:=UM w g S m N.heap.size (cE m.ex 0)) ⟨⟨heap_alloc_new N _,ar⟩,zfT af.o HA.o,av.o.later HA.o,(HA.o.block _ hz).trans ai.o,X.o.trans (HA.o.mono X.o.size)⟩ ?_;obtain⟨gu,ak⟩: ∃gu,gu=N.heap.size:=⟨_,rfl⟩;rw[<-ak];rw[<-ak] at ar;clear HA ai X av af hz ak N;intro W q;have HM:=zc q;clear q;obtain⟨c0,c1,c2,c3,c4,cf⟩:=zj HM.o.2.2.2.1;go_wp2;go_loopg [17] m.ex.length (fun k i wr=>∃j:Nat,i= .int .i64 j/\j+k=m.ex.length/\AheadTo m.ex j/\UM w g S m gu (cE m.ex j) wr)
 case atStart=>exact⟨0,rfl,by omega,fun i x hi=>absurd hi (Nat.not_lt_zero i),HM.o⟩
 case round=>
  obtain⟨j,rfl,hj,ah,q⟩:=hrel;have AH:=zc ah;have E:=zc q;clear ah q;clear c0 c1 c2 c3 c4 cf;obtain⟨c0,c1,c2,c3,c4,cf⟩:=zj E.o.2.2.2.1;by_cases A:j<m.ex.length
  ·have ax:(j:Int)<(m.ex.length:Int):=by omega
   obtain⟨p,hg,aE,x0,x1,x2,x3,x4,x5⟩:=E.o.2.2.1.expr A;have HG:Hid (Value.slice S.ex.a m.ex.length S.ex.cap=Value.slice (some ⟨p,0,none⟩) m.ex.length S.ex.cap):=by show _=_;rw[hg]
   clear hg c0 c1 c2 c3 c4 cf;rw[HG.o];have aw:=zc (zen A);obtain⟨x,ag⟩: ∃x,m.ex.getD j zh=x:=⟨_,rfl⟩;rw[ag] at x0 x1 x2 x3 x4 x5;have L:Hid (m.ex[j]=x):=aw.o.symm.trans ag;clear ag aw;obtain⟨U,K⟩: ∃U,U=j+1:=⟨_,rfl⟩;have ej:(j:Int)+1=(U:Int):=by omega
   have V:=zc K;clear K;go_upto_region 6 with fail;have HW:Hid (Bw wr (wr.alloc (.cells #[.int .i64 x.kind,.int .i64 x.num,.string x.name,.string x.field,.int .i64 x.l,.int .i64 x.r] 100))):=bA0;refine zu (R:=fun W=>W.heap[wr.heap.size]? =some (.cells #[.int .i64 x.kind,.int .i64 x.num,.string x.name,.string x.field,.int .i64 x.l,.int .i64 x.r] 100 (0,0))/\UM w g S m gu (cE m.ex j) W) ⟨heap_alloc_new wr _,E.o.later HW.o⟩ ?_;have aq:wr.heap.size≠w.heap.size+1:=by have:=(zir E.o.2.1).2;omega
   obtain⟨gx,ae⟩: ∃gx,gx=wr.heap.size:=⟨_,rfl⟩;rw[<-ae];rw[<-ae] at aq;clear x0 x1 x2 x3 x4 x5 HW;rintro W ⟨xb,q⟩;clear ae E;have XB:=zc xb;have E:=zc q;clear xb q;obtain⟨x0,x1,x2,x3,x4,x5,xf⟩:=zy XB.o;go_wp2_with fail;refine (zlE x.kind _).mono ?_;rintro e w2 ⟨rfl,M⟩;rw[M];clear M w2;cases ht:zac x.kind with
   |false=>
    go_wp2;rw[<-HG.o];go_roundg (gk-1)
    case rel=>exact⟨U,rfl,by have:=V.o;omega,by rw[V.o];exact AH.o.next A (fun k=>by rw[L.o,ht] at k;cases k),by rw[V.o];exact E.o.congr fun k _=>zlj A (by rw[L.o];exact ht) k⟩
    case measure=>omega
   |true=>
    go_wp2_with fail;by_cases a1:0<=x.l/\x.l<(j:Int)
    ·obtain⟨ln,ad⟩: ∃ln:Nat,x.l=(ln:Int):=⟨x.l.toNat,by omega⟩;have am:=zgR (m.ex.take j);have au:(m.ex.take j).length<=4294967296:=by rw[List.length_take];omega
     rw[ad];refine (zi1 (w0:=w) (b0:=g) (S:=S) (m:=m) (f:=cE m.ex j) ln (j:Int) W E.o (by have:=am (ln:Int);unfold cE;omega) (by omega) (by omega)).mono ?_;rintro e W2 ⟨rfl,aa,J⟩;have z:=zc aa;have aC:=zc ((J gx aq).trans XB.o);clear aa J x0 x1 x2 x3 x4 x5 xf;obtain⟨x0,x1,x2,x3,x4,x5,xf⟩:=zy aC.o;go_wp2_with fail;by_cases a2:0<=x.r/\x.r<(j:Int)
     ·obtain⟨rn,ab⟩: ∃rn:Nat,x.r=(rn:Int):=⟨x.r.toNat,by omega⟩;rw[ab];refine (zi1 (w0:=w) (b0:=g) (S:=S) (m:=m) (f:=zaM (cE m.ex j) ln) rn (j:Int) W2 z.o (by have:=am (rn:Int);unfold zaM cE;split<;>omega) (by omega) (by omega)).mono ?_;rintro e W3 ⟨rfl,D,J⟩;have aj:=zc D;have ac:Hid (∀k:Nat,zaM (zaM (cE m.ex j) ln) rn k=cE m.ex (j+1) k):=fun k=>by have:=zli A (by rw[L.o];exact ht) (by rw[L.o];omega) (by rw[L.o];omega) k;rw[L.o,ad,ab] at this;exact this
      have aA:Hid (AheadTo m.ex (j+1)):=AH.o.next A (fun _=>by rw[L.o];omega);clear D J x0 x1 x2 x3 x4 x5 xf ad ab a1 a2 am au;go_wp2;rw[<-HG.o];go_roundg (gk-1)
      case rel=>exact⟨U,rfl,by have:=V.o;omega,by rw[V.o];exact aA.o,by rw[V.o];exact aj.o.congr fun k _=>ac.o k⟩
      case measure=>omega
     ·refine (zi0 x.r (j:Int) _ W2 a2).mono ?_;rintro e w3 ⟨rfl,M⟩;rw[M];clear M w3;go_wp2;go_ret;exact⟨zdb (fun (t:Tree m)=>absurd t.ahead (AheadTo.not A (by rw[L.o];exact ht) (by rw[L.o];omega))),z.o.2.2.2.2⟩
    ·refine (zi0 x.l (j:Int) _ W a1).mono ?_;rintro e w2 ⟨rfl,M⟩;rw[M];clear M w2;go_wp2;go_ret;exact⟨zdb (fun (t:Tree m)=>absurd t.ahead (AheadTo.not A (by rw[L.o];exact ht) (by rw[L.o];omega))),E.o.2.2.2.2⟩
  ·have ax: ¬(j:Int)<(m.ex.length:Int):=by omega
   obtain rfl:j=m.ex.length:=by omega
   have HA:=zc AH.o.all;have HC:Hid (UM w g S m gu (cS m 0) wr):=E.o.congr fun k _=>by simp[cE,cS,zaP]
   go_wp2;go_loopg [44] m.st.length (fun k i wr=>∃j:Nat,i= .int .i64 j/\j+k=m.st.length/\(∀s∈m.st.take j,0<=s.expr/\s.expr<(m.ex.length:Int))/\UM w g S m gu (cS m j) wr)
   case atStart=>exact⟨0,rfl,by omega,(fun s hs=>by simp at hs),HC.o⟩
   case round=>
    obtain⟨j,rfl,aF,ah,q⟩:=hrel;have AS:=zc ah;have z:=zc q;clear ah q c0 c1 c2 c3 c4 cf;obtain⟨c0,c1,c2,c3,c4,cf⟩:=zj z.o.2.2.2.1;by_cases H:j<m.st.length
    ·have al:(j:Int)<(m.st.length:Int):=by omega
     obtain⟨s,ap⟩: ∃s,m.st[j]? =some s:=⟨_,List.getElem?_eq_getElem H⟩;obtain⟨p,hg,Y⟩:=OwnR.elem (f:=smL) (m:=3) (fun _=>rfl) z.o.2.2.1.st ap;have k0:=Y 0 (by omega);have k1:=Y 1 (by omega);have k2:=Y 2 (by omega);simp only[smL,Nat.add_zero,List.getElem?_cons_zero,List.getElem?_cons_succ] at k0 k1 k2;have HG:Hid (Value.slice S.st.a m.st.length S.st.cap=Value.slice (some ⟨p,0,none⟩) m.st.length S.st.cap):=by show _=_;rw[hg]
     obtain⟨_,Z⟩:=List.getElem?_eq_some_iff.1 ap;have HS:Hid (m.st[j]=s):=Z;clear hg Y ap Z;rw[HG.o];obtain⟨U,K⟩: ∃U,U=j+1:=⟨_,rfl⟩;have ej:(j:Int)+1=(U:Int):=by omega
     have V:=zc K;clear K;go_upto_region 12 with fail;have HW:Hid (Bw wr (wr.alloc (.cells #[.int .i64 s.kind,.string s.name,.int .i64 s.expr] 102))):=bA0;refine zu (R:=fun W=>W.heap[wr.heap.size]? =some (.cells #[.int .i64 s.kind,.string s.name,.int .i64 s.expr] 102 (0,0))/\UM w g S m gu (cS m j) W) ⟨heap_alloc_new wr _,z.o.later HW.o⟩ ?_;clear k0 k1 k2 HW c0 c1 c2 c3 c4 cf;rintro W ⟨xb,q⟩;have E:=zc q;obtain⟨k0,k1,k2,kf⟩:=zo xb;clear q xb;obtain⟨c0,c1,c2,c3,c4,cf⟩:=zj E.o.2.2.2.1;go_wp2_with fail;by_cases a1:0<=s.expr/\s.expr<(m.ex.length:Int)
     ·obtain⟨en,an⟩: ∃en:Nat,s.expr=(en:Int):=⟨s.expr.toNat,by omega⟩;have ao:Hid (∀s∈m.st.take (j+1),0<=s.expr/\s.expr<(m.ex.length:Int)):=by
       intro y hy;rw[List.take_succ_eq_append_getElem H,List.mem_append] at hy;rcases hy with hy|hy
       ·exact AS.o y hy
       ·simp only[List.mem_singleton] at hy;rw[hy,HS.o];omega
      have ac:Hid (∀k:Nat,zaM (cS m j) en k=cS m (j+1) k):=fun k=>by have:=zlk (ex:=m.ex) H (by rw[HS.o];omega) k;rw[HS.o,an] at this;exact this
      rw[an];refine (zi1 (w0:=w) (b0:=g) (S:=S) (m:=m) (f:=cS m j) en _ W E.o (by unfold cS;have:=zgR m.ex (en:Int);have:=zlh (m.st.take j) (en:Int);rw[List.length_take] at this;omega) (by omega) (by omega)).mono ?_;rintro e W2 ⟨rfl,D,J⟩;have aj:=zc D;clear D J k0 k1 k2 kf c0 c1 c2 c3 c4 cf an a1;go_wp2;rw[<-HG.o];go_roundg (gk-1)
      case rel=>exact⟨U,rfl,by have:=V.o;omega,by rw[V.o];exact ao.o,by rw[V.o];exact aj.o.congr fun k _=>ac.o k⟩
      case measure=>omega
     ·refine (zi0 s.expr _ _ W a1).mono ?_;rintro e w3 ⟨rfl,M⟩;rw[M];clear M w3;go_wp2;go_ret;exact⟨zdb (fun (t:Tree m)=>by have:=t.stm _ (List.getElem_mem H);rw[HS.o] at this;omega),E.o.2.2.2.2⟩
    ·have al: ¬(j:Int)<(m.st.length:Int):=by omega
     obtain rfl:j=m.st.length:=by omega
     have ao:Hid (∀s∈m.st,0<=s.expr/\s.expr<(m.ex.length:Int)):=by have:=AS.o;rw[List.take_length] at this;exact this
     obtain⟨t0,tf⟩:=zlF z.o.1.1;go_wp2_with fail;refine (ztj (w.heap.size+1) (w.heap.size+1) m.ex.length (cS m m.st.length) _ z.o.2.1 hl).mono ?_;rintro e w3 ⟨rfl,hb⟩;have ay:Hid (Bw w w3):=z.o.2.2.2.2.trans (hb.mono z.o.2.2.2.2.size);clear hb;cases ho:odd m.ex.length (cS m m.st.length) 0 with
     |true=>
      go_wp2;go_ret
      exact⟨zdb (fun (t:Tree m)=>by
       have:=zlG.2 (fun k J=>by have:=t.once k J;show cS m m.st.length k=1;unfold cS;rw[List.take_length];omega);rw[ho] at this
       cases this),ay.o⟩
     |false=>
      go_wp2;go_ret;exact⟨zlm ⟨HA.o,ao.o,fun k J=>by have:=zlG.1 ho k J;unfold cS at this;rw[List.take_length] at this;exact this⟩,ay.o⟩
def zlH (c:BA):Nat->List BA
 |0=>[]
 |k+1=>(if bt c (k+1)=47 then [c.extract 0 (k+1)] else [])++zlH c k
def upC (c:BA):List BA:=zlH c (c.size-1)++if 1<c.size then [{data:=#[47]}] else []
def upL (p:BA):List BA:=upC (zaL p)
theorem zdJ {p:Prop} (h:p):Hid p:=h
end Go.Proofs.YtgcbmogmniahjaaGreat
namespace Go.Proofs.YtgcbmogmniahjaaGreat
open Go.RowKit Go.PlainAid
variable {w:World} {g:Nat} {W:TypeId} {C:List BA}
theorem zmW {S n z:Nat} (h:zbo w g W S n z C):g<=S/\S<w.heap.size:=by
 rcases h.1.2 with ⟨q,_⟩|⟨I,A,D,q,E,H,_⟩
 ·simp at q
 ·simp only[Value.slice.injEq,Option.some.injEq,Addr.mk.injEq,and_true,true_and] at q;obtain⟨rfl,rfl⟩:=q;exact⟨E,(aLt H)⟩
theorem zwd {s:World} {S n q:Nat} (h:zbo w g W S n q C) (H:s.heap[S]? =w.heap[S]?):zbo s g W S n q C:=by
 refine⟨⟨h.1.1,?_⟩,h.2⟩;rcases h.1.2 with ⟨z,_⟩|⟨K,E,A,z,D,J,I⟩
 ·simp at z
 ·simp only[Value.slice.injEq,Option.some.injEq,Addr.mk.injEq,and_true,true_and] at z;obtain⟨rfl,rfl⟩:=z;exact .inr ⟨S,q,A,rfl,D,H.trans J,I⟩
def inT (l:List BA) (s:BA):Bool:=l.any fun y=>y.toList==s.toList
def zhq (s x:BA):Bool:=Op.bytesLess s.toList x.toList
def ziW (s:BA):List BA->List BA
 |[]=>[s]
 |x::l=>if zhq s x then s::x::l else x::ziW s l
def zwe (l:List BA) (s:BA):List BA:=if inT l s then l else ziW s l
def zxY (s:BA) (b:Bool) (l:List BA):List BA:=if b then ziW s l else l
def zxZ (s:BA) (b:Bool) (l:List BA):Prop:=if b then ∃x∈l,zhq s x=true else ∀x∈l,zhq s x=false
def zwf (k:Int):Bool:=k==2||k==3||k==4||k==5
def zfr {α:Type} (p:α->Bool) (f:α->BA) (l:List α) (acc:List BA):List BA:=l.foldl (fun acc x=>if p x=true then zwe acc (f x) else acc) acc
def zwg (m:Md):List BA:=zfr (fun x=>zwf x.kind) (fun x=>x.name) m.ex []
def zwh (m:Md):List BA:=zfr (fun x=>x.kind==3) (fun x=>x.name) m.st (zwg m)
def zwi (m:Md):List BA:=zfr (fun x=>x.kind==1) (fun x=>x.loc) m.ep (zwh m)
def zwj (m:Md):List BA:=zfr (fun x=> !inT (zwi m) x.loc) (fun x=>x.loc) m.im []
def zya (m:Md):Md:={m with im:=m.im.filter fun x=> !inT (zwj m) x.loc}
def zwk (m:Md):List BA:=zfr (fun x=>(x.kind==2||x.kind==3)&& !inT (zbP m) x.name) (fun x=>x.name) m.ex []
def zyb (m:Md):List BA:=zfr (fun x=>x.kind==3&& !inT (zbP m) x.name) (fun x=>x.name) m.st (zwk m)
theorem zwl {α:Type} {l:List α} {x:α} (h:l[g]? =some x):l.take (g+1)=l.take g++[x]:=by
 obtain⟨q,rfl⟩:=List.getElem?_eq_some_iff.1 h;exact List.take_succ_eq_append_getElem q
theorem ziJ (l:List Sm):(stN l).length<=l.length:=by rw[stN,List.length_map];exact List.length_filter_le _ _
end Go.Proofs.YtgcbmogmniahjaaGreat
namespace Go.Proofs.YtgcbmogmniahjaaGreat
open Go.RowKit Go.PlainAid
def zyc (l:List BA):Prop:=l.Pairwise fun a b=>zhq a b=true
def zbb (l:List Sm):List BA:=(l.filter fun x=>x.kind==3).map fun x=>x.name
def zaO (l:List Ex):List BA:=(l.filter fun x=>x.kind==2||x.kind==3).map fun x=>x.name
def zyd (l:List Ex):List BA:=(l.filter fun x=>x.kind==4||x.kind==5).map fun x=>x.name
def zye (l:List Ep):List BA:=(l.filter fun x=>x.kind==1).map fun x=>x.loc
end Go.Proofs.YtgcbmogmniahjaaGreat
