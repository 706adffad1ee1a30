/- Facts and walks that the theorem stands on. -/
import Derived.Test.YtgcbmogmniahjaaGreatG26
import Derived.Sort.KeysCollected
import Derived.Sort.Walk0
namespace Go.Proofs.YtgcbmogmniahjaaGreat
open Go.Proofs.Tryz
set_option maxRecDepth 100000
set_option maxHeartbeats 6400000
open Go.RowKit Go.PlainAid Go.Sort
theorem zss (base:Nat) (S:Sv) (m:Md) (H:Bool) (w:World) (h:OwnMd w base S m) (hm:Small m) (V:Tree m->(zcf m).size<=4294967296):
  Calls prog 28 #[zl S m,.bool H] w fun e w'=>zgs (zcf m) m H e/\Below w.heap.size w w':=by
 have HH:=zc h;have SM:=zc hm;have HU:=zc V;have SF:Hid (zdC m):=hm.few;clear h hm V;unfold zl;go_enter func28,ntmps28;go_upto_region 1 with fail;have I:Hid (Below w.heap.size w (w.alloc (.cells #[.slice S.rq.a m.rq.length S.rq.cap,.slice S.im.a m.im.length S.im.cap,.slice S.ep.a m.ep.length S.ep.cap,.slice S.st.a m.st.length S.st.cap,.slice S.ex.a m.ex.length S.ex.cap] 54))):=(Below.refl _ _).alloc (Nat.le_refl _) _;refine zy (R:=fun W=>W.heap[w.heap.size]? =some (.cells #[.slice S.rq.a m.rq.length S.rq.cap,.slice S.im.a m.im.length S.im.cap,.slice S.ep.a m.ep.length S.ep.cap,.slice S.st.a m.st.length S.st.cap,.slice S.ex.a m.ex.length S.ex.cap] 54 (0,0))/\OwnMd W base S m/\Below w.heap.size w W) ⟨heap_alloc_new w _,HH.o.later I.o,I.o⟩ ?_;obtain⟨gx,M⟩: ∃gx,gx=w.heap.size:=⟨_,rfl⟩;rw[<-M];rintro w1 ⟨hx,ho,A⟩;rw[M] at A;clear M I HH;have X1:=zc hx;have O1:=zc ho;have Y:=zc A;clear hx ho A;obtain⟨c0,c1,c2,c3,c4,cf⟩:=zj X1.o;go_wp2_with fail;refine (zrg base S m H w1 O1.o SM.o (fun t=>Nat.le_trans (HU.o t) (by omega))).mono ?_;rintro e w2 ⟨D,A⟩;obtain⟨t,L,rfl⟩:=D.form;have PR:=zc L;have ht:=L.size HU.o;have X2:=zc ((A.block _ (aLt X1.o)).trans X1.o);have O2:=zc (O1.o.later A);have Z:=zc (Y.o.trans (A.mono Y.o.size));clear D L A c0 c1 c2 c3 c4 cf;go_wp2_with fail;refine (zsr t H w2 ht).mono ?_;rintro e N ⟨D,A⟩;have X3:=zc ((A.block _ (aLt X2.o)).trans X2.o);have O3:=zc (O2.o.later A);have E:=zc (Z.o.trans (A.mono Z.o.size));clear A;rcases D.md with ⟨q,z,n,X,hn,rfl,J,K⟩|⟨p,X,rfl⟩
 ·have OK:=zc (zjI (m:=m) X hn);have O4:=zc J;have NF:=zc K;clear D X hn J K;unfold zl;go_upto_region 2 with fail;have I:Hid (Below N.heap.size N (N.alloc (.cells #[.slice z.rq.a n.rq.length z.rq.cap,.slice z.im.a n.im.length z.im.cap,.slice z.ep.a n.ep.length z.ep.cap,.slice z.st.a n.st.length z.st.cap,.slice z.ex.a n.ex.length z.ex.cap] 54))):=(Below.refl _ _).alloc (Nat.le_refl _) _;refine zy (R:=fun W=>W.heap[gx]? =some (.cells #[.slice S.rq.a m.rq.length S.rq.cap,.slice S.im.a m.im.length S.im.cap,.slice S.ep.a m.ep.length S.ep.cap,.slice S.st.a m.st.length S.st.cap,.slice S.ex.a m.ex.length S.ex.cap] 54 (0,0))/\W.heap[N.heap.size]? =some (.cells #[.slice z.rq.a n.rq.length z.rq.cap,.slice z.im.a n.im.length z.im.cap,.slice z.ep.a n.ep.length z.ep.cap,.slice z.st.a n.st.length z.st.cap,.slice z.ex.a n.ex.length z.ex.cap] 54 (0,0))/\OwnMd W base S m/\OwnMd W w2.heap.size z n/\Below w.heap.size w W) ⟨(I.o.block _ (aLt X3.o)).trans X3.o,heap_alloc_new N _,O3.o.later I.o,O4.o.later I.o,E.o.trans (I.o.mono E.o.size)⟩ ?_;obtain⟨gy,U⟩: ∃gy,gy=N.heap.size:=⟨_,rfl⟩;rw[<-U];intro w4 h4;have O:=zc h4;clear h4 U I X3 O3 O4 E;obtain⟨c0,c1,c2,c3,c4,cf⟩:=zj O.o.1;obtain⟨d0,d1,d2,d3,d4,df⟩:=zj O.o.2.1;go_wp2_with fail;refine ((zq5 zkx zky zkz zk0 zk1 zk2 zk3 zk4 w2.heap.size base z S n m _ O.o.2.2.2.1 O.o.2.2.1 NF.o)).mono ?_;rintro e w5 ⟨⟨r,rfl,hr⟩,A⟩;have HR:=zc hr;have aa:=zc (O.o.2.2.2.2.trans (A.mono O.o.2.2.2.2.size));clear hr A c0 c1 c2 c3 c4 cf d0 d1 d2 d3 d4 df;go_wp2;go_ret;exact⟨⟨t,PR.o,r,rfl,HR.o.trans OK.o.symm⟩,aa.o⟩
 ·have NO:=zc (zjH (m:=m) X);clear D X;go_wp2;go_ret;exact⟨⟨t,PR.o,false,rfl,⟨fun k=>(by cases k),fun k=>absurd k NO.o⟩⟩,(E.o.alloc E.o.size _)⟩
def md0:Md:=⟨[],[],[],[],[]⟩
theorem zli (w:World) (base:Nat):OwnMd w base S0 md0:=⟨zcK _ _ _ _,zcK _ _ _ _,zcK _ _ _ _,zcK _ _ _ _,zcK _ _ _ _⟩
theorem zfF (k:Int) (w:World):Calls prog 222 #[.int .i64 k] w fun e h=>e= .returned (.bool (k==6||k==7))/\h=w:=by
 cases z:(k==6) with
 |true=>
  go_enter func222,ntmps222;go_wp2;go_ret;exact⟨rfl,rfl⟩
 |false=>
  cases q:(k==7) with
  |true=>
   go_enter func222,ntmps222;go_wp2;go_ret;exact⟨rfl,rfl⟩
  |false=>
   go_enter func222,ntmps222;go_wp2;go_ret;exact⟨rfl,rfl⟩
theorem zlj (k:Int) (w:World):Calls prog 198 #[.int .i64 k] w fun e D=>e= .returned (.bool (zZ k))/\D=w:=by
 cases h:(k==6||k==7) with
 |true=>
  have q:Hid (zZ k=true):=by show _=_;rw[zZ,h];rfl
  go_enter func198,ntmps198;go_wp2_with fail;refine (zfF k _).mono ?_;rintro e A ⟨rfl,rfl⟩;rw[h];go_wp2;go_ret;exact⟨zi q.o.symm,rfl⟩
 |false=>
  cases z:(k==8) with
  |true=>
   have q:Hid (zZ k=true):=by show _=_;rw[zZ,h,z];rfl
   go_enter func198,ntmps198;go_wp2_with fail;refine (zfF k _).mono ?_;rintro e A ⟨rfl,rfl⟩;rw[h];go_wp2;go_ret;exact⟨zi q.o.symm,rfl⟩
  |false=>
   have q:Hid (zZ k=false):=by show _=_;rw[zZ,h,z];rfl
   go_enter func198,ntmps198;go_wp2_with fail;refine (zfF k _).mono ?_;rintro e A ⟨rfl,rfl⟩;rw[h];go_wp2;go_ret;exact⟨zi q.o.symm,rfl⟩
theorem zst (k:Int) (w:World):Calls prog 200 #[.int .i64 k] w fun e h=>e= .returned (.bool (k !=1))/\h=w:=by
 go_enter func200,ntmps200;go_wp2;go_ret;exact⟨rfl,rfl⟩
theorem zlk {w:World} {b:Nat} {t:TypeId} {v0:Value} (h:w.heap[b]? =some (.cells #[v0] t (0,0))):w.cell? ⟨b,0,none⟩=some v0/\∀i,w.frozen? ⟨b,i,none⟩=false:=by
 refine⟨?_,fun i=>?_⟩<;>simp[World.cell?,World.frozen?,h]
theorem zia (i n:Int) (u:Value) (w:World) (h: ¬(0<=i/\i<n)):
  Calls prog 197 #[.int .i64 i,.int .i64 n,u] w fun e q=>e= .returned (.bool false)/\q=w:=by
 by_cases z:i<0
 ·go_enter func197,ntmps197;go_wp2;go_ret;exact⟨rfl,rfl⟩
 ·have A:n<=i:=by omega
  clear h;go_enter func197,ntmps197;go_wp2;go_ret;exact⟨rfl,rfl⟩
theorem zsu (i q base g J:Nat) (n:Int) (f:Nat->Nat) (w:World) (I:w.heap[J]? =some (.cells #[.slice (some ⟨g,0,none⟩) q q] 36 (0,0))) (h:w.ownsRow base 3 1 (.slice (some ⟨g,0,none⟩) q q) q (zar q f)) (M:f i<=17179869184) (hi:i<q) (hn:(i:Int)<n):
  Calls prog 197 #[.int .i64 (i:Int),.int .i64 n,.pointer (some ⟨J,0,none⟩)] w fun e K=>e= .returned (.bool true)/\K=w.setCell ⟨g,i,none⟩ (.int .i64 (f i+1:Nat)):=by
 have V: ¬(i:Int)<0:=by omega
 have X: ¬n<=(i:Int):=by omega
 have N:(i:Int)<(q:Int):=by omega
 obtain⟨Y,Z⟩:=zlk I;obtain⟨H,z⟩: ∃v,f i=v:=⟨_,rfl⟩;have O:=zeM h (k:=i) (by omega);have U:=h.frozenAt;rw[z] at O M;rw[z];obtain⟨D,A⟩: ∃u,u=H+1:=⟨_,rfl⟩;have L:(H:Int)+1=(D:Int):=by omega
 have E:IntKind.i64.wrap (D:Int)=(D:Int):=IntWalk.i64_in _ ⟨by omega,by omega⟩;rw[<-A];clear I h z A;go_enter func197,ntmps197;go_wp2;go_ret;exact⟨rfl,rfl⟩
def odd (n:Nat) (f:Nat->Nat) (j:Nat):Bool:=(List.range n).any fun k=>decide (j<=k)&&((f k:Int) !=1)
theorem zsv {n:Nat} {f:Nat->Nat} {j:Nat} (z:j<n):odd n f j=(((f j:Int) !=1)||odd n f (j+1)):=by
 rw[Bool.eq_iff_iff,Bool.or_eq_true];simp only[odd,List.any_eq_true,List.mem_range,Bool.and_eq_true,decide_eq_true_eq];constructor
 ·rintro⟨k,w,q,h⟩;by_cases e:k=j
  ·exact .inl (e▸h)
  ·exact .inr ⟨k,w,by omega,h⟩
 ·rintro (h|⟨k,w,q,h⟩)
  ·exact⟨j,z,Nat.le_refl _,h⟩
  ·exact⟨k,w,by omega,h⟩
theorem zsw {n:Nat} (f:Nat->Nat) {j:Nat} (w:n<=j):odd n f j=false:=by
 rw[Bool.eq_false_iff];intro h;simp only[odd,List.any_eq_true,List.mem_range,Bool.and_eq_true,decide_eq_true_eq] at h;obtain⟨k,z,q,_⟩:=h;omega
theorem zsx (base g q:Nat) (f:Nat->Nat) (w:World) (h:w.ownsRow base 3 1 (.slice (some ⟨g,0,none⟩) q q) q (zar q f)) (hl:q<=4294967296):
  Calls prog 223 #[.slice (some ⟨g,0,none⟩) q q,.func (.func 200) #[] #[]] w fun e Y=>(∃v:Int,e= .returned (.int .i64 v)/\decide (0<=v)=odd q f 0)/\Below w.heap.size w Y:=by
 have HO:=zc h;clear h;go_enter func223,ntmps223;go_wp2;go_loopg [8] (q+1) (fun k i wr=>∃j:Nat,i= .int .i64 j/\j+k=q+1/\odd q f j=odd q f 0/\Below w.heap.size w wr)
 case atStart=>exact⟨0,rfl,by omega,rfl,Below.refl _ _⟩
 case round=>
  obtain⟨j,rfl,hj,U,M⟩:=hrel;have J:=zc U;have H:=zc M;clear U M;by_cases z:j<q
  ·have D:(j:Int)<(q:Int):=by omega
   have Z:=zeM (zfB HO.o H.o) z;have O:=zc (zsv (f:=f) z);obtain⟨v,I⟩: ∃v,f j=v:=⟨_,rfl⟩;rw[I] at Z;have V:=zc I;clear I;obtain⟨E,A⟩: ∃E,E=j+1:=⟨_,rfl⟩;have ej:(j:Int)+1=(E:Int):=by omega
   have L:=zc A;clear A;go_wp2_with fail;refine (zst (v:Int) _).mono ?_;rintro e X ⟨rfl,N⟩;rw[N];clear N X;cases K:((v:Int) !=1) with
   |true=>
    go_wp2;go_ret;refine⟨⟨_,rfl,?_⟩,H.o⟩;rw[<-J.o,O.o,V.o,K];simp
   |false=>
    go_wp2;go_roundg (gk-1)
    case rel=>
     refine⟨E,rfl,by have:=L.o;omega,?_,H.o⟩;rw[<-J.o,O.o,V.o,K,L.o];simp
    case measure=>omega
  ·have D: ¬(j:Int)<(q:Int):=by omega
   go_wp2;go_ret;refine⟨⟨_,rfl,?_⟩,H.o⟩;rw[<-J.o,zsw f (by omega)];rfl
theorem zsy (base g q:Nat) (f:Nat->Nat) (w:World) (h:w.ownsRow base 3 1 (.slice (some ⟨g,0,none⟩) q q) q (zar q f)) (H:q<=4294967296):
  Calls prog 199 #[.slice (some ⟨g,0,none⟩) q q,.func (.func 200) #[] #[]] w fun e E=>e= .returned (.bool (odd q f 0))/\Below w.heap.size w E:=by
 have D:=zc h;clear h;go_enter func199,ntmps199;go_wp2_with fail;refine (zsx base g q f _ D.o H).mono ?_;rintro e K ⟨⟨v,rfl,z⟩,A⟩;have J:=zc z;have I:=zc A;clear z A;go_wp2;go_ret;exact⟨zi J.o,I.o⟩
def UM (w0:World) (base:Nat) (S:Sv) (m:Md) (gu:Nat) (f:Nat->Nat) (w:World):Prop:=
 (w.heap[gu]? =some (.cells #[.slice (some ⟨w0.heap.size+1,0,none⟩) m.ex.length m.ex.length] 36 (0,0))/\w0.heap.size+1<gu)/\
 w.ownsRow (w0.heap.size+1) 3 1 (.slice (some ⟨w0.heap.size+1,0,none⟩) m.ex.length m.ex.length) m.ex.length (zar m.ex.length f)/\OwnMd w base S m/\
 w.heap[w0.heap.size]? =some (.cells #[.slice S.rq.a m.rq.length S.rq.cap,.slice S.im.a m.im.length S.im.cap,.slice S.ep.a m.ep.length S.ep.cap,.slice S.st.a m.st.length S.st.cap,.slice S.ex.a m.ex.length S.ex.cap] 54 (0,0))/\Below w0.heap.size w0 w
theorem UM.later {w0 w A:World} {base:Nat} {S:Sv} {m:Md} {H:Nat} {f:Nat->Nat} (h:UM w0 base S m H f w) (q:Below w.heap.size w A):UM w0 base S m H f A:=by
 obtain⟨⟨D,I⟩,K,J,E,z⟩:=h;exact⟨⟨(q.block _ (aLt D)).trans D,I⟩,zfB K q,J.later q,(q.block _ (aLt E)).trans E,z.trans (q.mono z.size)⟩
theorem UM.used {w0 w:World} {base:Nat} {S:Sv} {m:Md} {z:Nat} {f:Nat->Nat} (h:UM w0 base S m z f w) (i:Nat):UM w0 base S m z (zaI f i) (w.setCell ⟨w0.heap.size+1,i,none⟩ (.int .i64 (f i+1:Nat))):=by
 obtain⟨⟨H,D⟩,q,E,I,A⟩:=h;exact⟨⟨(zv (by omega)).trans H,D⟩,zg9 q i _ rfl,zgA E (zgC q),(zv (by omega)).trans I,A.setCell (Nat.le_succ _) _⟩
theorem UM.congr {w0 w:World} {base:Nat} {S:Sv} {m:Md} {q:Nat} {f g:Nat->Nat} (h:UM w0 base S m q f w) (e: ∀k,k<m.ex.length->f k=g k):UM w0 base S m q g w:=by
 obtain⟨D,H,A,E,z⟩:=h;exact⟨D,by rw[<-zep e];exact H,A,E,z⟩
theorem zib {w0:World} {b0:Nat} {S:Sv} {m:Md} {q:Nat} {f:Nat->Nat} (i:Nat) (n:Int) (w:World) (h:UM w0 b0 S m q f w) (A:f i<=17179869184) (E:i<m.ex.length) (H:(i:Int)<n):
  Calls prog 197 #[.int .i64 (i:Int),.int .i64 n,.pointer (some ⟨q,0,none⟩)] w fun e z=>e= .returned (.bool true)/\UM w0 b0 S m q (zaI f i) z/\∀k,k≠w0.heap.size+1->z.heap[k]? =w.heap[k]?:=by
 refine (zsu i m.ex.length (w0.heap.size+1) (w0.heap.size+1) q n f w h.1.1 h.2.1 A E H).mono ?_;rintro e z ⟨rfl,rfl⟩;exact⟨rfl,h.used i,fun k D=>zv D⟩
theorem zll {n:Nat} {f:Nat->Nat}:odd n f 0=false↔∀k,k<n->f k=1:=by
 rw[Bool.eq_false_iff];constructor
 ·intro h k q;by_cases e:f k=1
  ·exact e
  ·exact absurd (by
    simp only[odd,List.any_eq_true,List.mem_range,Bool.and_eq_true,decide_eq_true_eq]
    exact⟨k,q,Nat.zero_le _,by rw[bne_iff_ne];omega⟩) h
 ·intro h e;simp only[odd,List.any_eq_true,List.mem_range,Bool.and_eq_true,decide_eq_true_eq] at e;obtain⟨k,q,_,w⟩:=e;rw[bne_iff_ne] at w;have:=h k q;omega
theorem zsz (base:Nat) (S:Sv) (m:Md) (w:World) (h:OwnMd w base S m) (hl:m.ex.length<=4294967296) (hs:m.st.length<=4294967296):
  Calls prog 170 #[zl S m] w fun e w'=>zgB m e/\Below w.heap.size w w':=by
 obtain⟨i0,hi,az,aD,aB⟩:=info_parts Tryz.infoInt;have HH:=zc h;clear h;unfold zl;go_enter func170,ntmps170;go_wp2_with (first|(at_make;refine wpList_make_full _ rfl _ _ 36 rfl (w.heap.size+1) 3 i0 (.int .i64 0) 1 underlying36 hi az aD .i64 .i64 _ _ m.ex.length (by rfl) (by rfl) rfl rfl (by rw[aB];omega) (by unfold maxLen;omega) (by rw[zg];omega) ?_));intro N O I;rw[zkG] at O;have bb:Below (w.heap.size+1) (w.alloc _) N:=⟨I.os,I.tape,I.output,I.size,fun k J=>I.block k (by rw[zg];exact J) (by simp)⟩;have X:Hid (Below w.heap.size w N):=((Below.refl _ _).alloc (Nat.le_refl _) _).trans (bb.mono (by omega));have ai:Hid (N.heap[w.heap.size]? =some (.cells #[.slice S.rq.a m.rq.length S.rq.cap,.slice S.im.a m.im.length S.im.cap,.slice S.ep.a m.ep.length S.ep.cap,.slice S.st.a m.st.length S.st.cap,.slice S.ex.a m.ex.length S.ex.cap] 54 (0,0))):=(bb.block _ (by omega)).trans (heap_alloc_new w _);have av:=zc (HH.o.later X.o);have af:Hid (N.ownsRow (w.heap.size+1) 3 1 (.slice (some ⟨w.heap.size+1,0,none⟩) m.ex.length m.ex.length) m.ex.length (zar m.ex.length (cE m.ex 0))):=by show World.ownsRow _ _ _ _ _ _ _;rw[show zar m.ex.length (cE m.ex 0)=zar m.ex.length (fun _=>0) from zep fun k _=>by simp[cE,zas]];exact O
 clear O I bb;have ar:=(zhR af.o).2;go_upto_region 3 with fail;have HA:Hid (Below N.heap.size N (N.alloc (.cells #[.slice (some ⟨w.heap.size+1,0,none⟩) m.ex.length m.ex.length] 36))):=(Below.refl _ _).alloc (Nat.le_refl _) _;have hz:=(aLt ai.o);refine zy (R:=UM w base S m N.heap.size (cE m.ex 0)) ⟨⟨heap_alloc_new N _,ar⟩,zfB af.o HA.o,av.o.later HA.o,(HA.o.block _ hz).trans ai.o,X.o.trans (HA.o.mono X.o.size)⟩ ?_;obtain⟨gu,ak⟩: ∃gu,gu=N.heap.size:=⟨_,rfl⟩;rw[<-ak];rw[<-ak] at ar;clear HA ai X av af hz ak N;intro W q;have HM:=zc q;clear q;obtain⟨c0,c1,c2,c3,c4,cf⟩:=zj HM.o.2.2.2.1;go_wp2;go_loopg [17] m.ex.length (fun k i wr=>∃j:Nat,i= .int .i64 j/\j+k=m.ex.length/\AheadTo m.ex j/\UM w base S m gu (cE m.ex j) wr)
 case atStart=>exact⟨0,rfl,by omega,fun i x hi=>absurd hi (Nat.not_lt_zero i),HM.o⟩
 case round=>
  obtain⟨j,rfl,hj,ah,q⟩:=hrel;have AH:=zc ah;have E:=zc q;clear ah q;clear c0 c1 c2 c3 c4 cf;obtain⟨c0,c1,c2,c3,c4,cf⟩:=zj E.o.2.2.2.1;by_cases A:j<m.ex.length
  ·have ax:(j:Int)<(m.ex.length:Int):=by omega
   obtain⟨g,hg,aE,x0,x1,x2,x3,x4,x5⟩:=E.o.2.2.1.expr A;have HG:Hid (Value.slice S.ex.a m.ex.length S.ex.cap=Value.slice (some ⟨g,0,none⟩) m.ex.length S.ex.cap):=by show _=_;rw[hg]
   clear hg c0 c1 c2 c3 c4 cf;rw[HG.o];have aw:=zc (zdV A);obtain⟨x,ag⟩: ∃x,m.ex.getD j zh=x:=⟨_,rfl⟩;rw[ag] at x0 x1 x2 x3 x4 x5;have L:Hid (m.ex[j]=x):=aw.o.symm.trans ag;clear ag aw;obtain⟨U,K⟩: ∃U,U=j+1:=⟨_,rfl⟩;have ej:(j:Int)+1=(U:Int):=by omega
   have V:=zc K;clear K;go_upto_region 6 with fail;have HW:Hid (Below wr.heap.size wr (wr.alloc (.cells #[.int .i64 x.kind,.int .i64 x.num,.string x.name,.string x.field,.int .i64 x.l,.int .i64 x.r] 100))):=(Below.refl _ _).alloc (Nat.le_refl _) _;refine zy (R:=fun W=>W.heap[wr.heap.size]? =some (.cells #[.int .i64 x.kind,.int .i64 x.num,.string x.name,.string x.field,.int .i64 x.l,.int .i64 x.r] 100 (0,0))/\UM w base S m gu (cE m.ex j) W) ⟨heap_alloc_new wr _,E.o.later HW.o⟩ ?_;have aq:wr.heap.size≠w.heap.size+1:=by have:=(zhR E.o.2.1).2;omega
   obtain⟨gx,ae⟩: ∃gx,gx=wr.heap.size:=⟨_,rfl⟩;rw[<-ae];rw[<-ae] at aq;clear x0 x1 x2 x3 x4 x5 HW;rintro W ⟨xb,q⟩;clear ae E;have XB:=zc xb;have E:=zc q;clear xb q;obtain⟨x0,x1,x2,x3,x4,x5,xf⟩:=zw XB.o;go_wp2_with fail;refine (zlj x.kind _).mono ?_;rintro e w2 ⟨rfl,M⟩;rw[M];clear M w2;cases ht:zZ x.kind with
   |false=>
    go_wp2;rw[<-HG.o];go_roundg (gk-1)
    case rel=>exact⟨U,rfl,by have:=V.o;omega,by rw[V.o];exact AH.o.next A (fun k=>by rw[L.o,ht] at k;cases k),by rw[V.o];exact E.o.congr fun k _=>zkE A (by rw[L.o];exact ht) k⟩
    case measure=>omega
   |true=>
    go_wp2_with fail;by_cases a1:0<=x.l/\x.l<(j:Int)
    ·obtain⟨ln,ad⟩: ∃ln:Nat,x.l=(ln:Int):=⟨x.l.toNat,by omega⟩;have am:=zg7 (m.ex.take j);have au:(m.ex.take j).length<=4294967296:=by rw[List.length_take];omega
     rw[ad];refine (zib (w0:=w) (b0:=base) (S:=S) (m:=m) (f:=cE m.ex j) ln (j:Int) W E.o (by have:=am (ln:Int);unfold cE;omega) (by omega) (by omega)).mono ?_;rintro e W2 ⟨rfl,aa,J⟩;have z:=zc aa;have aC:=zc ((J gx aq).trans XB.o);clear aa J x0 x1 x2 x3 x4 x5 xf;obtain⟨x0,x1,x2,x3,x4,x5,xf⟩:=zw aC.o;go_wp2_with fail;by_cases a2:0<=x.r/\x.r<(j:Int)
     ·obtain⟨rn,ab⟩: ∃rn:Nat,x.r=(rn:Int):=⟨x.r.toNat,by omega⟩;rw[ab];refine (zib (w0:=w) (b0:=base) (S:=S) (m:=m) (f:=zaI (cE m.ex j) ln) rn (j:Int) W2 z.o (by have:=am (rn:Int);unfold zaI cE;split<;>omega) (by omega) (by omega)).mono ?_;rintro e W3 ⟨rfl,D,J⟩;have aj:=zc D;have ac:Hid (∀k:Nat,zaI (zaI (cE m.ex j) ln) rn k=cE m.ex (j+1) k):=fun k=>by have:=zkD A (by rw[L.o];exact ht) (by rw[L.o];omega) (by rw[L.o];omega) k;rw[L.o,ad,ab] at this;exact this
      have aA:Hid (AheadTo m.ex (j+1)):=AH.o.next A (fun _=>by rw[L.o];omega);clear D J x0 x1 x2 x3 x4 x5 xf ad ab a1 a2 am au;go_wp2;rw[<-HG.o];go_roundg (gk-1)
      case rel=>exact⟨U,rfl,by have:=V.o;omega,by rw[V.o];exact aA.o,by rw[V.o];exact aj.o.congr fun k _=>ac.o k⟩
      case measure=>omega
     ·refine (zia x.r (j:Int) _ W2 a2).mono ?_;rintro e w3 ⟨rfl,M⟩;rw[M];clear M w3;go_wp2;go_ret;exact⟨zcR (fun (t:Tree m)=>absurd t.ahead (AheadTo.not A (by rw[L.o];exact ht) (by rw[L.o];omega))),z.o.2.2.2.2⟩
    ·refine (zia x.l (j:Int) _ W a1).mono ?_;rintro e w2 ⟨rfl,M⟩;rw[M];clear M w2;go_wp2;go_ret;exact⟨zcR (fun (t:Tree m)=>absurd t.ahead (AheadTo.not A (by rw[L.o];exact ht) (by rw[L.o];omega))),E.o.2.2.2.2⟩
  ·have ax: ¬(j:Int)<(m.ex.length:Int):=by omega
   obtain rfl:j=m.ex.length:=by omega
   have HA:=zc AH.o.all;have HC:Hid (UM w base S m gu (cS m 0) wr):=E.o.congr fun k _=>by simp[cE,cS,zaL]
   go_wp2;go_loopg [44] m.st.length (fun k i wr=>∃j:Nat,i= .int .i64 j/\j+k=m.st.length/\(∀s∈m.st.take j,0<=s.expr/\s.expr<(m.ex.length:Int))/\UM w base S m gu (cS m j) wr)
   case atStart=>exact⟨0,rfl,by omega,(fun s hs=>by simp at hs),HC.o⟩
   case round=>
    obtain⟨j,rfl,aF,ah,q⟩:=hrel;have AS:=zc ah;have z:=zc q;clear ah q c0 c1 c2 c3 c4 cf;obtain⟨c0,c1,c2,c3,c4,cf⟩:=zj z.o.2.2.2.1;by_cases H:j<m.st.length
    ·have al:(j:Int)<(m.st.length:Int):=by omega
     obtain⟨s,ap⟩: ∃s,m.st[j]? =some s:=⟨_,List.getElem?_eq_getElem H⟩;obtain⟨g,hg,Y⟩:=OwnR.elem (f:=smL) (m:=3) (fun _=>rfl) z.o.2.2.1.st ap;have k0:=Y 0 (by omega);have k1:=Y 1 (by omega);have k2:=Y 2 (by omega);simp only[smL,Nat.add_zero,List.getElem?_cons_zero,List.getElem?_cons_succ] at k0 k1 k2;have HG:Hid (Value.slice S.st.a m.st.length S.st.cap=Value.slice (some ⟨g,0,none⟩) m.st.length S.st.cap):=by show _=_;rw[hg]
     obtain⟨_,Z⟩:=List.getElem?_eq_some_iff.1 ap;have HS:Hid (m.st[j]=s):=Z;clear hg Y ap Z;rw[HG.o];obtain⟨U,K⟩: ∃U,U=j+1:=⟨_,rfl⟩;have ej:(j:Int)+1=(U:Int):=by omega
     have V:=zc K;clear K;go_upto_region 12 with fail;have HW:Hid (Below wr.heap.size wr (wr.alloc (.cells #[.int .i64 s.kind,.string s.name,.int .i64 s.expr] 102))):=(Below.refl _ _).alloc (Nat.le_refl _) _;refine zy (R:=fun W=>W.heap[wr.heap.size]? =some (.cells #[.int .i64 s.kind,.string s.name,.int .i64 s.expr] 102 (0,0))/\UM w base S m gu (cS m j) W) ⟨heap_alloc_new wr _,z.o.later HW.o⟩ ?_;clear k0 k1 k2 HW c0 c1 c2 c3 c4 cf;rintro W ⟨xb,q⟩;have E:=zc q;obtain⟨k0,k1,k2,kf⟩:=zq xb;clear q xb;obtain⟨c0,c1,c2,c3,c4,cf⟩:=zj E.o.2.2.2.1;go_wp2_with fail;by_cases a1:0<=s.expr/\s.expr<(m.ex.length:Int)
     ·obtain⟨en,an⟩: ∃en:Nat,s.expr=(en:Int):=⟨s.expr.toNat,by omega⟩;have ao:Hid (∀s∈m.st.take (j+1),0<=s.expr/\s.expr<(m.ex.length:Int)):=by
       intro y hy;rw[List.take_succ_eq_append_getElem H,List.mem_append] at hy;rcases hy with hy|hy
       ·exact AS.o y hy
       ·simp only[List.mem_singleton] at hy;rw[hy,HS.o];omega
      have ac:Hid (∀k:Nat,zaI (cS m j) en k=cS m (j+1) k):=fun k=>by have:=zkF (ex:=m.ex) H (by rw[HS.o];omega) k;rw[HS.o,an] at this;exact this
      rw[an];refine (zib (w0:=w) (b0:=base) (S:=S) (m:=m) (f:=cS m j) en _ W E.o (by unfold cS;have:=zg7 m.ex (en:Int);have:=zkC (m.st.take j) (en:Int);rw[List.length_take] at this;omega) (by omega) (by omega)).mono ?_;rintro e W2 ⟨rfl,D,J⟩;have aj:=zc D;clear D J k0 k1 k2 kf c0 c1 c2 c3 c4 cf an a1;go_wp2;rw[<-HG.o];go_roundg (gk-1)
      case rel=>exact⟨U,rfl,by have:=V.o;omega,by rw[V.o];exact ao.o,by rw[V.o];exact aj.o.congr fun k _=>ac.o k⟩
      case measure=>omega
     ·refine (zia s.expr _ _ W a1).mono ?_;rintro e w3 ⟨rfl,M⟩;rw[M];clear M w3;go_wp2;go_ret;exact⟨zcR (fun (t:Tree m)=>by have:=t.stm _ (List.getElem_mem H);rw[HS.o] at this;omega),E.o.2.2.2.2⟩
    ·have al: ¬(j:Int)<(m.st.length:Int):=by omega
     obtain rfl:j=m.st.length:=by omega
     have ao:Hid (∀s∈m.st,0<=s.expr/\s.expr<(m.ex.length:Int)):=by have:=AS.o;rw[List.take_length] at this;exact this
     obtain⟨t0,tf⟩:=zlk z.o.1.1;go_wp2_with fail;refine (zsy (w.heap.size+1) (w.heap.size+1) m.ex.length (cS m m.st.length) _ z.o.2.1 hl).mono ?_;rintro e w3 ⟨rfl,hb⟩;have ay:Hid (Below w.heap.size w w3):=z.o.2.2.2.2.trans (hb.mono z.o.2.2.2.2.size);clear hb;cases ho:odd m.ex.length (cS m m.st.length) 0 with
     |true=>
      go_wp2;go_ret
      exact⟨zcR (fun (t:Tree m)=>by
       have:=zll.2 (fun k J=>by have:=t.once k J;show cS m m.st.length k=1;unfold cS;rw[List.take_length];omega);rw[ho] at this
       cases this),ay.o⟩
     |false=>
      go_wp2;go_ret;exact⟨zkH ⟨HA.o,ao.o,fun k J=>by have:=zll.1 ho k J;unfold cS at this;rw[List.take_length] at this;exact this⟩,ay.o⟩
def zlm (c:BA):Nat->List BA
 |0=>[]
 |k+1=>(if bt c (k+1)=47 then [c.extract 0 (k+1)] else [])++zlm c k
def upC (c:BA):List BA:=zlm c (c.size-1)++if 1<c.size then [{data:=#[47]}] else []
def upL (p:BA):List BA:=upC (zaH p)
end Go.Proofs.YtgcbmogmniahjaaGreat
namespace Go.Proofs.YtgcbmogmniahjaaGreat
open Go.RowKit Go.PlainAid
theorem zm1 {w:World} {base g n z:Nat} {e:TypeId} {xs:List BA} (h:zbj w base e g n z xs):base<=g/\g<w.heap.size:=by
 rcases h.1.2 with ⟨q,_⟩|⟨I,A,D,q,E,H,_⟩
 ·simp at q
 ·simp only[Value.slice.injEq,Option.some.injEq,Addr.mk.injEq,and_true,true_and] at q;obtain⟨rfl,rfl⟩:=q;exact⟨E,(aLt H)⟩
theorem zvs {w W:World} {base g n q:Nat} {e:TypeId} {xs:List BA} (h:zbj w base e g n q xs) (H:W.heap[g]? =w.heap[g]?):zbj W base e g n q xs:=by
 refine⟨⟨h.1.1,?_⟩,h.2⟩;rcases h.1.2 with ⟨z,_⟩|⟨K,E,A,z,D,J,I⟩
 ·simp at z
 ·simp only[Value.slice.injEq,Option.some.injEq,Addr.mk.injEq,and_true,true_and] at z;obtain⟨rfl,rfl⟩:=z;exact .inr ⟨g,q,A,rfl,D,H.trans J,I⟩
def inT (l:List BA) (s:BA):Bool:=l.any fun y=>y.toList==s.toList
def zgW (s x:BA):Bool:=Op.bytesLess s.toList x.toList
def zi7 (s:BA):List BA->List BA
 |[]=>[s]
 |x::l=>if zgW s x then s::x::l else x::zi7 s l
def zvt (l:List BA) (s:BA):List BA:=if inT l s then l else zi7 s l
def zwy (s:BA) (b:Bool) (l:List BA):List BA:=if b then zi7 s l else l
def zwz (s:BA) (b:Bool) (l:List BA):Prop:=if b then ∃x∈l,zgW s x=true else ∀x∈l,zgW s x=false
def zvu (k:Int):Bool:=k==2||k==3||k==4||k==5
def zeZ {α:Type} (p:α->Bool) (f:α->BA) (l:List α) (acc:List BA):List BA:=l.foldl (fun acc x=>if p x=true then zvt acc (f x) else acc) acc
def zvv (m:Md):List BA:=zeZ (fun x=>zvu x.kind) (fun x=>x.name) m.ex []
def zvw (m:Md):List BA:=zeZ (fun x=>x.kind==3) (fun x=>x.name) m.st (zvv m)
def zvx (m:Md):List BA:=zeZ (fun x=>x.kind==1) (fun x=>x.loc) m.ep (zvw m)
def zvy (m:Md):List BA:=zeZ (fun x=> !inT (zvx m) x.loc) (fun x=>x.loc) m.im []
def zw0 (m:Md):Md:={m with im:=m.im.filter fun x=> !inT (zvy m) x.loc}
def zvz (m:Md):List BA:=zeZ (fun x=>(x.kind==2||x.kind==3)&& !inT (zbJ m) x.name) (fun x=>x.name) m.ex []
def zw1 (m:Md):List BA:=zeZ (fun x=>x.kind==3&& !inT (zbJ m) x.name) (fun x=>x.name) m.st (zvz m)
theorem zv0 {α:Type} {l:List α} {j:Nat} {x:α} (h:l[j]? =some x):l.take (j+1)=l.take j++[x]:=by
 obtain⟨q,rfl⟩:=List.getElem?_eq_some_iff.1 h;exact List.take_succ_eq_append_getElem q
theorem ziu (l:List Sm):(stN l).length<=l.length:=by rw[stN,List.length_map];exact List.length_filter_le _ _
end Go.Proofs.YtgcbmogmniahjaaGreat
namespace Go.Proofs.YtgcbmogmniahjaaGreat
open Go.RowKit Go.PlainAid
def zw2 (l:List BA):Prop:=l.Pairwise fun a b=>zgW a b=true
def zaY (l:List Sm):List BA:=(l.filter fun x=>x.kind==3).map fun x=>x.name
def zaK (l:List Ex):List BA:=(l.filter fun x=>x.kind==2||x.kind==3).map fun x=>x.name
def zw3 (l:List Ex):List BA:=(l.filter fun x=>x.kind==4||x.kind==5).map fun x=>x.name
def zw4 (l:List Ep):List BA:=(l.filter fun x=>x.kind==1).map fun x=>x.loc
end Go.Proofs.YtgcbmogmniahjaaGreat
