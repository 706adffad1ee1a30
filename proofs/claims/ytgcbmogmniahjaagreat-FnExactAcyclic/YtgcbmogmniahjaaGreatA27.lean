/- Facts and walks that the theorem stands on. -/
import Derived.Test.YtgcbmogmniahjaaGreatA26
import Derived.Sort.KeysCollected
import Derived.Sort.Walk0
namespace Go.Proofs.YtgcbmogmniahjaaGreat
open Go.Proofs.Tryz
set_option maxRecDepth 100000
set_option maxHeartbeats 6400000
open Go.RowKit Go.PlainAid Go.Sort
theorem zsH (base:Nat) (S:Sv) (m:Md) (J:Bool) (w:World) (h:OwnMd w base S m) (hm:Small m) (Y:Tree m->(zcj m).size<=4294967296):
  Calls prog 28 #[zl S m,.bool J] w fun e w'=>zg1 (zcj m) m J e/\Below w.heap.size w w':=by
 have HH:=zc h;have SM:=zc hm;have HU:=zc Y;have SF:Hid (zdK m):=hm.few;clear h hm Y;unfold zl;go_enter func28,ntmps28;go_upto_region 1 with fail;have K:Hid (Below w.heap.size w (w.alloc (.cells #[.slice S.rq.a m.rq.length S.rq.cap,.slice S.im.a m.im.length S.im.cap,.slice S.ep.a m.ep.length S.ep.cap,.slice S.st.a m.st.length S.st.cap,.slice S.ex.a m.ex.length S.ex.cap] 54))):=(Below.refl _ _).alloc (Nat.le_refl _) _;refine zx (R:=fun W=>W.heap[w.heap.size]? =some (.cells #[.slice S.rq.a m.rq.length S.rq.cap,.slice S.im.a m.im.length S.im.cap,.slice S.ep.a m.ep.length S.ep.cap,.slice S.st.a m.st.length S.st.cap,.slice S.ex.a m.ex.length S.ex.cap] 54 (0,0))/\OwnMd W base S m/\Below w.heap.size w W) ⟨heap_alloc_new w _,HH.o.later K.o,K.o⟩ ?_;obtain⟨gx,O⟩: ∃gx,gx=w.heap.size:=⟨_,rfl⟩;rw[<-O];rintro w1 ⟨hx,ho,A⟩;rw[O] at A;clear O K HH;have X1:=zc hx;have O1:=zc ho;have aa:=zc A;clear hx ho A;obtain⟨c0,c1,c2,c3,c4,cf⟩:=zj X1.o;go_wp2_with fail;refine (zr5 base S m J w1 O1.o SM.o (fun t=>Nat.le_trans (HU.o t) (by omega))).mono ?_;rintro e w2 ⟨H,A⟩;obtain⟨t,N,rfl⟩:=H.form;have PR:=zc N;have ht:=N.size HU.o;have X2:=zc ((A.block _ (aLt X1.o)).trans X1.o);have O2:=zc (O1.o.later A);have ab:=zc (aa.o.trans (A.mono aa.o.size));clear H N A c0 c1 c2 c3 c4 cf;go_wp2_with fail;refine (zsG t J w2 ht).mono ?_;rintro e U ⟨H,A⟩;have X3:=zc ((A.block _ (aLt X2.o)).trans X2.o);have O3:=zc (O2.o.later A);have I:=zc (ab.o.trans (A.mono ab.o.size));clear A;rcases H.md with ⟨q,z,n,Z,hn,rfl,L,M⟩|⟨p,Z,rfl⟩
 ·have OK:=zc (zkb (m:=m) Z hn);have O4:=zc L;have NF:=zc M;clear H Z hn L M;unfold zl;go_upto_region 2 with fail;have K:Hid (Below U.heap.size U (U.alloc (.cells #[.slice z.rq.a n.rq.length z.rq.cap,.slice z.im.a n.im.length z.im.cap,.slice z.ep.a n.ep.length z.ep.cap,.slice z.st.a n.st.length z.st.cap,.slice z.ex.a n.ex.length z.ex.cap] 54))):=(Below.refl _ _).alloc (Nat.le_refl _) _;refine zx (R:=fun W=>W.heap[gx]? =some (.cells #[.slice S.rq.a m.rq.length S.rq.cap,.slice S.im.a m.im.length S.im.cap,.slice S.ep.a m.ep.length S.ep.cap,.slice S.st.a m.st.length S.st.cap,.slice S.ex.a m.ex.length S.ex.cap] 54 (0,0))/\W.heap[U.heap.size]? =some (.cells #[.slice z.rq.a n.rq.length z.rq.cap,.slice z.im.a n.im.length z.im.cap,.slice z.ep.a n.ep.length z.ep.cap,.slice z.st.a n.st.length z.st.cap,.slice z.ex.a n.ex.length z.ex.cap] 54 (0,0))/\OwnMd W base S m/\OwnMd W w2.heap.size z n/\Below w.heap.size w W) ⟨(K.o.block _ (aLt X3.o)).trans X3.o,heap_alloc_new U _,O3.o.later K.o,O4.o.later K.o,I.o.trans (K.o.mono I.o.size)⟩ ?_;obtain⟨gy,X⟩: ∃gy,gy=U.heap.size:=⟨_,rfl⟩;rw[<-X];intro w4 h4;have V:=zc h4;clear h4 X K X3 O3 O4 I;obtain⟨c0,c1,c2,c3,c4,cf⟩:=zj V.o.1;obtain⟨d0,d1,d2,d3,d4,df⟩:=zj V.o.2.1;go_wp2_with fail;refine ((zqU zkD zkE zkF zkG zkH zkI zkJ zkK w2.heap.size base z S n m _ V.o.2.2.2.1 V.o.2.2.1 NF.o)).mono ?_;rintro e w5 ⟨⟨r,rfl,hr⟩,A⟩;have HR:=zc hr;have ac:=zc (V.o.2.2.2.2.trans (A.mono V.o.2.2.2.2.size));clear hr A c0 c1 c2 c3 c4 cf d0 d1 d2 d3 d4 df;go_wp2;go_ret;exact⟨⟨t,PR.o,r,rfl,HR.o.trans OK.o.symm⟩,ac.o⟩
 ·have NO:=zc (zka (m:=m) Z);clear H Z;go_wp2;go_ret;exact⟨⟨t,PR.o,false,rfl,⟨fun k=>(by cases k),fun k=>absurd k NO.o⟩⟩,(I.o.alloc I.o.size _)⟩
def md0:Md:=⟨[],[],[],[],[]⟩
theorem zly (w:World) (base:Nat):OwnMd w base S0 md0:=⟨zcP _ _ _ _,zcP _ _ _ _,zcP _ _ _ _,zcP _ _ _ _,zcP _ _ _ _⟩
theorem zfO (k:Int) (w:World):Calls prog 222 #[.int .i64 k] w fun e w'=>e= .returned (.bool (k==6||k==7))/\w'=w:=by
 cases q:(k==6) with
 |true=>
  go_enter func222,ntmps222;go_wp2;go_ret;exact⟨rfl,rfl⟩
 |false=>
  cases h:(k==7) with
  |true=>
   go_enter func222,ntmps222;go_wp2;go_ret;exact⟨rfl,rfl⟩
  |false=>
   go_enter func222,ntmps222;go_wp2;go_ret;exact⟨rfl,rfl⟩
theorem zlz (k:Int) (w:World):Calls prog 198 #[.int .i64 k] w fun e w'=>e= .returned (.bool (zaa k))/\w'=w:=by
 cases h:(k==6||k==7) with
 |true=>
  have q:Hid (zaa k=true):=by show _=_;rw[zaa,h];rfl
  go_enter func198,ntmps198;go_wp2_with fail;refine (zfO k _).mono ?_;rintro e A ⟨rfl,rfl⟩;rw[h];go_wp2;go_ret;exact⟨zi q.o.symm,rfl⟩
 |false=>
  cases z:(k==8) with
  |true=>
   have q:Hid (zaa k=true):=by show _=_;rw[zaa,h,z];rfl
   go_enter func198,ntmps198;go_wp2_with fail;refine (zfO k _).mono ?_;rintro e A ⟨rfl,rfl⟩;rw[h];go_wp2;go_ret;exact⟨zi q.o.symm,rfl⟩
  |false=>
   have q:Hid (zaa k=false):=by show _=_;rw[zaa,h,z];rfl
   go_enter func198,ntmps198;go_wp2_with fail;refine (zfO k _).mono ?_;rintro e A ⟨rfl,rfl⟩;rw[h];go_wp2;go_ret;exact⟨zi q.o.symm,rfl⟩
theorem zsI (k:Int) (w:World):Calls prog 200 #[.int .i64 k] w fun e w'=>e= .returned (.bool (k !=1))/\w'=w:=by
 go_enter func200,ntmps200;go_wp2;go_ret;exact⟨rfl,rfl⟩
theorem zl0 {w:World} {b:Nat} {t:TypeId} {v0:Value} (h:w.heap[b]? =some (.cells #[v0] t (0,0))):w.cell? ⟨b,0,none⟩=some v0/\∀i,w.frozen? ⟨b,i,none⟩=false:=by
 refine⟨?_,fun i=>?_⟩<;>simp[World.cell?,World.frozen?,h]
theorem zir (i n:Int) (u:Value) (w:World) (h: ¬(0<=i/\i<n)):
  Calls prog 197 #[.int .i64 i,.int .i64 n,u] w fun e w'=>e= .returned (.bool false)/\w'=w:=by
 by_cases q:i<0
 ·go_enter func197,ntmps197;go_wp2;go_ret;exact⟨rfl,rfl⟩
 ·have z:n<=i:=by omega
  clear h;go_enter func197,ntmps197;go_wp2;go_ret;exact⟨rfl,rfl⟩
theorem zsJ (i q base g L:Nat) (n:Int) (f:Nat->Nat) (w:World) (K:w.heap[L]? =some (.cells #[.slice (some ⟨g,0,none⟩) q q] 36 (0,0))) (h:w.ownsRow base 3 1 (.slice (some ⟨g,0,none⟩) q q) q (zas q f)) (N:f i<=17179869184) (hi:i<q) (hn:(i:Int)<n):
  Calls prog 197 #[.int .i64 (i:Int),.int .i64 n,.pointer (some ⟨L,0,none⟩)] w fun e w'=>e= .returned (.bool true)/\w'=w.setCell ⟨g,i,none⟩ (.int .i64 (f i+1:Nat)):=by
 have X: ¬(i:Int)<0:=by omega
 have Y: ¬n<=(i:Int):=by omega
 have O:(i:Int)<(q:Int):=by omega
 obtain⟨Z,sf⟩:=zl0 K;obtain⟨J,z⟩: ∃v,f i=v:=⟨_,rfl⟩;have U:=zeU h (k:=i) (by omega);have V:=h.frozenAt;rw[z] at U N;rw[z];obtain⟨H,A⟩: ∃u,u=J+1:=⟨_,rfl⟩;have M:(J:Int)+1=(H:Int):=by omega
 have I:IntKind.i64.wrap (H:Int)=(H:Int):=IntWalk.i64_in _ ⟨by omega,by omega⟩;rw[<-A];clear K h z A;go_enter func197,ntmps197;go_wp2;go_ret;exact⟨rfl,rfl⟩
def odd (n:Nat) (f:Nat->Nat) (j:Nat):Bool:=(List.range n).any fun k=>decide (j<=k)&&((f k:Int) !=1)
theorem zsK {n:Nat} {f:Nat->Nat} {j:Nat} (z:j<n):odd n f j=(((f j:Int) !=1)||odd n f (j+1)):=by
 rw[Bool.eq_iff_iff,Bool.or_eq_true];simp only[odd,List.any_eq_true,List.mem_range,Bool.and_eq_true,decide_eq_true_eq];constructor
 ·rintro⟨k,w,q,h⟩;by_cases e:k=j
  ·exact .inl (e▸h)
  ·exact .inr ⟨k,w,by omega,h⟩
 ·rintro (h|⟨k,w,q,h⟩)
  ·exact⟨j,z,Nat.le_refl _,h⟩
  ·exact⟨k,w,by omega,h⟩
theorem zsL {n:Nat} (f:Nat->Nat) {j:Nat} (w:n<=j):odd n f j=false:=by
 rw[Bool.eq_false_iff];intro h;simp only[odd,List.any_eq_true,List.mem_range,Bool.and_eq_true,decide_eq_true_eq] at h;obtain⟨k,z,q,_⟩:=h;omega
theorem zsM (base g q:Nat) (f:Nat->Nat) (w:World) (h:w.ownsRow base 3 1 (.slice (some ⟨g,0,none⟩) q q) q (zas q f)) (hl:q<=4294967296):
  Calls prog 223 #[.slice (some ⟨g,0,none⟩) q q,.func (.func 200) #[] #[]] w fun e w'=>(∃v:Int,e= .returned (.int .i64 v)/\decide (0<=v)=odd q f 0)/\Below w.heap.size w w':=by
 have HO:=zc h;clear h;go_enter func223,ntmps223;go_wp2;go_loopg [8] (q+1) (fun k i wr=>∃j:Nat,i= .int .i64 j/\j+k=q+1/\odd q f j=odd q f 0/\Below w.heap.size w wr)
 case atStart=>exact⟨0,rfl,by omega,rfl,Below.refl _ _⟩
 case round=>
  obtain⟨j,rfl,hj,X,O⟩:=hrel;have L:=zc X;have J:=zc O;clear X O;by_cases z:j<q
  ·have H:(j:Int)<(q:Int):=by omega
   have k0:=zeU (zfK HO.o J.o) z;have V:=zc (zsK (f:=f) z);obtain⟨v,K⟩: ∃v,f j=v:=⟨_,rfl⟩;rw[K] at k0;have Y:=zc K;clear K;obtain⟨I,A⟩: ∃I,I=j+1:=⟨_,rfl⟩;have ej:(j:Int)+1=(I:Int):=by omega
   have N:=zc A;clear A;go_wp2_with fail;refine (zsI (v:Int) _).mono ?_;rintro e Z ⟨rfl,U⟩;rw[U];clear U Z;cases M:((v:Int) !=1) with
   |true=>
    go_wp2;go_ret;refine⟨⟨_,rfl,?_⟩,J.o⟩;rw[<-L.o,V.o,Y.o,M];simp
   |false=>
    go_wp2;go_roundg (gk-1)
    case rel=>
     refine⟨I,rfl,by have:=N.o;omega,?_,J.o⟩;rw[<-L.o,V.o,Y.o,M,N.o];simp
    case measure=>omega
  ·have H: ¬(j:Int)<(q:Int):=by omega
   go_wp2;go_ret;refine⟨⟨_,rfl,?_⟩,J.o⟩;rw[<-L.o,zsL f (by omega)];rfl
theorem zsN (base g q:Nat) (f:Nat->Nat) (w:World) (h:w.ownsRow base 3 1 (.slice (some ⟨g,0,none⟩) q q) q (zas q f)) (I:q<=4294967296):
  Calls prog 199 #[.slice (some ⟨g,0,none⟩) q q,.func (.func 200) #[] #[]] w fun e w'=>e= .returned (.bool (odd q f 0))/\Below w.heap.size w w':=by
 have H:=zc h;clear h;go_enter func199,ntmps199;go_wp2_with fail;refine (zsM base g q f _ H.o I).mono ?_;rintro e L ⟨⟨v,rfl,z⟩,A⟩;have K:=zc z;have J:=zc A;clear z A;go_wp2;go_ret;exact⟨zi K.o,J.o⟩
def UM (w0:World) (base:Nat) (S:Sv) (m:Md) (gu:Nat) (f:Nat->Nat) (w:World):Prop:=
 (w.heap[gu]? =some (.cells #[.slice (some ⟨w0.heap.size+1,0,none⟩) m.ex.length m.ex.length] 36 (0,0))/\w0.heap.size+1<gu)/\
 w.ownsRow (w0.heap.size+1) 3 1 (.slice (some ⟨w0.heap.size+1,0,none⟩) m.ex.length m.ex.length) m.ex.length (zas m.ex.length f)/\OwnMd w base S m/\
 w.heap[w0.heap.size]? =some (.cells #[.slice S.rq.a m.rq.length S.rq.cap,.slice S.im.a m.im.length S.im.cap,.slice S.ep.a m.ep.length S.ep.cap,.slice S.st.a m.st.length S.st.cap,.slice S.ex.a m.ex.length S.ex.cap] 54 (0,0))/\Below w0.heap.size w0 w
theorem UM.later {w0 w w':World} {base:Nat} {S:Sv} {m:Md} {I:Nat} {f:Nat->Nat} (h:UM w0 base S m I f w) (q:Below w.heap.size w w'):UM w0 base S m I f w':=by
 obtain⟨⟨A,J⟩,L,K,H,z⟩:=h;exact⟨⟨(q.block _ (aLt A)).trans A,J⟩,zfK L q,K.later q,(q.block _ (aLt H)).trans H,z.trans (q.mono z.size)⟩
theorem UM.used {w0 w:World} {base:Nat} {S:Sv} {m:Md} {z:Nat} {f:Nat->Nat} (h:UM w0 base S m z f w) (i:Nat):UM w0 base S m z (zaL f i) (w.setCell ⟨w0.heap.size+1,i,none⟩ (.int .i64 (f i+1:Nat))):=by
 obtain⟨⟨J,H⟩,q,I,K,A⟩:=h;exact⟨⟨(zv (by omega)).trans J,H⟩,zgJ q i _ rfl,zgK I (zgM q),(zv (by omega)).trans K,A.setCell (Nat.le_succ _) _⟩
theorem UM.congr {w0 w:World} {base:Nat} {S:Sv} {m:Md} {q:Nat} {f g:Nat->Nat} (h:UM w0 base S m q f w) (e: ∀k,k<m.ex.length->f k=g k):UM w0 base S m q g w:=by
 obtain⟨H,J,A,I,z⟩:=h;exact⟨H,by rw[<-zex e];exact J,A,I,z⟩
theorem zis {w0:World} {b0:Nat} {S:Sv} {m:Md} {q:Nat} {f:Nat->Nat} (i:Nat) (n:Int) (w:World) (h:UM w0 b0 S m q f w) (z:f i<=17179869184) (H:i<m.ex.length) (I:(i:Int)<n):
  Calls prog 197 #[.int .i64 (i:Int),.int .i64 n,.pointer (some ⟨q,0,none⟩)] w fun e w'=>e= .returned (.bool true)/\UM w0 b0 S m q (zaL f i) w'/\∀k,k≠w0.heap.size+1->w'.heap[k]? =w.heap[k]?:=by
 refine (zsJ i m.ex.length (w0.heap.size+1) (w0.heap.size+1) q n f w h.1.1 h.2.1 z H I).mono ?_;rintro e w' ⟨rfl,rfl⟩;exact⟨rfl,h.used i,fun k A=>zv A⟩
theorem zl1 {n:Nat} {f:Nat->Nat}:odd n f 0=false↔∀k,k<n->f k=1:=by
 rw[Bool.eq_false_iff];constructor
 ·intro h k q;by_cases e:f k=1
  ·exact e
  ·exact absurd (by
    simp only[odd,List.any_eq_true,List.mem_range,Bool.and_eq_true,decide_eq_true_eq]
    exact⟨k,q,Nat.zero_le _,by rw[bne_iff_ne];omega⟩) h
 ·intro h e;simp only[odd,List.any_eq_true,List.mem_range,Bool.and_eq_true,decide_eq_true_eq] at e;obtain⟨k,q,_,w⟩:=e;rw[bne_iff_ne] at w;have:=h k q;omega
theorem zsO (base:Nat) (S:Sv) (m:Md) (w:World) (h:OwnMd w base S m) (hl:m.ex.length<=4294967296) (hs:m.st.length<=4294967296):
  Calls prog 170 #[zl S m] w fun e w'=>zgL m e/\Below w.heap.size w w':=by
 obtain⟨i0,hi,aB,aF,aD⟩:=info_parts Tryz.infoInt;have HH:=zc h;clear h;unfold zl;go_enter func170,ntmps170;go_wp2_with (first|(at_make;refine wpList_make_full _ rfl _ _ 36 rfl (w.heap.size+1) 3 i0 (.int .i64 0) 1 underlying36 hi aB aF .i64 .i64 _ _ m.ex.length (by rfl) (by rfl) rfl rfl (by rw[aD];omega) (by unfold maxLen;omega) (by rw[zg];omega) ?_));intro U V K;rw[zkW] at V;have bb:Below (w.heap.size+1) (w.alloc _) U:=⟨K.os,K.tape,K.output,K.size,fun k L=>K.block k (by rw[zg];exact L) (by simp)⟩;have Z:Hid (Below w.heap.size w U):=((Below.refl _ _).alloc (Nat.le_refl _) _).trans (bb.mono (by omega));have ak:Hid (U.heap[w.heap.size]? =some (.cells #[.slice S.rq.a m.rq.length S.rq.cap,.slice S.im.a m.im.length S.im.cap,.slice S.ep.a m.ep.length S.ep.cap,.slice S.st.a m.st.length S.st.cap,.slice S.ex.a m.ex.length S.ex.cap] 54 (0,0))):=(bb.block _ (by omega)).trans (heap_alloc_new w _);have ax:=zc (HH.o.later Z.o);have ai:Hid (U.ownsRow (w.heap.size+1) 3 1 (.slice (some ⟨w.heap.size+1,0,none⟩) m.ex.length m.ex.length) m.ex.length (zas m.ex.length (cE m.ex 0))):=by show World.ownsRow _ _ _ _ _ _ _;rw[show zas m.ex.length (cE m.ex 0)=zas m.ex.length (fun _=>0) from zex fun k _=>by simp[cE,zat]];exact V
 clear V K bb;have av:=(zih ai.o).2;go_upto_region 3 with fail;have HA:Hid (Below U.heap.size U (U.alloc (.cells #[.slice (some ⟨w.heap.size+1,0,none⟩) m.ex.length m.ex.length] 36))):=(Below.refl _ _).alloc (Nat.le_refl _) _;have hz:=(aLt ak.o);refine zx (R:=UM w base S m U.heap.size (cE m.ex 0)) ⟨⟨heap_alloc_new U _,av⟩,zfK ai.o HA.o,ax.o.later HA.o,(HA.o.block _ hz).trans ak.o,Z.o.trans (HA.o.mono Z.o.size)⟩ ?_;obtain⟨gu,am⟩: ∃gu,gu=U.heap.size:=⟨_,rfl⟩;rw[<-am];rw[<-am] at av;clear HA ak Z ax ai hz am U;intro W q;have HM:=zc q;clear q;obtain⟨c0,c1,c2,c3,c4,cf⟩:=zj HM.o.2.2.2.1;go_wp2;go_loopg [17] m.ex.length (fun k i wr=>∃j:Nat,i= .int .i64 j/\j+k=m.ex.length/\AheadTo m.ex j/\UM w base S m gu (cE m.ex j) wr)
 case atStart=>exact⟨0,rfl,by omega,fun i x hi=>absurd hi (Nat.not_lt_zero i),HM.o⟩
 case round=>
  obtain⟨j,rfl,hj,ah,q⟩:=hrel;have AH:=zc ah;have I:=zc q;clear ah q;clear c0 c1 c2 c3 c4 cf;obtain⟨c0,c1,c2,c3,c4,cf⟩:=zj I.o.2.2.2.1;by_cases A:j<m.ex.length
  ·have az:(j:Int)<(m.ex.length:Int):=by omega
   obtain⟨g,hg,aG,x0,x1,x2,x3,x4,x5⟩:=I.o.2.2.1.expr A;have HG:Hid (Value.slice S.ex.a m.ex.length S.ex.cap=Value.slice (some ⟨g,0,none⟩) m.ex.length S.ex.cap):=by show _=_;rw[hg]
   clear hg c0 c1 c2 c3 c4 cf;rw[HG.o];have ay:=zc (zed A);obtain⟨x,aj⟩: ∃x,m.ex.getD j zh=x:=⟨_,rfl⟩;rw[aj] at x0 x1 x2 x3 x4 x5;have N:Hid (m.ex[j]=x):=ay.o.symm.trans aj;clear aj ay;obtain⟨X,M⟩: ∃X,X=j+1:=⟨_,rfl⟩;have ej:(j:Int)+1=(X:Int):=by omega
   have Y:=zc M;clear M;go_upto_region 6 with fail;have HW:Hid (Below wr.heap.size wr (wr.alloc (.cells #[.int .i64 x.kind,.int .i64 x.num,.string x.name,.string x.field,.int .i64 x.l,.int .i64 x.r] 100))):=(Below.refl _ _).alloc (Nat.le_refl _) _;refine zx (R:=fun W=>W.heap[wr.heap.size]? =some (.cells #[.int .i64 x.kind,.int .i64 x.num,.string x.name,.string x.field,.int .i64 x.l,.int .i64 x.r] 100 (0,0))/\UM w base S m gu (cE m.ex j) W) ⟨heap_alloc_new wr _,I.o.later HW.o⟩ ?_;have au:wr.heap.size≠w.heap.size+1:=by have:=(zih I.o.2.1).2;omega
   obtain⟨gx,ag⟩: ∃gx,gx=wr.heap.size:=⟨_,rfl⟩;rw[<-ag];rw[<-ag] at au;clear x0 x1 x2 x3 x4 x5 HW;rintro W ⟨xb,q⟩;clear ag I;have XB:=zc xb;have I:=zc q;clear xb q;obtain⟨x0,x1,x2,x3,x4,x5,xf⟩:=zw XB.o;go_wp2_with fail;refine (zlz x.kind _).mono ?_;rintro e w2 ⟨rfl,O⟩;rw[O];clear O w2;cases ht:zaa x.kind with
   |false=>
    go_wp2;rw[<-HG.o];go_roundg (gk-1)
    case rel=>exact⟨X,rfl,by have:=Y.o;omega,by rw[Y.o];exact AH.o.next A (fun k=>by rw[N.o,ht] at k;cases k),by rw[Y.o];exact I.o.congr fun k _=>zkU A (by rw[N.o];exact ht) k⟩
    case measure=>omega
   |true=>
    go_wp2_with fail;by_cases a1:0<=x.l/\x.l<(j:Int)
    ·obtain⟨ln,af⟩: ∃ln:Nat,x.l=(ln:Int):=⟨x.l.toNat,by omega⟩;have ao:=zgH (m.ex.take j);have aw:(m.ex.take j).length<=4294967296:=by rw[List.length_take];omega
     rw[af];refine (zis (w0:=w) (b0:=base) (S:=S) (m:=m) (f:=cE m.ex j) ln (j:Int) W I.o (by have:=ao (ln:Int);unfold cE;omega) (by omega) (by omega)).mono ?_;rintro e W2 ⟨rfl,ac,L⟩;have z:=zc ac;have aE:=zc ((L gx au).trans XB.o);clear ac L x0 x1 x2 x3 x4 x5 xf;obtain⟨x0,x1,x2,x3,x4,x5,xf⟩:=zw aE.o;go_wp2_with fail;by_cases a2:0<=x.r/\x.r<(j:Int)
     ·obtain⟨rn,ad⟩: ∃rn:Nat,x.r=(rn:Int):=⟨x.r.toNat,by omega⟩;rw[ad];refine (zis (w0:=w) (b0:=base) (S:=S) (m:=m) (f:=zaL (cE m.ex j) ln) rn (j:Int) W2 z.o (by have:=ao (rn:Int);unfold zaL cE;split<;>omega) (by omega) (by omega)).mono ?_;rintro e W3 ⟨rfl,H,L⟩;have al:=zc H;have ae:Hid (∀k:Nat,zaL (zaL (cE m.ex j) ln) rn k=cE m.ex (j+1) k):=fun k=>by have:=zkT A (by rw[N.o];exact ht) (by rw[N.o];omega) (by rw[N.o];omega) k;rw[N.o,af,ad] at this;exact this
      have aC:Hid (AheadTo m.ex (j+1)):=AH.o.next A (fun _=>by rw[N.o];omega);clear H L x0 x1 x2 x3 x4 x5 xf af ad a1 a2 ao aw;go_wp2;rw[<-HG.o];go_roundg (gk-1)
      case rel=>exact⟨X,rfl,by have:=Y.o;omega,by rw[Y.o];exact aC.o,by rw[Y.o];exact al.o.congr fun k _=>ae.o k⟩
      case measure=>omega
     ·refine (zir x.r (j:Int) _ W2 a2).mono ?_;rintro e w3 ⟨rfl,O⟩;rw[O];clear O w3;go_wp2;go_ret;exact⟨zcW (fun (t:Tree m)=>absurd t.ahead (AheadTo.not A (by rw[N.o];exact ht) (by rw[N.o];omega))),z.o.2.2.2.2⟩
    ·refine (zir x.l (j:Int) _ W a1).mono ?_;rintro e w2 ⟨rfl,O⟩;rw[O];clear O w2;go_wp2;go_ret;exact⟨zcW (fun (t:Tree m)=>absurd t.ahead (AheadTo.not A (by rw[N.o];exact ht) (by rw[N.o];omega))),I.o.2.2.2.2⟩
  ·have az: ¬(j:Int)<(m.ex.length:Int):=by omega
   obtain rfl:j=m.ex.length:=by omega
   have HA:=zc AH.o.all;have HC:Hid (UM w base S m gu (cS m 0) wr):=I.o.congr fun k _=>by simp[cE,cS,zaO]
   go_wp2;go_loopg [44] m.st.length (fun k i wr=>∃j:Nat,i= .int .i64 j/\j+k=m.st.length/\(∀s∈m.st.take j,0<=s.expr/\s.expr<(m.ex.length:Int))/\UM w base S m gu (cS m j) wr)
   case atStart=>exact⟨0,rfl,by omega,(fun s hs=>by simp at hs),HC.o⟩
   case round=>
    obtain⟨j,rfl,aH,ah,q⟩:=hrel;have AS:=zc ah;have z:=zc q;clear ah q c0 c1 c2 c3 c4 cf;obtain⟨c0,c1,c2,c3,c4,cf⟩:=zj z.o.2.2.2.1;by_cases J:j<m.st.length
    ·have an:(j:Int)<(m.st.length:Int):=by omega
     obtain⟨s,ar⟩: ∃s,m.st[j]? =some s:=⟨_,List.getElem?_eq_getElem J⟩;obtain⟨g,hg,aa⟩:=OwnR.elem (f:=smL) (m:=3) (fun _=>rfl) z.o.2.2.1.st ar;have k0:=aa 0 (by omega);have k1:=aa 1 (by omega);have k2:=aa 2 (by omega);simp only[smL,Nat.add_zero,List.getElem?_cons_zero,List.getElem?_cons_succ] at k0 k1 k2;have HG:Hid (Value.slice S.st.a m.st.length S.st.cap=Value.slice (some ⟨g,0,none⟩) m.st.length S.st.cap):=by show _=_;rw[hg]
     obtain⟨_,ab⟩:=List.getElem?_eq_some_iff.1 ar;have HS:Hid (m.st[j]=s):=ab;clear hg aa ar ab;rw[HG.o];obtain⟨X,M⟩: ∃X,X=j+1:=⟨_,rfl⟩;have ej:(j:Int)+1=(X:Int):=by omega
     have Y:=zc M;clear M;go_upto_region 12 with fail;have HW:Hid (Below wr.heap.size wr (wr.alloc (.cells #[.int .i64 s.kind,.string s.name,.int .i64 s.expr] 102))):=(Below.refl _ _).alloc (Nat.le_refl _) _;refine zx (R:=fun W=>W.heap[wr.heap.size]? =some (.cells #[.int .i64 s.kind,.string s.name,.int .i64 s.expr] 102 (0,0))/\UM w base S m gu (cS m j) W) ⟨heap_alloc_new wr _,z.o.later HW.o⟩ ?_;clear k0 k1 k2 HW c0 c1 c2 c3 c4 cf;rintro W ⟨xb,q⟩;have I:=zc q;obtain⟨k0,k1,k2,kf⟩:=zo xb;clear q xb;obtain⟨c0,c1,c2,c3,c4,cf⟩:=zj I.o.2.2.2.1;go_wp2_with fail;by_cases a1:0<=s.expr/\s.expr<(m.ex.length:Int)
     ·obtain⟨en,ap⟩: ∃en:Nat,s.expr=(en:Int):=⟨s.expr.toNat,by omega⟩;have aq:Hid (∀s∈m.st.take (j+1),0<=s.expr/\s.expr<(m.ex.length:Int)):=by
       intro y hy;rw[List.take_succ_eq_append_getElem J,List.mem_append] at hy;rcases hy with hy|hy
       ·exact AS.o y hy
       ·simp only[List.mem_singleton] at hy;rw[hy,HS.o];omega
      have ae:Hid (∀k:Nat,zaL (cS m j) en k=cS m (j+1) k):=fun k=>by have:=zkV (ex:=m.ex) J (by rw[HS.o];omega) k;rw[HS.o,ap] at this;exact this
      rw[ap];refine (zis (w0:=w) (b0:=base) (S:=S) (m:=m) (f:=cS m j) en _ W I.o (by unfold cS;have:=zgH m.ex (en:Int);have:=zkS (m.st.take j) (en:Int);rw[List.length_take] at this;omega) (by omega) (by omega)).mono ?_;rintro e W2 ⟨rfl,H,L⟩;have al:=zc H;clear H L k0 k1 k2 kf c0 c1 c2 c3 c4 cf ap a1;go_wp2;rw[<-HG.o];go_roundg (gk-1)
      case rel=>exact⟨X,rfl,by have:=Y.o;omega,by rw[Y.o];exact aq.o,by rw[Y.o];exact al.o.congr fun k _=>ae.o k⟩
      case measure=>omega
     ·refine (zir s.expr _ _ W a1).mono ?_;rintro e w3 ⟨rfl,O⟩;rw[O];clear O w3;go_wp2;go_ret;exact⟨zcW (fun (t:Tree m)=>by have:=t.stm _ (List.getElem_mem J);rw[HS.o] at this;omega),I.o.2.2.2.2⟩
    ·have an: ¬(j:Int)<(m.st.length:Int):=by omega
     obtain rfl:j=m.st.length:=by omega
     have aq:Hid (∀s∈m.st,0<=s.expr/\s.expr<(m.ex.length:Int)):=by have:=AS.o;rw[List.take_length] at this;exact this
     obtain⟨t0,tf⟩:=zl0 z.o.1.1;go_wp2_with fail;refine (zsN (w.heap.size+1) (w.heap.size+1) m.ex.length (cS m m.st.length) _ z.o.2.1 hl).mono ?_;rintro e w3 ⟨rfl,hb⟩;have aA:Hid (Below w.heap.size w w3):=z.o.2.2.2.2.trans (hb.mono z.o.2.2.2.2.size);clear hb;cases ho:odd m.ex.length (cS m m.st.length) 0 with
     |true=>
      go_wp2;go_ret
      exact⟨zcW (fun (t:Tree m)=>by
       have:=zl1.2 (fun k L=>by have:=t.once k L;show cS m m.st.length k=1;unfold cS;rw[List.take_length];omega);rw[ho] at this
       cases this),aA.o⟩
     |false=>
      go_wp2;go_ret;exact⟨zkX ⟨HA.o,aq.o,fun k L=>by have:=zl1.1 ho k L;unfold cS at this;rw[List.take_length] at this;exact this⟩,aA.o⟩
def zl2 (c:BA):Nat->List BA
 |0=>[]
 |k+1=>(if bt c (k+1)=47 then [c.extract 0 (k+1)] else [])++zl2 c k
def upC (c:BA):List BA:=zl2 c (c.size-1)++if 1<c.size then [{data:=#[47]}] else []
def upL (p:BA):List BA:=upC (zaK p)
end Go.Proofs.YtgcbmogmniahjaaGreat
namespace Go.Proofs.YtgcbmogmniahjaaGreat
open Go.RowKit Go.PlainAid
theorem zmH {w:World} {base g n z:Nat} {e:TypeId} {xs:List BA} (h:zbl w base e g n z xs):base<=g/\g<w.heap.size:=by
 rcases h.1.2 with ⟨q,_⟩|⟨K,A,H,q,I,J,_⟩
 ·simp at q
 ·simp only[Value.slice.injEq,Option.some.injEq,Addr.mk.injEq,and_true,true_and] at q;obtain⟨rfl,rfl⟩:=q;exact⟨I,(aLt J)⟩
theorem zvH {w W:World} {base g n q:Nat} {e:TypeId} {xs:List BA} (h:zbl w base e g n q xs) (J:W.heap[g]? =w.heap[g]?):zbl W base e g n q xs:=by
 refine⟨⟨h.1.1,?_⟩,h.2⟩;rcases h.1.2 with ⟨z,_⟩|⟨M,I,A,z,H,L,K⟩
 ·simp at z
 ·simp only[Value.slice.injEq,Option.some.injEq,Addr.mk.injEq,and_true,true_and] at z;obtain⟨rfl,rfl⟩:=z;exact .inr ⟨g,q,A,rfl,H,J.trans L,K⟩
def inT (l:List BA) (s:BA):Bool:=l.any fun y=>y.toList==s.toList
def zhg (s x:BA):Bool:=Op.bytesLess s.toList x.toList
def ziN (s:BA):List BA->List BA
 |[]=>[s]
 |x::l=>if zhg s x then s::x::l else x::ziN s l
def zvI (l:List BA) (s:BA):List BA:=if inT l s then l else ziN s l
def zxi (s:BA) (b:Bool) (l:List BA):List BA:=if b then ziN s l else l
def zxj (s:BA) (b:Bool) (l:List BA):Prop:=if b then ∃x∈l,zhg s x=true else ∀x∈l,zhg s x=false
def zvJ (k:Int):Bool:=k==2||k==3||k==4||k==5
def zfh {α:Type} (p:α->Bool) (f:α->BA) (l:List α) (acc:List BA):List BA:=l.foldl (fun acc x=>if p x=true then zvI acc (f x) else acc) acc
def zvK (m:Md):List BA:=zfh (fun x=>zvJ x.kind) (fun x=>x.name) m.ex []
def zvL (m:Md):List BA:=zfh (fun x=>x.kind==3) (fun x=>x.name) m.st (zvK m)
def zvM (m:Md):List BA:=zfh (fun x=>x.kind==1) (fun x=>x.loc) m.ep (zvL m)
def zvN (m:Md):List BA:=zfh (fun x=> !inT (zvM m) x.loc) (fun x=>x.loc) m.im []
def zxk (m:Md):Md:={m with im:=m.im.filter fun x=> !inT (zvN m) x.loc}
def zvO (m:Md):List BA:=zfh (fun x=>(x.kind==2||x.kind==3)&& !inT (zbL m) x.name) (fun x=>x.name) m.ex []
def zxl (m:Md):List BA:=zfh (fun x=>x.kind==3&& !inT (zbL m) x.name) (fun x=>x.name) m.st (zvO m)
theorem zvP {α:Type} {l:List α} {j:Nat} {x:α} (h:l[j]? =some x):l.take (j+1)=l.take j++[x]:=by
 obtain⟨q,rfl⟩:=List.getElem?_eq_some_iff.1 h;exact List.take_succ_eq_append_getElem q
theorem ziA (l:List Sm):(stN l).length<=l.length:=by rw[stN,List.length_map];exact List.length_filter_le _ _
end Go.Proofs.YtgcbmogmniahjaaGreat
namespace Go.Proofs.YtgcbmogmniahjaaGreat
open Go.RowKit Go.PlainAid
def zxm (l:List BA):Prop:=l.Pairwise fun a b=>zhg a b=true
def zaZ (l:List Sm):List BA:=(l.filter fun x=>x.kind==3).map fun x=>x.name
def zaN (l:List Ex):List BA:=(l.filter fun x=>x.kind==2||x.kind==3).map fun x=>x.name
def zxn (l:List Ex):List BA:=(l.filter fun x=>x.kind==4||x.kind==5).map fun x=>x.name
def zxo (l:List Ep):List BA:=(l.filter fun x=>x.kind==1).map fun x=>x.loc
end Go.Proofs.YtgcbmogmniahjaaGreat
