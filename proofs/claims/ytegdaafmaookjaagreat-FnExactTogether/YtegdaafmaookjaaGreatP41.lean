/- Facts. -/
import Derived.Test.YtegdaafmaookjaaGreatP37
import Derived.Test.YtegdaafmaookjaaGreatP40
namespace Go.Proofs.YtegdaafmaookjaaGreat
open Go.Proofs.Tryz
set_option maxRecDepth 100000
set_option maxHeartbeats 6400000
open Go.RowKit Go.PlainAid Go.Sort
variable (g b:Nat) (z:Int) (w:World) (c:Nat) (W:Nat->Nat) {C:World} {d n:Nat} {S:Sv} {q:Md} {s:Nat->Nat}
theorem zuL (S:Sv) (m:Md) (K:Bool) (w:World) (h:OwnMd w g S m) (hm:Small m) (Z:Tree m->(zcw m).size<=4294967296):
  Calls prog 40 #[zo S m,.bool K] w fun e w'=>zhp (zcw m) m K e/\Bw w w':=by
 have HH:=zc h;have SM:=zc hm;have HU:=zc Z;have SF:Hid (zeq m):=hm.few;clear h hm Z;unfold zo;go_enter func40,ntmps40;go_upto_region 1 with fail;have L:Hid (Bw w (w.alloc (.cells (bxA S m) 59))):=bA0;refine zp (R:=fun W=>W.heap[w.heap.size]? =some (.cells (bxA S m) 59 (0,0))/\OwnMd W g S m/\Below w.heap.size w W) ⟨hN0 w _,HH.o.later L.o,L.o⟩ ?_;obtain⟨gx,U⟩: ∃gx,gx=w.heap.size:=⟨_,rfl⟩;rw[<-U];rintro w1 ⟨hx,ho,H⟩;rw[U] at H;clear U L HH;have X1:=zc hx;have O1:=zc ho;have aa:=zc H;clear hx ho H;obtain⟨c0,c1,c2,c3,c4,cf⟩:=zl X1.o;go_wp2_with fail;refine (zt9 g S m K w1 O1.o SM.o (fun t=>Nat.le_trans (HU.o t) (by omega))).mono ?_;rintro e w2 ⟨I,H⟩;obtain⟨t,O,rfl⟩:=I.form;have PR:=zc O;have ht:=O.size HU.o;have X2:=zc ((H.block _ (aLt X1.o)).trans X1.o);have O2:=zc (O1.o.later H);have ab:=zc (aa.o.trans (H.mono aa.o.size));clear I O H c0 c1 c2 c3 c4 cf;go_wp2_with fail;refine (zuK t K w2 ht).mono ?_;rintro e V ⟨I,H⟩;have X3:=zc ((H.block _ (aLt X2.o)).trans X2.o);have O3:=zc (O2.o.later H);have J:=zc (ab.o.trans (H.mono ab.o.size));clear H;rcases I.md with ⟨q,A,n,hy,hn,rfl,M,N⟩|⟨p,hy,rfl⟩
 ·have OK:=zc (zlm (m:=m) hy hn);have O4:=zc M;have NF:=zc N;clear I hy hn M N;unfold zo;go_upto_region 2 with fail;have L:Hid (Bw V (V.alloc (.cells (bxA A n) 59))):=bA0;refine zp (R:=fun W=>W.heap[gx]? =some (.cells (bxA S m) 59 (0,0))/\W.heap[V.heap.size]? =some (.cells (bxA A n) 59 (0,0))/\OwnMd W g S m/\OwnMd W w2.heap.size A n/\Below w.heap.size w W) ⟨(L.o.block _ (aLt X3.o)).trans X3.o,hN0 V _,O3.o.later L.o,O4.o.later L.o,J.o.trans (L.o.mono J.o.size)⟩ ?_;obtain⟨gy,Y⟩: ∃gy,gy=V.heap.size:=⟨_,rfl⟩;rw[<-Y];intro w4 h4;have X:=zc h4;clear h4 Y L X3 O3 O4 J;obtain⟨c0,c1,c2,c3,c4,cf⟩:=zl X.o.1;obtain⟨d0,d1,d2,d3,d4,df⟩:=zl X.o.2.1;go_wp2_with fail;refine ((zsY zlP zlQ zlR zlS zlT zlU zlV zlW w2.heap.size g A S n m _ X.o.2.2.2.1 X.o.2.2.1 NF.o)).mono ?_;rintro e w5 ⟨⟨r,rfl,hr⟩,H⟩;have HR:=zc hr;have ac:=zc (X.o.2.2.2.2.trans (H.mono X.o.2.2.2.2.size));clear hr H c0 c1 c2 c3 c4 cf d0 d1 d2 d3 d4 df;go_wp2;go_ret;exact⟨⟨t,PR.o,r,rfl,HR.o.trans OK.o.symm⟩,ac.o⟩
 ·have NO:=zc (zll (m:=m) hy);clear I hy;go_wp2;go_ret;exact⟨⟨t,PR.o,false,rfl,⟨fun k=>(by cases k),fun k=>absurd k NO.o⟩⟩,(J.o.alloc J.o.size _)⟩
def md0:Md:=⟨[],[],[],[],[]⟩
theorem zmA:OwnMd w c S0 md0:=⟨zdi _ _ _ _,zdi _ _ _ _,zdi _ _ _ _,zdi _ _ _ _,zdi _ _ _ _⟩
theorem zg3:Calls prog 238 #[.int .i64 z] w fun e w'=>e= .returned (.bool (z==6||z==7))/\w'=w:=by
 cases q:(z==6) with
 |true=>
  go_enter func238,ntmps238;go_wp2;go_ret;exact⟨rfl,rfl⟩
 |false=>
  cases h:(z==7) with
  |true=>
   go_enter func238,ntmps238;go_wp2;go_ret;exact⟨rfl,rfl⟩
  |false=>
   go_enter func238,ntmps238;go_wp2;go_ret;exact⟨rfl,rfl⟩
theorem zmB:Calls prog 216 #[.int .i64 z] w fun e w'=>e= .returned (.bool (zag z))/\w'=w:=by
 cases h:(z==6||z==7) with
 |true=>
  have q:Hid (zag z=true):=by show _=_;rw[zag,h];rfl
  go_enter func216,ntmps216;go_wp2_with fail;refine (zg3 z _).mono ?_;rintro e H ⟨rfl,rfl⟩;rw[h];go_wp2;go_ret;exact⟨zk q.o.symm,rfl⟩
 |false=>
  cases A:(z==8) with
  |true=>
   have q:Hid (zag z=true):=by show _=_;rw[zag,h,A];rfl
   go_enter func216,ntmps216;go_wp2_with fail;refine (zg3 z _).mono ?_;rintro e H ⟨rfl,rfl⟩;rw[h];go_wp2;go_ret;exact⟨zk q.o.symm,rfl⟩
  |false=>
   have q:Hid (zag z=false):=by show _=_;rw[zag,h,A];rfl
   go_enter func216,ntmps216;go_wp2_with fail;refine (zg3 z _).mono ?_;rintro e H ⟨rfl,rfl⟩;rw[h];go_wp2;go_ret;exact⟨zk q.o.symm,rfl⟩
theorem zuM:Calls prog 218 #[.int .i64 z] w fun e w'=>e= .returned (.bool (z !=1))/\w'=w:=by
 go_enter func218,ntmps218;go_wp2;go_ret;exact⟨rfl,rfl⟩
theorem zmC {t:TypeId} {v0:Value} (h:C.heap[d]? =some (.cells #[v0] t (0,0))):C.cell? ⟨d,0,none⟩=some v0/\∀i,C.frozen? ⟨d,i,none⟩=false:=by
 refine⟨?_,fun i=>?_⟩<;>simp[World.cell?,World.frozen?,h]
theorem zjo (n:Int) (u:Value) (w:World) (h: ¬(0<=z/\z<n)):
  Calls prog 215 #[.int .i64 z,.int .i64 n,u] w fun e w'=>e= .returned (.bool false)/\w'=w:=by
 by_cases A:z<0
 ·go_enter func215,ntmps215;go_wp2;go_ret;exact⟨rfl,rfl⟩
 ·have q:n<=z:=by omega
  clear h;go_enter func215,ntmps215;go_wp2;go_ret;exact⟨rfl,rfl⟩
theorem zuN (m M:Nat) (n:Int) (f:Nat->Nat) (w:World) (L:w.heap[M]? =some (.cells #[.slice (some ⟨m,0,none⟩) b b] 36 (0,0))) (h:w.ownsRow c 3 1 (.slice (some ⟨m,0,none⟩) b b) b (zaz b f)) (O:f g<=17179869184) (hi:g<b) (hn:(g:Int)<n):
  Calls prog 215 #[.int .i64 (g:Int),.int .i64 n,.pointer (some ⟨M,0,none⟩)] w fun e w'=>e= .returned (.bool true)/\w'=w.setCell ⟨m,g,none⟩ (.int .i64 (f g+1:Nat)):=by
 have Y: ¬(g:Int)<0:=by omega
 have Z: ¬n<=(g:Int):=by omega
 have U:(g:Int)<(b:Int):=by omega
 obtain⟨s0,sf⟩:=zmC L;obtain⟨K,A⟩: ∃v,f g=v:=⟨_,rfl⟩;have V:=zf6 h (k:=g) (by omega);have X:=h.frozenAt;rw[A] at V O;rw[A];obtain⟨I,H⟩: ∃u,u=K+1:=⟨_,rfl⟩;have N:(K:Int)+1=(I:Int):=by omega
 have J:IntKind.i64.wrap (I:Int)=(I:Int):=IntWalk.i64_in _ ⟨by omega,by omega⟩;rw[<-H];clear L h A H;go_enter func215,ntmps215;go_wp2;go_ret;exact⟨rfl,rfl⟩
def odd (n:Nat) (f:Nat->Nat) (j:Nat):Bool:=(List.range n).any fun k=>decide (j<=k)&&((f k:Int) !=1)
theorem zuO {f:Nat->Nat} {j:Nat} (A:j<d):odd d f j=(((f j:Int) !=1)||odd d f (j+1)):=by
 rw[Bool.eq_iff_iff,Bool.or_eq_true];simp only[odd,List.any_eq_true,List.mem_range,Bool.and_eq_true,decide_eq_true_eq];constructor
 ·rintro⟨k,w,q,h⟩;by_cases e:k=j
  ·exact .inl (e▸h)
  ·exact .inr ⟨k,w,by omega,h⟩
 ·rintro (h|⟨k,w,q,h⟩)
  ·exact⟨j,A,Nat.le_refl _,h⟩
  ·exact⟨k,w,by omega,h⟩
theorem zuP {j:Nat} (w:d<=j):odd d W j=false:=by
 rw[Bool.eq_false_iff];intro h;simp only[odd,List.any_eq_true,List.mem_range,Bool.and_eq_true,decide_eq_true_eq] at h;obtain⟨k,A,q,_⟩:=h;omega
theorem zuQ (m q:Nat) (f:Nat->Nat) (w:World) (h:w.ownsRow g 3 1 (.slice (some ⟨m,0,none⟩) q q) q (zaz q f)) (hl:q<=4294967296):
  Calls prog 239 #[.slice (some ⟨m,0,none⟩) q q,.func (.func 218) #[] #[]] w fun e w'=>(∃v:Int,e= .returned (.int .i64 v)/\decide (0<=v)=odd q f 0)/\Bw w w':=by
 have HO:=zc h;clear h;go_enter func239,ntmps239;go_wp2;go_loopg [8] (q+1) (fun k i wr=>∃j:Nat,i= .int .i64 j/\j+k=q+1/\odd q f j=odd q f 0/\Bw w wr)
 case atStart=>exact⟨0,rfl,by omega,rfl,Below.refl _ _⟩
 case round=>
  obtain⟨j,rfl,hj,Y,U⟩:=hrel;have M:=zc Y;have K:=zc U;clear Y U;by_cases A:j<q
  ·have I:(j:Int)<(q:Int):=by omega
   have k0:=zf6 (zgz HO.o K.o) A;have X:=zc (zuO (f:=f) A);obtain⟨v,L⟩: ∃v,f j=v:=⟨_,rfl⟩;rw[L] at k0;have Z:=zc L;clear L;obtain⟨J,H⟩: ∃J,J=j+1:=⟨_,rfl⟩;have ej:(j:Int)+1=(J:Int):=by omega
   have O:=zc H;clear H;go_wp2_with fail;refine (zuM (v:Int) _).mono ?_;rintro e w1 ⟨rfl,V⟩;rw[V];clear V w1;cases N:((v:Int) !=1) with
   |true=>
    go_wp2;go_ret;refine⟨⟨_,rfl,?_⟩,K.o⟩;rw[<-M.o,X.o,Z.o,N];simp
   |false=>
    go_wp2;go_roundg (gk-1)
    case rel=>
     refine⟨J,rfl,by have:=O.o;omega,?_,K.o⟩;rw[<-M.o,X.o,Z.o,N,O.o];simp
    case measure=>omega
  ·have I: ¬(j:Int)<(q:Int):=by omega
   go_wp2;go_ret;refine⟨⟨_,rfl,?_⟩,K.o⟩;rw[<-M.o,zuP f (by omega)];rfl
theorem zuR (k q:Nat) (f:Nat->Nat) (w:World) (h:w.ownsRow g 3 1 (.slice (some ⟨k,0,none⟩) q q) q (zaz q f)) (J:q<=4294967296):
  Calls prog 217 #[.slice (some ⟨k,0,none⟩) q q,.func (.func 218) #[] #[]] w fun e w'=>e= .returned (.bool (odd q f 0))/\Bw w w':=by
 have I:=zc h;clear h;go_enter func217,ntmps217;go_wp2_with fail;refine (zuQ g k q f _ I.o J).mono ?_;rintro e M ⟨⟨v,rfl,A⟩,H⟩;have L:=zc A;have K:=zc H;clear A H;go_wp2;go_ret;exact⟨zk L.o,K.o⟩
def UM (w0:World) (base:Nat) (S:Sv) (m:Md) (gu:Nat) (f:Nat->Nat) (w:World):Prop:=
 (w.heap[gu]? =some (.cells #[.slice (some ⟨w0.heap.size+1,0,none⟩) m.ex.length m.ex.length] 36 (0,0))/\w0.heap.size+1<gu)/\
 w.ownsRow (w0.heap.size+1) 3 1 (.slice (some ⟨w0.heap.size+1,0,none⟩) m.ex.length m.ex.length) m.ex.length (zaz m.ex.length f)/\OwnMd w base S m/\
 w.heap[w0.heap.size]? =some (.cells #[.slice S.rq.a m.rq.length S.rq.cap,.slice S.im.a m.im.length S.im.cap,.slice S.ep.a m.ep.length S.ep.cap,.slice S.st.a m.st.length S.st.cap,.slice S.ex.a m.ex.length S.ex.cap] 59 (0,0))/\Bw w0 w
theorem UM.later {w w':World} (h:UM C d S q n s w) (k:Bw w w'):UM C d S q n s w':=by
 obtain⟨⟨H,K⟩,M,L,I,A⟩:=h;exact⟨⟨(k.block _ (aLt H)).trans H,K⟩,zgz M k,L.later k,(k.block _ (aLt I)).trans I,A.trans (k.mono A.size)⟩
theorem UM.used {w:World} (h:UM C d S q n s w) (i:Nat):UM C d S q n (zaS s i) (w.setCell ⟨C.heap.size+1,i,none⟩ (.int .i64 (s i+1:Nat))):=by
 obtain⟨⟨K,I⟩,k,J,L,H⟩:=h;exact⟨⟨(zC (by omega)).trans K,I⟩,zh9 k i _ rfl,zhA J (zhC k),(zC (by omega)).trans L,H.setCell (Nat.le_succ _) _⟩
theorem UM.congr {w:World} {x:Nat} {g:Nat->Nat} (h:UM C d S q x s w) (e: ∀k,k<q.ex.length->s k=g k):UM C d S q x g w:=by
 obtain⟨I,K,H,J,A⟩:=h;exact⟨I,by rw[<-zeV e];exact K,H,J,A⟩
theorem zjp {w0:World} {b0:Nat} {S:Sv} {m:Md} {f:Nat->Nat} (h:UM w0 b0 S m d f w) (A:f g<=17179869184) (I:g<m.ex.length) (J:(g:Int)<z):
  Calls prog 215 #[.int .i64 (g:Int),.int .i64 z,.pointer (some ⟨d,0,none⟩)] w fun e w'=>e= .returned (.bool true)/\UM w0 b0 S m d (zaS f g) w'/\∀k,k≠w0.heap.size+1->w'.heap[k]? =w.heap[k]?:=by
 refine (zuN g m.ex.length (w0.heap.size+1) (w0.heap.size+1) d z f w h.1.1 h.2.1 A I J).mono ?_;rintro e w' ⟨rfl,rfl⟩;exact⟨rfl,h.used g,fun k H=>zC H⟩
theorem zmD:odd d s 0=false↔∀k,k<d->s k=1:=by
 rw[Bool.eq_false_iff];constructor
 ·intro h k q;by_cases e:s k=1
  ·exact e
  ·exact absurd (by
    simp only[odd,List.any_eq_true,List.mem_range,Bool.and_eq_true,decide_eq_true_eq]
    exact⟨k,q,Nat.zero_le _,by rw[bne_iff_ne];omega⟩) h
 ·intro h e;simp only[odd,List.any_eq_true,List.mem_range,Bool.and_eq_true,decide_eq_true_eq] at e;obtain⟨k,q,_,w⟩:=e;rw[bne_iff_ne] at w;have:=h k q;omega
theorem zuS (S:Sv) (m:Md) (w:World) (h:OwnMd w g S m) (hl:m.ex.length<=4294967296) (hs:m.st.length<=4294967296):
  Calls prog 192 #[zo S m] w fun e w'=>zhB m e/\Bw w w':=by
 obtain⟨i0,hi,aC,aG,aE⟩:=info_parts Tryz.infoInt;have HH:=zc h;clear h;unfold zo;go_enter func192,ntmps192;go_wp2_with (first|(at_make;refine wpList_make_full _ rfl _ _ 36 rfl (w.heap.size+1) 3 i0 (.int .i64 0) 1 underlying36 hi aC aG .i64 .i64 _ _ m.ex.length (by rfl) (by rfl) rfl rfl (by rw[aE];omega) (by unfold maxLen;omega) (by rw[zh];omega) ?_));intro V X L;rw[zmi] at X;have bb:Below (w.heap.size+1) (w.alloc _) V:=⟨L.os,L.tape,L.output,L.size,fun k M=>L.block k (by rw[zh];exact M) (by simp)⟩;have aa:Hid (Bw w V):=(bA0).trans (bb.mono (by omega));have al:Hid (V.heap[w.heap.size]? =some (.cells (bxA S m) 59 (0,0))):=(bb.block _ (by omega)).trans (hN0 w _);have ay:=zc (HH.o.later aa.o);have aj:Hid (V.ownsRow (w.heap.size+1) 3 1 (.slice (some ⟨w.heap.size+1,0,none⟩) m.ex.length m.ex.length) m.ex.length (zaz m.ex.length (cE m.ex 0))):=by show World.ownsRow _ _ _ _ _ _ _;rw[show zaz m.ex.length (cE m.ex 0)=zaz m.ex.length (fun _=>0) from zeV fun k _=>by simp[cE,za0]];exact X
 clear X L bb;have aw:=(zjf aj.o).2;go_upto_region 3 with fail;have HA:Hid (Bw V (V.alloc (.cells #[.slice (some ⟨w.heap.size+1,0,none⟩) m.ex.length m.ex.length] 36))):=bA0;have hz:=(aLt al.o);refine zp (R:=UM w g S m V.heap.size (cE m.ex 0)) ⟨⟨hN0 V _,aw⟩,zgz aj.o HA.o,ay.o.later HA.o,(HA.o.block _ hz).trans al.o,aa.o.trans (HA.o.mono aa.o.size)⟩ ?_;obtain⟨gu,an⟩: ∃gu,gu=V.heap.size:=⟨_,rfl⟩;rw[<-an];rw[<-an] at aw;clear HA al aa ay aj hz an V;intro W q;have HM:=zc q;clear q;obtain⟨c0,c1,c2,c3,c4,cf⟩:=zl HM.o.2.2.2.1;go_wp2;go_loopg [17] m.ex.length (fun k i wr=>∃j:Nat,i= .int .i64 j/\j+k=m.ex.length/\AheadTo m.ex j/\UM w g S m gu (cE m.ex j) wr)
 case atStart=>exact⟨0,rfl,by omega,fun i x hi=>absurd hi (Nat.not_lt_zero i),HM.o⟩
 case round=>
  obtain⟨j,rfl,hj,ah,q⟩:=hrel;have AH:=zc ah;have J:=zc q;clear ah q;clear c0 c1 c2 c3 c4 cf;obtain⟨c0,c1,c2,c3,c4,cf⟩:=zl J.o.2.2.2.1;by_cases H:j<m.ex.length
  ·have aA:(j:Int)<(m.ex.length:Int):=by omega
   obtain⟨p,hg,aH,x0,x1,x2,x3,x4,x5⟩:=J.o.2.2.1.expr H;have HG:Hid (Value.slice S.ex.a m.ex.length S.ex.cap=Value.slice (some ⟨p,0,none⟩) m.ex.length S.ex.cap):=by show _=_;rw[hg]
   clear hg c0 c1 c2 c3 c4 cf;rw[HG.o];have az:=zc (zeB H);obtain⟨x,ak⟩: ∃x,m.ex.getD j zj=x:=⟨_,rfl⟩;rw[ak] at x0 x1 x2 x3 x4 x5;have O:Hid (m.ex[j]=x):=az.o.symm.trans ak;clear ak az;obtain⟨Y,N⟩: ∃Y,Y=j+1:=⟨_,rfl⟩;have ej:(j:Int)+1=(Y:Int):=by omega
   have Z:=zc N;clear N;go_upto_region 6 with fail;have HW:Hid (Bw wr (wr.alloc (.cells #[.int .i64 x.kind,.int .i64 x.num,.string x.name,.string x.field,.int .i64 x.l,.int .i64 x.r] 106))):=bA0;refine zp (R:=fun W=>W.heap[wr.heap.size]? =some (.cells #[.int .i64 x.kind,.int .i64 x.num,.string x.name,.string x.field,.int .i64 x.l,.int .i64 x.r] 106 (0,0))/\UM w g S m gu (cE m.ex j) W) ⟨hN0 wr _,J.o.later HW.o⟩ ?_;have av:wr.heap.size≠w.heap.size+1:=by have:=(zjf J.o.2.1).2;omega
   obtain⟨gx,ai⟩: ∃gx,gx=wr.heap.size:=⟨_,rfl⟩;rw[<-ai];rw[<-ai] at av;clear x0 x1 x2 x3 x4 x5 HW;rintro W ⟨xb,q⟩;clear ai J;have XB:=zc xb;have J:=zc q;clear xb q;obtain⟨x0,x1,x2,x3,x4,x5,xf⟩:=zD XB.o;go_wp2_with fail;refine (zmB x.kind _).mono ?_;rintro e w2 ⟨rfl,U⟩;rw[U];clear U w2;cases ht:zag x.kind with
   |false=>
    go_wp2;rw[<-HG.o];go_roundg (gk-1)
    case rel=>exact⟨Y,rfl,by have:=Z.o;omega,by rw[Z.o];exact AH.o.next H (fun k=>by rw[O.o,ht] at k;cases k),by rw[Z.o];exact J.o.congr fun k _=>zmg H (by rw[O.o];exact ht) k⟩
    case measure=>omega
   |true=>
    go_wp2_with fail;by_cases a1:0<=x.l/\x.l<(j:Int)
    ·obtain⟨ln,ag⟩: ∃ln:Nat,x.l=(ln:Int):=⟨x.l.toNat,by omega⟩;have ap:=zh7 (m.ex.take j);have ax:(m.ex.take j).length<=4294967296:=by rw[List.length_take];omega
     rw[ag];refine (zjp (w0:=w) (b0:=g) (S:=S) (m:=m) (f:=cE m.ex j) ln (j:Int) W J.o (by have:=ap (ln:Int);unfold cE;omega) (by omega) (by omega)).mono ?_;rintro e W2 ⟨rfl,ad,M⟩;have A:=zc ad;have aF:=zc ((M gx av).trans XB.o);clear ad M x0 x1 x2 x3 x4 x5 xf;obtain⟨x0,x1,x2,x3,x4,x5,xf⟩:=zD aF.o;go_wp2_with fail;by_cases a2:0<=x.r/\x.r<(j:Int)
     ·obtain⟨rn,ae⟩: ∃rn:Nat,x.r=(rn:Int):=⟨x.r.toNat,by omega⟩;rw[ae];refine (zjp (w0:=w) (b0:=g) (S:=S) (m:=m) (f:=zaS (cE m.ex j) ln) rn (j:Int) W2 A.o (by have:=ap (rn:Int);unfold zaS cE;split<;>omega) (by omega) (by omega)).mono ?_;rintro e W3 ⟨rfl,I,M⟩;have am:=zc I;have af:Hid (∀k:Nat,zaS (zaS (cE m.ex j) ln) rn k=cE m.ex (j+1) k):=fun k=>by have:=zmf H (by rw[O.o];exact ht) (by rw[O.o];omega) (by rw[O.o];omega) k;rw[O.o,ag,ae] at this;exact this
      have aD:Hid (AheadTo m.ex (j+1)):=AH.o.next H (fun _=>by rw[O.o];omega);clear I M x0 x1 x2 x3 x4 x5 xf ag ae a1 a2 ap ax;go_wp2;rw[<-HG.o];go_roundg (gk-1)
      case rel=>exact⟨Y,rfl,by have:=Z.o;omega,by rw[Z.o];exact aD.o,by rw[Z.o];exact am.o.congr fun k _=>af.o k⟩
      case measure=>omega
     ·refine (zjo x.r (j:Int) _ W2 a2).mono ?_;rintro e w3 ⟨rfl,U⟩;rw[U];clear U w3;go_wp2;go_ret;exact⟨zdo (fun (t:Tree m)=>absurd t.ahead (AheadTo.not H (by rw[O.o];exact ht) (by rw[O.o];omega))),A.o.2.2.2.2⟩
    ·refine (zjo x.l (j:Int) _ W a1).mono ?_;rintro e w2 ⟨rfl,U⟩;rw[U];clear U w2;go_wp2;go_ret;exact⟨zdo (fun (t:Tree m)=>absurd t.ahead (AheadTo.not H (by rw[O.o];exact ht) (by rw[O.o];omega))),J.o.2.2.2.2⟩
  ·have aA: ¬(j:Int)<(m.ex.length:Int):=by omega
   obtain rfl:j=m.ex.length:=by omega
   have HA:=zc AH.o.all;have HC:Hid (UM w g S m gu (cS m 0) wr):=J.o.congr fun k _=>by simp[cE,cS,zaW]
   go_wp2;go_loopg [44] m.st.length (fun k i wr=>∃j:Nat,i= .int .i64 j/\j+k=m.st.length/\(∀s∈m.st.take j,0<=s.expr/\s.expr<(m.ex.length:Int))/\UM w g S m gu (cS m j) wr)
   case atStart=>exact⟨0,rfl,by omega,(fun s hs=>by simp at hs),HC.o⟩
   case round=>
    obtain⟨j,rfl,aI,ah,q⟩:=hrel;have AS:=zc ah;have A:=zc q;clear ah q c0 c1 c2 c3 c4 cf;obtain⟨c0,c1,c2,c3,c4,cf⟩:=zl A.o.2.2.2.1;by_cases K:j<m.st.length
    ·have ao:(j:Int)<(m.st.length:Int):=by omega
     obtain⟨s,au⟩: ∃s,m.st[j]? =some s:=⟨_,gE K⟩;obtain⟨p,hg,ab⟩:=OwnR.elem (f:=smL) (m:=3) (fun _=>rfl) A.o.2.2.1.st au;have k0:=ab 0 (by omega);have k1:=ab 1 (by omega);have k2:=ab 2 (by omega);simp only[smL,Nat.add_zero,List.getElem?_cons_zero,List.getElem?_cons_succ] at k0 k1 k2;have HG:Hid (Value.slice S.st.a m.st.length S.st.cap=Value.slice (some ⟨p,0,none⟩) m.st.length S.st.cap):=by show _=_;rw[hg]
     obtain⟨_,ac⟩:=gS au;have HS:Hid (m.st[j]=s):=ac;clear hg ab au ac;rw[HG.o];obtain⟨Y,N⟩: ∃Y,Y=j+1:=⟨_,rfl⟩;have ej:(j:Int)+1=(Y:Int):=by omega
     have Z:=zc N;clear N;go_upto_region 12 with fail;have HW:Hid (Bw wr (wr.alloc (.cells #[.int .i64 s.kind,.string s.name,.int .i64 s.expr] 108))):=bA0;refine zp (R:=fun W=>W.heap[wr.heap.size]? =some (.cells #[.int .i64 s.kind,.string s.name,.int .i64 s.expr] 108 (0,0))/\UM w g S m gu (cS m j) W) ⟨hN0 wr _,A.o.later HW.o⟩ ?_;clear k0 k1 k2 HW c0 c1 c2 c3 c4 cf;rintro W ⟨xb,q⟩;have J:=zc q;obtain⟨k0,k1,k2,kf⟩:=zg xb;clear q xb;obtain⟨c0,c1,c2,c3,c4,cf⟩:=zl J.o.2.2.2.1;go_wp2_with fail;by_cases a1:0<=s.expr/\s.expr<(m.ex.length:Int)
     ·obtain⟨en,aq⟩: ∃en:Nat,s.expr=(en:Int):=⟨s.expr.toNat,by omega⟩;have ar:Hid (∀s∈m.st.take (j+1),0<=s.expr/\s.expr<(m.ex.length:Int)):=by
       intro y hy;rw[tG K,List.mem_append] at hy;rcases hy with hy|hy
       ·exact AS.o y hy
       ·simp only[List.mem_singleton] at hy;rw[hy,HS.o];omega
      have af:Hid (∀k:Nat,zaS (cS m j) en k=cS m (j+1) k):=fun k=>by have:=zmh (ex:=m.ex) K (by rw[HS.o];omega) k;rw[HS.o,aq] at this;exact this
      rw[aq];refine (zjp (w0:=w) (b0:=g) (S:=S) (m:=m) (f:=cS m j) en _ W J.o (by unfold cS;have:=zh7 m.ex (en:Int);have:=zme (m.st.take j) (en:Int);rw[List.length_take] at this;omega) (by omega) (by omega)).mono ?_;rintro e W2 ⟨rfl,I,M⟩;have am:=zc I;clear I M k0 k1 k2 kf c0 c1 c2 c3 c4 cf aq a1;go_wp2;rw[<-HG.o];go_roundg (gk-1)
      case rel=>exact⟨Y,rfl,by have:=Z.o;omega,by rw[Z.o];exact ar.o,by rw[Z.o];exact am.o.congr fun k _=>af.o k⟩
      case measure=>omega
     ·refine (zjo s.expr _ _ W a1).mono ?_;rintro e w3 ⟨rfl,U⟩;rw[U];clear U w3;go_wp2;go_ret;exact⟨zdo (fun (t:Tree m)=>by have:=t.stm _ (List.getElem_mem K);rw[HS.o] at this;omega),J.o.2.2.2.2⟩
    ·have ao: ¬(j:Int)<(m.st.length:Int):=by omega
     obtain rfl:j=m.st.length:=by omega
     have ar:Hid (∀s∈m.st,0<=s.expr/\s.expr<(m.ex.length:Int)):=by have:=AS.o;rw[List.take_length] at this;exact this
     obtain⟨t0,tf⟩:=zmC A.o.1.1;go_wp2_with fail;refine (zuR (w.heap.size+1) (w.heap.size+1) m.ex.length (cS m m.st.length) _ A.o.2.1 hl).mono ?_;rintro e w3 ⟨rfl,hb⟩;have aB:Hid (Bw w w3):=A.o.2.2.2.2.trans (hb.mono A.o.2.2.2.2.size);clear hb;cases ho:odd m.ex.length (cS m m.st.length) 0 with
     |true=>
      go_wp2;go_ret
      exact⟨zdo (fun (t:Tree m)=>by
       have:=zmD.2 (fun k M=>by have:=t.once k M;show cS m m.st.length k=1;unfold cS;rw[List.take_length];omega);rw[ho] at this
       cases this),aB.o⟩
     |false=>
      go_wp2;go_ret;exact⟨zmj ⟨HA.o,ar.o,fun k M=>by have:=zmD.1 ho k M;unfold cS at this;rw[List.take_length] at this;exact this⟩,aB.o⟩
