/-
  What spec.ModOk answers: the walk.
  The zero program in memory. No program is spoken of but for the numbers of its types.
  What impl's isSum,hasSides and the closure that counts a use answer: the walks.
  What areExprsUsedOnce answers: the walk.
  The directories that a path is in,as a plain function. No program is spoken of.
-/
import Derived.Test.YtgcbmogmniahjaaGreatCReSpecParseMToSpecParseR
namespace Go.Proofs.YtgcbmogmniahjaaGreat
set_option maxRecDepth 100000
set_option maxHeartbeats 6400000
open Go.RowKit Go.PlainAid Go.Sort
theorem ztd (base:Nat) (S:Sv) (m:Md) (H:Bool) (w:World) (h:OwnMd w base S m) (hm:Small m) (V:Tree m→(zcn m).size≤4294967296):
  Calls Tryz.prog 28 #[zl S m,.bool H] w fun e w'=>zgA (zcn m) m H e∧Below w.heap.size w w':=by
 have HH:=zc h
 have SM:=zc hm
 have HU:=zc V
 have SF:Hid (zdT m):=hm.few
 clear h hm V
 unfold zl
 go_enter Tryz.func28,Tryz.ntmps28
 go_upto_region 1 with fail
 have I:Hid (Below w.heap.size w (w.alloc (.cells #[.slice S.rq.a m.rq.length S.rq.cap,.slice S.im.a m.im.length S.im.cap,.slice S.ep.a m.ep.length S.ep.cap,.slice S.st.a m.st.length S.st.cap,.slice S.ex.a m.ex.length S.ex.cap] 54))):=(Below.refl _ _).alloc (Nat.le_refl _) _
 refine zu (R:=fun W=>W.heap[w.heap.size]? =some (.cells #[.slice S.rq.a m.rq.length S.rq.cap,.slice S.im.a m.im.length S.im.cap,.slice S.ep.a m.ep.length S.ep.cap,.slice S.st.a m.st.length S.st.cap,.slice S.ex.a m.ex.length S.ex.cap] 54 (0,0))∧OwnMd W base S m∧Below w.heap.size w W) ⟨heap_alloc_new w _,HH.out.later I.out,I.out⟩ ?_
 obtain⟨gx,M⟩: ∃gx,gx=w.heap.size:=⟨_,rfl⟩
 rw[←M]
 rintro w1 ⟨hx,ho,A⟩
 rw[M] at A
 clear M I HH
 have X1:=zc hx
 have O1:=zc ho
 have Y:=zc A
 clear hx ho A
 obtain⟨c0,c1,c2,c3,c4,cf⟩:=zj X1.out
 go_wp2_with fail
 refine (zrR base S m H w1 O1.out SM.out (fun t=>Nat.le_trans (HU.out t) (by omega))).mono ?_
 rintro e w2 ⟨D,A⟩
 obtain⟨t,L,rfl⟩:=D.form
 have PR:=zc L
 have ht:=L.size HU.out
 have X2:=zc ((A.block _ (Array.getElem?_eq_some_iff.1 X1.out).1).trans X1.out)
 have O2:=zc (O1.out.later A)
 have Z:=zc (Y.out.trans (A.mono Y.out.size))
 clear D L A c0 c1 c2 c3 c4 cf
 go_wp2_with fail
 refine (ztc t H w2 ht).mono ?_
 rintro e N ⟨D,A⟩
 have X3:=zc ((A.block _ (Array.getElem?_eq_some_iff.1 X2.out).1).trans X2.out)
 have O3:=zc (O2.out.later A)
 have E:=zc (Z.out.trans (A.mono Z.out.size))
 clear A
 rcases D.md with ⟨q,z,n,X,hn,rfl,J,K⟩|⟨p,X,rfl⟩
 ·have OK:=zc (zkq (m:=m) X hn)
  have O4:=zc J
  have NF:=zc K
  clear D X hn J K
  unfold zl
  go_upto_region 2 with fail
  have I:Hid (Below N.heap.size N (N.alloc (.cells #[.slice z.rq.a n.rq.length z.rq.cap,.slice z.im.a n.im.length z.im.cap,.slice z.ep.a n.ep.length z.ep.cap,.slice z.st.a n.st.length z.st.cap,.slice z.ex.a n.ex.length z.ex.cap] 54))):=(Below.refl _ _).alloc (Nat.le_refl _) _
  refine zu (R:=fun W=>W.heap[gx]? =some (.cells #[.slice S.rq.a m.rq.length S.rq.cap,.slice S.im.a m.im.length S.im.cap,.slice S.ep.a m.ep.length S.ep.cap,.slice S.st.a m.st.length S.st.cap,.slice S.ex.a m.ex.length S.ex.cap] 54 (0,0))∧W.heap[N.heap.size]? =some (.cells #[.slice z.rq.a n.rq.length z.rq.cap,.slice z.im.a n.im.length z.im.cap,.slice z.ep.a n.ep.length z.ep.cap,.slice z.st.a n.st.length z.st.cap,.slice z.ex.a n.ex.length z.ex.cap] 54 (0,0))∧OwnMd W base S m∧OwnMd W w2.heap.size z n∧Below w.heap.size w W) ⟨(I.out.block _ (Array.getElem?_eq_some_iff.1 X3.out).1).trans X3.out,heap_alloc_new N _,O3.out.later I.out,O4.out.later I.out,E.out.trans (I.out.mono E.out.size)⟩ ?_
  obtain⟨gy,U⟩: ∃gy,gy=N.heap.size:=⟨_,rfl⟩
  rw[←U]
  intro w4 h4
  have O:=zc h4
  clear h4 U I X3 O3 O4 E
  obtain⟨c0,c1,c2,c3,c4,cf⟩:=zj O.out.1
  obtain⟨d0,d1,d2,d3,d4,df⟩:=zj O.out.2.1
  go_wp2_with fail
  refine ((zrq zkS zkT zkU zkV zkW zkX zkY zkZ w2.heap.size base z S n m _ O.out.2.2.2.1 O.out.2.2.1 NF.out)).mono ?_
  rintro e w5 ⟨⟨r,rfl,hr⟩,A⟩
  have HR:=zc hr
  have aa:=zc (O.out.2.2.2.2.trans (A.mono O.out.2.2.2.2.size))
  clear hr A c0 c1 c2 c3 c4 cf d0 d1 d2 d3 d4 df
  go_wp2
  go_ret
  exact⟨⟨t,PR.out,r,rfl,HR.out.trans OK.out.symm⟩,aa.out⟩
 ·have NO:=zc (zkp (m:=m) X)
  clear D X
  go_wp2
  go_ret
  exact⟨⟨t,PR.out,false,rfl,⟨fun k=>(by cases k),fun k=>absurd k NO.out⟩⟩,(E.out.alloc E.out.size _)⟩
def md0:Md:=⟨[],[],[],[],[]⟩
theorem zlD (w:World) (base:Nat):OwnMd w base S0 md0:=⟨zcU _ _ _ _,zcU _ _ _ _,zcU _ _ _ _,zcU _ _ _ _,zcU _ _ _ _⟩
theorem zfX (k:Int) (w:World):Calls Tryz.prog 222 #[.int .i64 k] w fun e h=>e= .returned (.bool (k==6||k==7))∧h=w:=by
 cases z:(k==6) with
 |true=>
  go_enter Tryz.func222,Tryz.ntmps222
  go_wp2
  go_ret
  exact⟨rfl,rfl⟩
 |false=>
  cases q:(k==7) with
  |true=>
   go_enter Tryz.func222,Tryz.ntmps222
   go_wp2
   go_ret
   exact⟨rfl,rfl⟩
  |false=>
   go_enter Tryz.func222,Tryz.ntmps222
   go_wp2
   go_ret
   exact⟨rfl,rfl⟩
theorem zlE (k:Int) (w:World):Calls Tryz.prog 198 #[.int .i64 k] w fun e D=>e= .returned (.bool (zac k))∧D=w:=by
 cases h:(k==6||k==7) with
 |true=>
  have q:Hid (zac k=true):=by show _=_;rw[zac,h];rfl
  go_enter Tryz.func198,Tryz.ntmps198
  go_wp2_with fail
  refine (zfX k _).mono ?_
  rintro e A ⟨rfl,rfl⟩
  rw[h]
  go_wp2
  go_ret
  exact⟨zi q.out.symm,rfl⟩
 |false=>
  cases z:(k==8) with
  |true=>
   have q:Hid (zac k=true):=by show _=_;rw[zac,h,z];rfl
   go_enter Tryz.func198,Tryz.ntmps198
   go_wp2_with fail
   refine (zfX k _).mono ?_
   rintro e A ⟨rfl,rfl⟩
   rw[h]
   go_wp2
   go_ret
   exact⟨zi q.out.symm,rfl⟩
  |false=>
   have q:Hid (zac k=false):=by show _=_;rw[zac,h,z];rfl
   go_enter Tryz.func198,Tryz.ntmps198
   go_wp2_with fail
   refine (zfX k _).mono ?_
   rintro e A ⟨rfl,rfl⟩
   rw[h]
   go_wp2
   go_ret
   exact⟨zi q.out.symm,rfl⟩
theorem zte (k:Int) (w:World):Calls Tryz.prog 200 #[.int .i64 k] w fun e h=>e= .returned (.bool (k !=1))∧h=w:=by
 go_enter Tryz.func200,Tryz.ntmps200
 go_wp2
 go_ret
 exact⟨rfl,rfl⟩
theorem zlF {w:World} {b:Nat} {t:TypeId} {v0:Value} (h:w.heap[b]? =some (.cells #[v0] t (0,0))):w.cell? ⟨b,0,none⟩=some v0∧∀i,w.frozen? ⟨b,i,none⟩=false:=by
 refine⟨?_,fun i=>?_⟩<;>simp[World.cell?,World.frozen?,h]
theorem zi0 (i n:Int) (u:Value) (w:World) (h: ¬(0≤i∧i<n)):
  Calls Tryz.prog 197 #[.int .i64 i,.int .i64 n,u] w fun e q=>e= .returned (.bool false)∧q=w:=by
 by_cases z:i<0
 ·go_enter Tryz.func197,Tryz.ntmps197
  go_wp2
  go_ret
  exact⟨rfl,rfl⟩
 ·have A:n≤i:=by omega
  clear h
  go_enter Tryz.func197,Tryz.ntmps197
  go_wp2
  go_ret
  exact⟨rfl,rfl⟩
theorem ztf (i q base g J:Nat) (n:Int) (f:Nat→Nat) (w:World) (I:w.heap[J]? =some (.cells #[.slice (some ⟨g,0,none⟩) q q] 36 (0,0))) (h:w.ownsRow base 3 1 (.slice (some ⟨g,0,none⟩) q q) q (zau q f)) (M:f i≤17179869184) (hi:i<q) (hn:(i:Int)<n):
  Calls Tryz.prog 197 #[.int .i64 (i:Int),.int .i64 n,.pointer (some ⟨J,0,none⟩)] w fun e K=>e= .returned (.bool true)∧K=w.setCell ⟨g,i,none⟩ (.int .i64 (f i+1:Nat)):=by
 have V: ¬(i:Int)<0:=by omega
 have X: ¬n≤(i:Int):=by omega
 have N:(i:Int)<(q:Int):=by omega
 obtain⟨Y,Z⟩:=zlF I
 obtain⟨H,z⟩: ∃v,f i=v:=⟨_,rfl⟩
 have O:=zfe h (k:=i) (by omega)
 have U:=h.frozenAt
 rw[z] at O M
 rw[z]
 obtain⟨D,A⟩: ∃u,u=H+1:=⟨_,rfl⟩
 have L:(H:Int)+1=(D:Int):=by omega
 have E:IntKind.i64.wrap (D:Int)=(D:Int):=IntWalk.i64_in _ ⟨by omega,by omega⟩
 rw[←A]
 clear I h z A
 go_enter Tryz.func197,Tryz.ntmps197
 go_wp2
 go_ret
 exact⟨rfl,rfl⟩
def odd (n:Nat) (f:Nat→Nat) (j:Nat):Bool:=(List.range n).any fun k=>decide (j≤k)&&((f k:Int) !=1)
theorem ztg {n:Nat} {f:Nat→Nat} {j:Nat} (z:j<n):odd n f j=(((f j:Int) !=1)||odd n f (j+1)):=by
 rw[Bool.eq_iff_iff,Bool.or_eq_true]
 simp only[odd,List.any_eq_true,List.mem_range,Bool.and_eq_true,decide_eq_true_eq]
 constructor
 ·rintro⟨k,w,q,h⟩
  by_cases e:k=j
  ·exact .inl (e▸h)
  ·exact .inr ⟨k,w,by omega,h⟩
 ·rintro (h|⟨k,w,q,h⟩)
  ·exact⟨j,z,Nat.le_refl _,h⟩
  ·exact⟨k,w,by omega,h⟩
theorem zth {n:Nat} (f:Nat→Nat) {j:Nat} (w:n≤j):odd n f j=false:=by
 rw[Bool.eq_false_iff]
 intro h
 simp only[odd,List.any_eq_true,List.mem_range,Bool.and_eq_true,decide_eq_true_eq] at h
 obtain⟨k,z,q,_⟩:=h
 omega
theorem zti (base g q:Nat) (f:Nat→Nat) (w:World) (h:w.ownsRow base 3 1 (.slice (some ⟨g,0,none⟩) q q) q (zau q f)) (hl:q≤4294967296):
  Calls Tryz.prog 223 #[.slice (some ⟨g,0,none⟩) q q,.func (.func 200) #[] #[]] w fun e Y=>(∃v:Int,e= .returned (.int .i64 v)∧decide (0≤v)=odd q f 0)∧Below w.heap.size w Y:=by
 have HO:=zc h
 clear h
 go_enter Tryz.func223,Tryz.ntmps223
 go_wp2
 go_loopg [8] (q+1) (fun k i wr=>∃j:Nat,i= .int .i64 j∧j+k=q+1∧odd q f j=odd q f 0∧Below w.heap.size w wr)
 case atStart=>exact⟨0,rfl,by omega,rfl,Below.refl _ _⟩
 case round=>
  obtain⟨j,rfl,hj,U,M⟩:=hrel
  have J:=zc U
  have H:=zc M
  clear U M
  by_cases z:j<q
  ·have D:(j:Int)<(q:Int):=by omega
   have Z:=zfe (zfT HO.out H.out) z
   have O:=zc (ztg (f:=f) z)
   obtain⟨v,I⟩: ∃v,f j=v:=⟨_,rfl⟩
   rw[I] at Z
   have V:=zc I
   clear I
   obtain⟨E,A⟩: ∃E,E=j+1:=⟨_,rfl⟩
   have ej:(j:Int)+1=(E:Int):=by omega
   have L:=zc A
   clear A
   go_wp2_with fail
   refine (zte (v:Int) _).mono ?_
   rintro e X ⟨rfl,N⟩
   rw[N]
   clear N X
   cases K:((v:Int) !=1) with
   |true=>
    go_wp2
    go_ret
    refine⟨⟨_,rfl,?_⟩,H.out⟩
    rw[←J.out,O.out,V.out,K]
    simp
   |false=>
    go_wp2
    go_roundg (gk-1)
    case rel=>
     refine⟨E,rfl,by have:=L.out;omega,?_,H.out⟩
     rw[←J.out,O.out,V.out,K,L.out]
     simp
    case measure=>omega
  ·have D: ¬(j:Int)<(q:Int):=by omega
   go_wp2
   go_ret
   refine⟨⟨_,rfl,?_⟩,H.out⟩
   rw[←J.out,zth f (by omega)]
   rfl
theorem ztj (base g q:Nat) (f:Nat→Nat) (w:World) (h:w.ownsRow base 3 1 (.slice (some ⟨g,0,none⟩) q q) q (zau q f)) (H:q≤4294967296):
  Calls Tryz.prog 199 #[.slice (some ⟨g,0,none⟩) q q,.func (.func 200) #[] #[]] w fun e E=>e= .returned (.bool (odd q f 0))∧Below w.heap.size w E:=by
 have D:=zc h
 clear h
 go_enter Tryz.func199,Tryz.ntmps199
 go_wp2_with fail
 refine (zti base g q f _ D.out H).mono ?_
 rintro e K ⟨⟨v,rfl,z⟩,A⟩
 have J:=zc z
 have I:=zc A
 clear z A
 go_wp2
 go_ret
 exact⟨zi J.out,I.out⟩
def UM (w0:World) (base:Nat) (S:Sv) (m:Md) (gu:Nat) (f:Nat→Nat) (w:World):Prop:=
 (w.heap[gu]? =some (.cells #[.slice (some ⟨w0.heap.size+1,0,none⟩) m.ex.length m.ex.length] 36 (0,0))∧w0.heap.size+1<gu)∧
 w.ownsRow (w0.heap.size+1) 3 1 (.slice (some ⟨w0.heap.size+1,0,none⟩) m.ex.length m.ex.length) m.ex.length (zau m.ex.length f)∧OwnMd w base S m∧
 w.heap[w0.heap.size]? =some (.cells #[.slice S.rq.a m.rq.length S.rq.cap,.slice S.im.a m.im.length S.im.cap,.slice S.ep.a m.ep.length S.ep.cap,.slice S.st.a m.st.length S.st.cap,.slice S.ex.a m.ex.length S.ex.cap] 54 (0,0))∧Below w0.heap.size w0 w
theorem UM.later {w0 w A:World} {base:Nat} {S:Sv} {m:Md} {H:Nat} {f:Nat→Nat} (h:UM w0 base S m H f w) (q:Below w.heap.size w A):UM w0 base S m H f A:=by
 obtain⟨⟨D,I⟩,K,J,E,z⟩:=h
 exact⟨⟨(q.block _ (Array.getElem?_eq_some_iff.1 D).1).trans D,I⟩,zfT K q,J.later q,(q.block _ (Array.getElem?_eq_some_iff.1 E).1).trans E,z.trans (q.mono z.size)⟩
theorem UM.used {w0 w:World} {base:Nat} {S:Sv} {m:Md} {z:Nat} {f:Nat→Nat} (h:UM w0 base S m z f w) (i:Nat):UM w0 base S m z (zaM f i) (w.setCell ⟨w0.heap.size+1,i,none⟩ (.int .i64 (f i+1:Nat))):=by
 obtain⟨⟨H,D⟩,q,E,I,A⟩:=h
 exact⟨⟨(zx (by omega)).trans H,D⟩,zgT q i _ rfl,zgU E (zgW q),(zx (by omega)).trans I,A.setCell (Nat.le_succ _) _⟩
theorem UM.congr {w0 w:World} {base:Nat} {S:Sv} {m:Md} {q:Nat} {f g:Nat→Nat} (h:UM w0 base S m q f w) (e: ∀k,k<m.ex.length→f k=g k):UM w0 base S m q g w:=by
 obtain⟨D,H,A,E,z⟩:=h
 exact⟨D,by rw[←ze7 e];exact H,A,E,z⟩
theorem zi1 {w0:World} {b0:Nat} {S:Sv} {m:Md} {q:Nat} {f:Nat→Nat} (i:Nat) (n:Int) (w:World) (h:UM w0 b0 S m q f w) (A:f i≤17179869184) (E:i<m.ex.length) (H:(i:Int)<n):
  Calls Tryz.prog 197 #[.int .i64 (i:Int),.int .i64 n,.pointer (some ⟨q,0,none⟩)] w fun e z=>e= .returned (.bool true)∧UM w0 b0 S m q (zaM f i) z∧∀k,k≠w0.heap.size+1→z.heap[k]? =w.heap[k]?:=by
 refine (ztf i m.ex.length (w0.heap.size+1) (w0.heap.size+1) q n f w h.1.1 h.2.1 A E H).mono ?_
 rintro e z ⟨rfl,rfl⟩
 exact⟨rfl,h.used i,fun k D=>zx D⟩
theorem zlG {n:Nat} {f:Nat→Nat}:odd n f 0=false↔∀k,k<n→f k=1:=by
 rw[Bool.eq_false_iff]
 constructor
 ·intro h k q
  by_cases e:f k=1
  ·exact e
  ·exact absurd (by
    simp only[odd,List.any_eq_true,List.mem_range,Bool.and_eq_true,decide_eq_true_eq]
    exact⟨k,q,Nat.zero_le _,by rw[bne_iff_ne];omega⟩) h
 ·intro h e
  simp only[odd,List.any_eq_true,List.mem_range,Bool.and_eq_true,decide_eq_true_eq] at e
  obtain⟨k,q,_,w⟩:=e
  rw[bne_iff_ne] at w
  have:=h k q
  omega
theorem ztk (base:Nat) (S:Sv) (m:Md) (w:World) (h:OwnMd w base S m) (hl:m.ex.length≤4294967296) (hs:m.st.length≤4294967296):
  Calls Tryz.prog 170 #[zl S m] w fun e w'=>zgV m e∧Below w.heap.size w w':=by
 obtain⟨i0,hi,az,aD,aB⟩:=info_parts Tryz.infoInt
 have HH:=zc h
 clear h
 unfold zl
 go_enter Tryz.func170,Tryz.ntmps170
 go_wp2_with (first|(at_make;refine wpList_make_full _ rfl _ _ 36 rfl (w.heap.size+1) 3 i0 (.int .i64 0) 1 Tryz.underlying36 hi az aD .i64 .i64 _ _ m.ex.length (by rfl) (by rfl) rfl rfl (by rw[aB];omega) (by unfold maxLen;omega) (by rw[zg];omega) ?_))
 intro N O I
 rw[zll] at O
 have bb:Below (w.heap.size+1) (w.alloc _) N:=⟨I.os,I.tape,I.output,I.size,fun k J=>I.block k (by rw[zg];exact J) (by simp)⟩
 have X:Hid (Below w.heap.size w N):=((Below.refl _ _).alloc (Nat.le_refl _) _).trans (bb.mono (by omega))
 have ai:Hid (N.heap[w.heap.size]? =some (.cells #[.slice S.rq.a m.rq.length S.rq.cap,.slice S.im.a m.im.length S.im.cap,.slice S.ep.a m.ep.length S.ep.cap,.slice S.st.a m.st.length S.st.cap,.slice S.ex.a m.ex.length S.ex.cap] 54 (0,0))):=(bb.block _ (by omega)).trans (heap_alloc_new w _)
 have av:=zc (HH.out.later X.out)
 have af:Hid (N.ownsRow (w.heap.size+1) 3 1 (.slice (some ⟨w.heap.size+1,0,none⟩) m.ex.length m.ex.length) m.ex.length (zau m.ex.length (cE m.ex 0))):=by show World.ownsRow _ _ _ _ _ _ _;rw[show zau m.ex.length (cE m.ex 0)=zau m.ex.length (fun _=>0) from ze7 fun k _=>by simp[cE,zav]];exact O
 clear O I bb
 have ar:=(zir af.out).2
 go_upto_region 3 with fail
 have HA:Hid (Below N.heap.size N (N.alloc (.cells #[.slice (some ⟨w.heap.size+1,0,none⟩) m.ex.length m.ex.length] 36))):=(Below.refl _ _).alloc (Nat.le_refl _) _
 have hz:=(Array.getElem?_eq_some_iff.1 ai.out).1
 refine zu (R:=UM w base S m N.heap.size (cE m.ex 0)) ⟨⟨heap_alloc_new N _,ar⟩,zfT af.out HA.out,av.out.later HA.out,(HA.out.block _ hz).trans ai.out,X.out.trans (HA.out.mono X.out.size)⟩ ?_
 obtain⟨gu,ak⟩: ∃gu,gu=N.heap.size:=⟨_,rfl⟩
 rw[←ak]
 rw[←ak] at ar
 clear HA ai X av af hz ak N
 intro W q
 have HM:=zc q
 clear q
 obtain⟨c0,c1,c2,c3,c4,cf⟩:=zj HM.out.2.2.2.1
 go_wp2
 go_loopg [17] m.ex.length (fun k i wr=>∃j:Nat,i= .int .i64 j∧j+k=m.ex.length∧AheadTo m.ex j∧UM w base S m gu (cE m.ex j) wr)
 case atStart=>exact⟨0,rfl,by omega,fun i x hi=>absurd hi (Nat.not_lt_zero i),HM.out⟩
 case round=>
  obtain⟨j,rfl,hj,ah,q⟩:=hrel
  have AH:=zc ah
  have E:=zc q
  clear ah q
  clear c0 c1 c2 c3 c4 cf
  obtain⟨c0,c1,c2,c3,c4,cf⟩:=zj E.out.2.2.2.1
  by_cases A:j<m.ex.length
  ·have ax:(j:Int)<(m.ex.length:Int):=by omega
   obtain⟨g,hg,aE,x0,x1,x2,x3,x4,x5⟩:=E.out.2.2.1.expr A
   have HG:Hid (Value.slice S.ex.a m.ex.length S.ex.cap=Value.slice (some ⟨g,0,none⟩) m.ex.length S.ex.cap):=by show _=_;rw[hg]
   clear hg c0 c1 c2 c3 c4 cf
   rw[HG.out]
   have aw:=zc (zen A)
   obtain⟨x,ag⟩: ∃x,m.ex.getD j zh=x:=⟨_,rfl⟩
   rw[ag] at x0 x1 x2 x3 x4 x5
   have L:Hid (m.ex[j]=x):=aw.out.symm.trans ag
   clear ag aw
   obtain⟨U,K⟩: ∃U,U=j+1:=⟨_,rfl⟩
   have ej:(j:Int)+1=(U:Int):=by omega
   have V:=zc K
   clear K
   go_upto_region 6 with fail
   have HW:Hid (Below wr.heap.size wr (wr.alloc (.cells #[.int .i64 x.kind,.int .i64 x.num,.string x.name,.string x.field,.int .i64 x.l,.int .i64 x.r] 100))):=(Below.refl _ _).alloc (Nat.le_refl _) _
   refine zu (R:=fun W=>W.heap[wr.heap.size]? =some (.cells #[.int .i64 x.kind,.int .i64 x.num,.string x.name,.string x.field,.int .i64 x.l,.int .i64 x.r] 100 (0,0))∧UM w base S m gu (cE m.ex j) W) ⟨heap_alloc_new wr _,E.out.later HW.out⟩ ?_
   have aq:wr.heap.size≠w.heap.size+1:=by have:=(zir E.out.2.1).2;omega
   obtain⟨gx,ae⟩: ∃gx,gx=wr.heap.size:=⟨_,rfl⟩
   rw[←ae]
   rw[←ae] at aq
   clear x0 x1 x2 x3 x4 x5 HW
   rintro W ⟨xb,q⟩
   clear ae E
   have XB:=zc xb
   have E:=zc q
   clear xb q
   obtain⟨x0,x1,x2,x3,x4,x5,xf⟩:=zy XB.out
   go_wp2_with fail
   refine (zlE x.kind _).mono ?_
   rintro e w2 ⟨rfl,M⟩
   rw[M]
   clear M w2
   cases ht:zac x.kind with
   |false=>
    go_wp2
    rw[←HG.out]
    go_roundg (gk-1)
    case rel=>exact⟨U,rfl,by have:=V.out;omega,by rw[V.out];exact AH.out.next A (fun k=>by rw[L.out,ht] at k;cases k),by rw[V.out];exact E.out.congr fun k _=>zlj A (by rw[L.out];exact ht) k⟩
    case measure=>omega
   |true=>
    go_wp2_with fail
    by_cases a1:0≤x.l∧x.l<(j:Int)
    ·obtain⟨ln,ad⟩: ∃ln:Nat,x.l=(ln:Int):=⟨x.l.toNat,by omega⟩
     have am:=zgR (m.ex.take j)
     have au:(m.ex.take j).length≤4294967296:=by rw[List.length_take];omega
     rw[ad]
     refine (zi1 (w0:=w) (b0:=base) (S:=S) (m:=m) (f:=cE m.ex j) ln (j:Int) W E.out (by have:=am (ln:Int);unfold cE;omega) (by omega) (by omega)).mono ?_
     rintro e W2 ⟨rfl,aa,J⟩
     have z:=zc aa
     have aC:=zc ((J gx aq).trans XB.out)
     clear aa J x0 x1 x2 x3 x4 x5 xf
     obtain⟨x0,x1,x2,x3,x4,x5,xf⟩:=zy aC.out
     go_wp2_with fail
     by_cases a2:0≤x.r∧x.r<(j:Int)
     ·obtain⟨rn,ab⟩: ∃rn:Nat,x.r=(rn:Int):=⟨x.r.toNat,by omega⟩
      rw[ab]
      refine (zi1 (w0:=w) (b0:=base) (S:=S) (m:=m) (f:=zaM (cE m.ex j) ln) rn (j:Int) W2 z.out (by have:=am (rn:Int);unfold zaM cE;split<;>omega) (by omega) (by omega)).mono ?_
      rintro e W3 ⟨rfl,D,J⟩
      have aj:=zc D
      have ac:Hid (∀k:Nat,zaM (zaM (cE m.ex j) ln) rn k=cE m.ex (j+1) k):=fun k=>by have:=zli A (by rw[L.out];exact ht) (by rw[L.out];omega) (by rw[L.out];omega) k;rw[L.out,ad,ab] at this;exact this
      have aA:Hid (AheadTo m.ex (j+1)):=AH.out.next A (fun _=>by rw[L.out];omega)
      clear D J x0 x1 x2 x3 x4 x5 xf ad ab a1 a2 am au
      go_wp2
      rw[←HG.out]
      go_roundg (gk-1)
      case rel=>exact⟨U,rfl,by have:=V.out;omega,by rw[V.out];exact aA.out,by rw[V.out];exact aj.out.congr fun k _=>ac.out k⟩
      case measure=>omega
     ·refine (zi0 x.r (j:Int) _ W2 a2).mono ?_
      rintro e w3 ⟨rfl,M⟩
      rw[M]
      clear M w3
      go_wp2
      go_ret
      exact⟨zdb (fun (t:Tree m)=>absurd t.ahead (AheadTo.not A (by rw[L.out];exact ht) (by rw[L.out];omega))),z.out.2.2.2.2⟩
    ·refine (zi0 x.l (j:Int) _ W a1).mono ?_
     rintro e w2 ⟨rfl,M⟩
     rw[M]
     clear M w2
     go_wp2
     go_ret
     exact⟨zdb (fun (t:Tree m)=>absurd t.ahead (AheadTo.not A (by rw[L.out];exact ht) (by rw[L.out];omega))),E.out.2.2.2.2⟩
  ·have ax: ¬(j:Int)<(m.ex.length:Int):=by omega
   obtain rfl:j=m.ex.length:=by omega
   have HA:=zc AH.out.all
   have HC:Hid (UM w base S m gu (cS m 0) wr):=E.out.congr fun k _=>by simp[cE,cS,zaP]
   go_wp2
   go_loopg [44] m.st.length (fun k i wr=>∃j:Nat,i= .int .i64 j∧j+k=m.st.length∧(∀s∈m.st.take j,0≤s.expr∧s.expr<(m.ex.length:Int))∧UM w base S m gu (cS m j) wr)
   case atStart=>exact⟨0,rfl,by omega,(fun s hs=>by simp at hs),HC.out⟩
   case round=>
    obtain⟨j,rfl,aF,ah,q⟩:=hrel
    have AS:=zc ah
    have z:=zc q
    clear ah q c0 c1 c2 c3 c4 cf
    obtain⟨c0,c1,c2,c3,c4,cf⟩:=zj z.out.2.2.2.1
    by_cases H:j<m.st.length
    ·have al:(j:Int)<(m.st.length:Int):=by omega
     obtain⟨s,ap⟩: ∃s,m.st[j]? =some s:=⟨_,List.getElem?_eq_getElem H⟩
     obtain⟨g,hg,Y⟩:=OwnR.elem (f:=smL) (m:=3) (fun _=>rfl) z.out.2.2.1.st ap
     have k0:=Y 0 (by omega)
     have k1:=Y 1 (by omega)
     have k2:=Y 2 (by omega)
     simp only[smL,Nat.add_zero,List.getElem?_cons_zero,List.getElem?_cons_succ] at k0 k1 k2
     have HG:Hid (Value.slice S.st.a m.st.length S.st.cap=Value.slice (some ⟨g,0,none⟩) m.st.length S.st.cap):=by show _=_;rw[hg]
     obtain⟨_,Z⟩:=List.getElem?_eq_some_iff.1 ap
     have HS:Hid (m.st[j]=s):=Z
     clear hg Y ap Z
     rw[HG.out]
     obtain⟨U,K⟩: ∃U,U=j+1:=⟨_,rfl⟩
     have ej:(j:Int)+1=(U:Int):=by omega
     have V:=zc K
     clear K
     go_upto_region 12 with fail
     have HW:Hid (Below wr.heap.size wr (wr.alloc (.cells #[.int .i64 s.kind,.string s.name,.int .i64 s.expr] 102))):=(Below.refl _ _).alloc (Nat.le_refl _) _
     refine zu (R:=fun W=>W.heap[wr.heap.size]? =some (.cells #[.int .i64 s.kind,.string s.name,.int .i64 s.expr] 102 (0,0))∧UM w base S m gu (cS m j) W) ⟨heap_alloc_new wr _,z.out.later HW.out⟩ ?_
     clear k0 k1 k2 HW c0 c1 c2 c3 c4 cf
     rintro W ⟨xb,q⟩
     have E:=zc q
     obtain⟨k0,k1,k2,kf⟩:=zo xb
     clear q xb
     obtain⟨c0,c1,c2,c3,c4,cf⟩:=zj E.out.2.2.2.1
     go_wp2_with fail
     by_cases a1:0≤s.expr∧s.expr<(m.ex.length:Int)
     ·obtain⟨en,an⟩: ∃en:Nat,s.expr=(en:Int):=⟨s.expr.toNat,by omega⟩
      have ao:Hid (∀s∈m.st.take (j+1),0≤s.expr∧s.expr<(m.ex.length:Int)):=by
       intro y hy
       rw[List.take_succ_eq_append_getElem H,List.mem_append] at hy
       rcases hy with hy|hy
       ·exact AS.out y hy
       ·simp only[List.mem_singleton] at hy
        rw[hy,HS.out]
        omega
      have ac:Hid (∀k:Nat,zaM (cS m j) en k=cS m (j+1) k):=fun k=>by have:=zlk (ex:=m.ex) H (by rw[HS.out];omega) k;rw[HS.out,an] at this;exact this
      rw[an]
      refine (zi1 (w0:=w) (b0:=base) (S:=S) (m:=m) (f:=cS m j) en _ W E.out (by unfold cS;have:=zgR m.ex (en:Int);have:=zlh (m.st.take j) (en:Int);rw[List.length_take] at this;omega) (by omega) (by omega)).mono ?_
      rintro e W2 ⟨rfl,D,J⟩
      have aj:=zc D
      clear D J k0 k1 k2 kf c0 c1 c2 c3 c4 cf an a1
      go_wp2
      rw[←HG.out]
      go_roundg (gk-1)
      case rel=>exact⟨U,rfl,by have:=V.out;omega,by rw[V.out];exact ao.out,by rw[V.out];exact aj.out.congr fun k _=>ac.out k⟩
      case measure=>omega
     ·refine (zi0 s.expr _ _ W a1).mono ?_
      rintro e w3 ⟨rfl,M⟩
      rw[M]
      clear M w3
      go_wp2
      go_ret
      exact⟨zdb (fun (t:Tree m)=>by have:=t.stm _ (List.getElem_mem H);rw[HS.out] at this;omega),E.out.2.2.2.2⟩
    ·have al: ¬(j:Int)<(m.st.length:Int):=by omega
     obtain rfl:j=m.st.length:=by omega
     have ao:Hid (∀s∈m.st,0≤s.expr∧s.expr<(m.ex.length:Int)):=by have:=AS.out;rw[List.take_length] at this;exact this
     obtain⟨t0,tf⟩:=zlF z.out.1.1
     go_wp2_with fail
     refine (ztj (w.heap.size+1) (w.heap.size+1) m.ex.length (cS m m.st.length) _ z.out.2.1 hl).mono ?_
     rintro e w3 ⟨rfl,hb⟩
     have ay:Hid (Below w.heap.size w w3):=z.out.2.2.2.2.trans (hb.mono z.out.2.2.2.2.size)
     clear hb
     cases ho:odd m.ex.length (cS m m.st.length) 0 with
     |true=>
      go_wp2
      go_ret
      exact⟨zdb (fun (t:Tree m)=>by
       have:=zlG.2 (fun k J=>by have:=t.once k J;show cS m m.st.length k=1;unfold cS;rw[List.take_length];omega)
       rw[ho] at this
       cases this),ay.out⟩
     |false=>
      go_wp2
      go_ret
      exact⟨zlm ⟨HA.out,ao.out,fun k J=>by have:=zlG.1 ho k J;unfold cS at this;rw[List.take_length] at this;exact this⟩,ay.out⟩
def zlH (c:ByteArray):Nat→List ByteArray
 |0=>[]
 |k+1=>(if bt c (k+1)=47 then [c.extract 0 (k+1)] else [])++zlH c k
def upC (c:ByteArray):List ByteArray:=zlH c (c.size-1)++if 1<c.size then [{data:=#[47]}] else []
def upL (p:ByteArray):List ByteArray:=upC (zaL p)
theorem zdJ {p:Prop} (h:p):Hid p:=h
end Go.Proofs.YtgcbmogmniahjaaGreat
