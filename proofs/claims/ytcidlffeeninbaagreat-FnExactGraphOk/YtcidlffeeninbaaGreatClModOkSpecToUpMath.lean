/-
  What spec.ModOk answers: the walk.
  What impl's isSum,hasSides and the closure that counts a use answer: the walks.
  What areExprsUsedOnce answers: the walk.
  The directories that a path is in,as a plain function. No program is spoken of.
-/
import Derived.Test.YtcidlffeeninbaaGreatClSpecParseMToSpecParseR
namespace Go.Proofs.YtcidlffeeninbaaGreat
set_option maxRecDepth 100000
set_option maxHeartbeats 6400000
open Go.RowKit Go.PlainAid Go.Sort
theorem zrW (A:Nat) (S:Sv) (m:Md) (I:Bool) (w:World) (h:OwnMd w A S m) (hm:Small m) (V:Tree m→(zcd m).size≤4294967296):
  Calls Tryz.prog 15 #[zn S m,.bool I] w fun e w'=>zgo (zcd m) m I e∧Below w.heap.size w w':=by
 have HH:=zc h
 have SM:=zc hm
 have HU:=zc V
 have SF:Hid (zdB m):=hm.few
 clear h hm V
 unfold zn
 go_enter Tryz.func15,Tryz.ntmps15
 go_upto_region 1 with fail
 have J:Hid (Below w.heap.size w (w.alloc (.cells #[.slice S.rq.a m.rq.length S.rq.cap,.slice S.im.a m.im.length S.im.cap,.slice S.ep.a m.ep.length S.ep.cap,.slice S.st.a m.st.length S.st.cap,.slice S.ex.a m.ex.length S.ex.cap] 48))):=(Below.refl _ _).alloc (Nat.le_refl _) _
 refine zx (R:=fun W=>W.heap[w.heap.size]? =some (.cells #[.slice S.rq.a m.rq.length S.rq.cap,.slice S.im.a m.im.length S.im.cap,.slice S.ep.a m.ep.length S.ep.cap,.slice S.st.a m.st.length S.st.cap,.slice S.ex.a m.ex.length S.ex.cap] 48 (0,0))∧OwnMd W A S m∧Below w.heap.size w W) ⟨heap_alloc_new w _,HH.out.later J.out,J.out⟩ ?_
 obtain⟨gx,N⟩: ∃gx,gx=w.heap.size:=⟨_,rfl⟩
 rw[←N]
 rintro w1 ⟨hx,ho,D⟩
 rw[N] at D
 clear N J HH
 have X1:=zc hx
 have O1:=zc ho
 have aa:=zc D
 clear hx ho D
 obtain⟨c0,c1,c2,c3,c4,cf⟩:=zk X1.out
 go_wp2_with fail
 refine (zqK A S m I w1 O1.out SM.out (fun t=>Nat.le_trans (HU.out t) (by omega))).mono ?_
 rintro e w2 ⟨E,D⟩
 obtain⟨t,M,rfl⟩:=E.form
 have PR:=zc M
 have ht:=M.size HU.out
 have X2:=zc ((D.block _ (Array.getElem?_eq_some_iff.1 X1.out).1).trans X1.out)
 have O2:=zc (O1.out.later D)
 have Y:=zc (aa.out.trans (D.mono aa.out.size))
 clear E M D c0 c1 c2 c3 c4 cf
 go_wp2_with fail
 refine (zrV t I w2 ht).mono ?_
 rintro e U ⟨E,D⟩
 have X3:=zc ((D.block _ (Array.getElem?_eq_some_iff.1 X2.out).1).trans X2.out)
 have O3:=zc (O2.out.later D)
 have H:=zc (Y.out.trans (D.mono Y.out.size))
 clear D
 rcases E.md with ⟨q,z,n,Z,hn,rfl,K,L⟩|⟨p,Z,rfl⟩
 ·have OK:=zc (zj4 (m:=m) Z hn)
  have O4:=zc K
  have NF:=zc L
  clear E Z hn K L
  unfold zn
  go_upto_region 2 with fail
  have J:Hid (Below U.heap.size U (U.alloc (.cells #[.slice z.rq.a n.rq.length z.rq.cap,.slice z.im.a n.im.length z.im.cap,.slice z.ep.a n.ep.length z.ep.cap,.slice z.st.a n.st.length z.st.cap,.slice z.ex.a n.ex.length z.ex.cap] 48))):=(Below.refl _ _).alloc (Nat.le_refl _) _
  refine zx (R:=fun W=>W.heap[gx]? =some (.cells #[.slice S.rq.a m.rq.length S.rq.cap,.slice S.im.a m.im.length S.im.cap,.slice S.ep.a m.ep.length S.ep.cap,.slice S.st.a m.st.length S.st.cap,.slice S.ex.a m.ex.length S.ex.cap] 48 (0,0))∧W.heap[U.heap.size]? =some (.cells #[.slice z.rq.a n.rq.length z.rq.cap,.slice z.im.a n.im.length z.im.cap,.slice z.ep.a n.ep.length z.ep.cap,.slice z.st.a n.st.length z.st.cap,.slice z.ex.a n.ex.length z.ex.cap] 48 (0,0))∧OwnMd W A S m∧OwnMd W w2.heap.size z n∧Below w.heap.size w W) ⟨(J.out.block _ (Array.getElem?_eq_some_iff.1 X3.out).1).trans X3.out,heap_alloc_new U _,O3.out.later J.out,O4.out.later J.out,H.out.trans (J.out.mono H.out.size)⟩ ?_
  obtain⟨gy,X⟩: ∃gy,gy=U.heap.size:=⟨_,rfl⟩
  rw[←X]
  intro w4 h4
  have O:=zc h4
  clear h4 X J X3 O3 O4 H
  obtain⟨c0,c1,c2,c3,c4,cf⟩:=zk O.out.1
  obtain⟨d0,d1,d2,d3,d4,df⟩:=zk O.out.2.1
  go_wp2_with fail
  refine ((zqi zkk zkl zkm zkn zko zkp zkq zkr w2.heap.size A z S n m _ O.out.2.2.2.1 O.out.2.2.1 NF.out)).mono ?_
  rintro e w5 ⟨⟨r,rfl,hr⟩,D⟩
  have HR:=zc hr
  have ab:=zc (O.out.2.2.2.2.trans (D.mono O.out.2.2.2.2.size))
  clear hr D c0 c1 c2 c3 c4 cf d0 d1 d2 d3 d4 df
  go_wp2
  go_ret
  exact⟨⟨t,PR.out,r,rfl,HR.out.trans OK.out.symm⟩,ab.out⟩
 ·have NO:=zc (zj3 (m:=m) Z)
  clear E Z
  go_wp2
  go_ret
  exact⟨⟨t,PR.out,false,rfl,⟨fun k=>(by cases k),fun k=>absurd k NO.out⟩⟩,(H.out.alloc H.out.size _)⟩
theorem zfB (k:Int) (w:World):Calls Tryz.prog 187 #[.int .i64 k] w fun e h=>e= .returned (.bool (k==6||k==7))∧h=w:=by
 cases z:(k==6) with
 |true=>
  go_enter Tryz.func187,Tryz.ntmps187
  go_wp2
  go_ret
  exact⟨rfl,rfl⟩
 |false=>
  cases q:(k==7) with
  |true=>
   go_enter Tryz.func187,Tryz.ntmps187
   go_wp2
   go_ret
   exact⟨rfl,rfl⟩
  |false=>
   go_enter Tryz.func187,Tryz.ntmps187
   go_wp2
   go_ret
   exact⟨rfl,rfl⟩
theorem zkT (k:Int) (w:World):Calls Tryz.prog 159 #[.int .i64 k] w fun e D=>e= .returned (.bool (zZ k))∧D=w:=by
 cases h:(k==6||k==7) with
 |true=>
  have q:Hid (zZ k=true):=by show _=_;rw[zZ,h];rfl
  go_enter Tryz.func159,Tryz.ntmps159
  go_wp2_with fail
  refine (zfB k _).mono ?_
  rintro e z ⟨rfl,rfl⟩
  rw[h]
  go_wp2
  go_ret
  exact⟨zh q.out.symm,rfl⟩
 |false=>
  cases A:(k==8) with
  |true=>
   have q:Hid (zZ k=true):=by show _=_;rw[zZ,h,A];rfl
   go_enter Tryz.func159,Tryz.ntmps159
   go_wp2_with fail
   refine (zfB k _).mono ?_
   rintro e z ⟨rfl,rfl⟩
   rw[h]
   go_wp2
   go_ret
   exact⟨zh q.out.symm,rfl⟩
  |false=>
   have q:Hid (zZ k=false):=by show _=_;rw[zZ,h,A];rfl
   go_enter Tryz.func159,Tryz.ntmps159
   go_wp2_with fail
   refine (zfB k _).mono ?_
   rintro e z ⟨rfl,rfl⟩
   rw[h]
   go_wp2
   go_ret
   exact⟨zh q.out.symm,rfl⟩
theorem zrX (k:Int) (w:World):Calls Tryz.prog 161 #[.int .i64 k] w fun e h=>e= .returned (.bool (k !=1))∧h=w:=by
 go_enter Tryz.func161,Tryz.ntmps161
 go_wp2
 go_ret
 exact⟨rfl,rfl⟩
theorem zkU {w:World} {b:Nat} {t:TypeId} {q:Value} (h:w.heap[b]? =some (.cells #[q] t (0,0))):w.cell? ⟨b,0,none⟩=some q∧∀i,w.frozen? ⟨b,i,none⟩=false:=by
 refine⟨?_,fun i=>?_⟩<;>simp[World.cell?,World.frozen?,h]
theorem zhT (i n:Int) (u:Value) (w:World) (h: ¬(0≤i∧i<n)):
  Calls Tryz.prog 158 #[.int .i64 i,.int .i64 n,u] w fun e q=>e= .returned (.bool false)∧q=w:=by
 by_cases A:i<0
 ·go_enter Tryz.func158,Tryz.ntmps158
  go_wp2
  go_ret
  exact⟨rfl,rfl⟩
 ·have z:n≤i:=by omega
  clear h
  go_enter Tryz.func158,Tryz.ntmps158
  go_wp2
  go_ret
  exact⟨rfl,rfl⟩
theorem zrY (i q D g K:Nat) (n:Int) (f:Nat→Nat) (w:World) (I:w.heap[K]? =some (.cells #[.slice (some ⟨g,0,none⟩) q q] 59 (0,0))) (h:w.ownsRow D 3 1 (.slice (some ⟨g,0,none⟩) q q) q (zas q f)) (U:f i≤17179869184) (hi:i<q) (Z:(i:Int)<n):
  Calls Tryz.prog 158 #[.int .i64 (i:Int),.int .i64 n,.pointer (some ⟨K,0,none⟩)] w fun e L=>e= .returned (.bool true)∧L=w.setCell ⟨g,i,none⟩ (.int .i64 (f i+1:Nat)):=by
 have V: ¬(i:Int)<0:=by omega
 have Y: ¬n≤(i:Int):=by omega
 have N:(i:Int)<(q:Int):=by omega
 obtain⟨s0,sf⟩:=zkU I
 obtain⟨J,z⟩: ∃v,f i=v:=⟨_,rfl⟩
 have M:=zeO h (k:=i) (by omega)
 have X:=h.frozenAt
 rw[z] at M U
 rw[z]
 obtain⟨E,A⟩: ∃u,u=J+1:=⟨_,rfl⟩
 have O:(J:Int)+1=(E:Int):=by omega
 have H:IntKind.i64.wrap (E:Int)=(E:Int):=IntWalk.i64_in _ ⟨by omega,by omega⟩
 rw[←A]
 clear I h z A
 go_enter Tryz.func158,Tryz.ntmps158
 go_wp2
 go_ret
 exact⟨rfl,rfl⟩
def odd (n:Nat) (f:Nat→Nat) (j:Nat):Bool:=(List.range n).any fun k=>decide (j≤k)&&((f k:Int) !=1)
theorem zrZ {n:Nat} {f:Nat→Nat} {j:Nat} (z:j<n):odd n f j=(((f j:Int) !=1)||odd n f (j+1)):=by
 rw[Bool.eq_iff_iff,Bool.or_eq_true]
 simp only[odd,List.any_eq_true,List.mem_range,Bool.and_eq_true,decide_eq_true_eq]
 constructor
 ·rintro⟨k,w,q,h⟩
  by_cases e:k=j
  ·exact .inl (e▸h)
  ·exact .inr ⟨k,w,by omega,h⟩
 ·rintro (h|⟨k,w,q,h⟩)
  ·exact⟨j,z,Nat.le_refl _,h⟩
  ·exact⟨k,w,by omega,h⟩
theorem zsa {n:Nat} (f:Nat→Nat) {j:Nat} (z:n≤j):odd n f j=false:=by
 rw[Bool.eq_false_iff]
 intro h
 simp only[odd,List.any_eq_true,List.mem_range,Bool.and_eq_true,decide_eq_true_eq] at h
 obtain⟨k,w,q,_⟩:=h
 omega
theorem zsb (E g q:Nat) (f:Nat→Nat) (w:World) (h:w.ownsRow E 3 1 (.slice (some ⟨g,0,none⟩) q q) q (zas q f)) (hl:q≤4294967296):
  Calls Tryz.prog 188 #[.slice (some ⟨g,0,none⟩) q q,.func (.func 161) #[] #[]] w fun e Y=>(∃v:Int,e= .returned (.int .i64 v)∧decide (0≤v)=odd q f 0)∧Below w.heap.size w Y:=by
 have HO:=zc h
 clear h
 go_enter Tryz.func188,Tryz.ntmps188
 go_wp2
 go_loopg [8] (q+1) (fun k i wr=>∃j:Nat,i= .int .i64 j∧j+k=q+1∧odd q f j=odd q f 0∧Below w.heap.size w wr)
 case atStart=>exact⟨0,rfl,by omega,rfl,Below.refl _ _⟩
 case round=>
  obtain⟨j,rfl,hj,O,M⟩:=hrel
  have J:=zc O
  have H:=zc M
  clear O M
  by_cases z:j<q
  ·have D:(j:Int)<(q:Int):=by omega
   have Z:=zeO (zf7 HO.out H.out) z
   have L:=zc (zrZ (f:=f) z)
   obtain⟨v,K⟩: ∃v,f j=v:=⟨_,rfl⟩
   rw[K] at Z
   have V:=zc K
   clear K
   obtain⟨I,A⟩: ∃I,I=j+1:=⟨_,rfl⟩
   have ej:(j:Int)+1=(I:Int):=by omega
   have U:=zc A
   clear A
   go_wp2_with fail
   refine (zrX (v:Int) _).mono ?_
   rintro e w1 ⟨rfl,X⟩
   rw[X]
   clear X w1
   cases N:((v:Int) !=1) with
   |true=>
    go_wp2
    go_ret
    refine⟨⟨_,rfl,?_⟩,H.out⟩
    rw[←J.out,L.out,V.out,N]
    simp
   |false=>
    go_wp2
    go_roundg (gk-1)
    case rel=>
     refine⟨I,rfl,by have:=U.out;omega,?_,H.out⟩
     rw[←J.out,L.out,V.out,N,U.out]
     simp
    case measure=>omega
  ·have D: ¬(j:Int)<(q:Int):=by omega
   go_wp2
   go_ret
   refine⟨⟨_,rfl,?_⟩,H.out⟩
   rw[←J.out,zsa f (by omega)]
   rfl
theorem zsc (z g q:Nat) (f:Nat→Nat) (w:World) (h:w.ownsRow z 3 1 (.slice (some ⟨g,0,none⟩) q q) q (zas q f)) (E:q≤4294967296):
  Calls Tryz.prog 160 #[.slice (some ⟨g,0,none⟩) q q,.func (.func 161) #[] #[]] w fun e H=>e= .returned (.bool (odd q f 0))∧Below w.heap.size w H:=by
 have K:=zc h
 clear h
 go_enter Tryz.func160,Tryz.ntmps160
 go_wp2_with fail
 refine (zsb z g q f _ K.out E).mono ?_
 rintro e L ⟨⟨v,rfl,A⟩,D⟩
 have I:=zc A
 have J:=zc D
 clear A D
 go_wp2
 go_ret
 exact⟨zh I.out,J.out⟩
def UM (w0:World) (base:Nat) (S:Sv) (m:Md) (gu:Nat) (f:Nat→Nat) (w:World):Prop:=
 (w.heap[gu]? =some (.cells #[.slice (some ⟨w0.heap.size+1,0,none⟩) m.ex.length m.ex.length] 59 (0,0))∧w0.heap.size+1<gu)∧
 w.ownsRow (w0.heap.size+1) 3 1 (.slice (some ⟨w0.heap.size+1,0,none⟩) m.ex.length m.ex.length) m.ex.length (zas m.ex.length f)∧OwnMd w base S m∧
 w.heap[w0.heap.size]? =some (.cells #[.slice S.rq.a m.rq.length S.rq.cap,.slice S.im.a m.im.length S.im.cap,.slice S.ep.a m.ep.length S.ep.cap,.slice S.st.a m.st.length S.st.cap,.slice S.ex.a m.ex.length S.ex.cap] 48 (0,0))∧Below w0.heap.size w0 w
theorem UM.later {w0 w A:World} {q:Nat} {S:Sv} {m:Md} {I:Nat} {f:Nat→Nat} (h:UM w0 q S m I f w) (z:Below w.heap.size w A):UM w0 q S m I f A:=by
 obtain⟨⟨D,K⟩,J,L,E,H⟩:=h
 exact⟨⟨(z.block _ (Array.getElem?_eq_some_iff.1 D).1).trans D,K⟩,zf7 J z,L.later z,(z.block _ (Array.getElem?_eq_some_iff.1 E).1).trans E,H.trans (z.mono H.size)⟩
theorem UM.used {w0 w:World} {q:Nat} {S:Sv} {m:Md} {A:Nat} {f:Nat→Nat} (h:UM w0 q S m A f w) (i:Nat):UM w0 q S m A (zaJ f i) (w.setCell ⟨w0.heap.size+1,i,none⟩ (.int .i64 (f i+1:Nat))):=by
 obtain⟨⟨D,E⟩,z,H,I,J⟩:=h
 exact⟨⟨(zv (by omega)).trans D,E⟩,zg4 z i _ rfl,zg5 H (zg7 z),(zv (by omega)).trans I,J.setCell (Nat.le_succ _) _⟩
theorem UM.congr {w0 w:World} {q:Nat} {S:Sv} {m:Md} {z:Nat} {f g:Nat→Nat} (h:UM w0 q S m z f w) (e: ∀k,k<m.ex.length→f k=g k):UM w0 q S m z g w:=by
 obtain⟨D,A,E,H,I⟩:=h
 exact⟨D,by rw[←zep e];exact A,E,H,I⟩
theorem zhU {w0:World} {b0:Nat} {S:Sv} {m:Md} {q:Nat} {f:Nat→Nat} (i:Nat) (n:Int) (w:World) (h:UM w0 b0 S m q f w) (H:f i≤17179869184) (D:i<m.ex.length) (A:(i:Int)<n):
  Calls Tryz.prog 158 #[.int .i64 (i:Int),.int .i64 n,.pointer (some ⟨q,0,none⟩)] w fun e z=>e= .returned (.bool true)∧UM w0 b0 S m q (zaJ f i) z∧∀k,k≠w0.heap.size+1→z.heap[k]? =w.heap[k]?:=by
 refine (zrY i m.ex.length (w0.heap.size+1) (w0.heap.size+1) q n f w h.1.1 h.2.1 H D A).mono ?_
 rintro e z ⟨rfl,rfl⟩
 exact⟨rfl,h.used i,fun k E=>zv E⟩
theorem zkV {n:Nat} {f:Nat→Nat}:odd n f 0=false↔∀k,k<n→f k=1:=by
 rw[Bool.eq_false_iff]
 constructor
 ·intro h k q
  by_cases e:f k=1
  ·exact e
  ·exact absurd (by
    simp only[odd,List.any_eq_true,List.mem_range,Bool.and_eq_true,decide_eq_true_eq]
    exact⟨k,q,Nat.zero_le _,by rw[bne_iff_ne];omega⟩) h
 ·intro h e
  simp only[odd,List.any_eq_true,List.mem_range,Bool.and_eq_true,decide_eq_true_eq] at e
  obtain⟨k,q,_,w⟩:=e
  rw[bne_iff_ne] at w
  have:=h k q
  omega
theorem zsd (q:Nat) (S:Sv) (m:Md) (w:World) (h:OwnMd w q S m) (hl:m.ex.length≤4294967296) (hs:m.st.length≤4294967296):
  Calls Tryz.prog 111 #[zn S m] w fun e w'=>zg6 m e∧Below w.heap.size w w':=by
 obtain⟨i0,hi,aD,aC,aB⟩:=info_parts Tryz.infoInt
 have HH:=zc h
 clear h
 unfold zn
 go_enter Tryz.func111,Tryz.ntmps111
 go_wp2_with (first|(at_make;refine wpList_make_full _ rfl _ _ 59 rfl (w.heap.size+1) 3 i0 (.int .i64 0) 1 Tryz.underlying59 hi aD aC .i64 .i64 _ _ m.ex.length (by rfl) (by rfl) rfl rfl (by rw[aB];omega) (by unfold maxLen;omega) (by rw[zg];omega) ?_))
 intro U O J
 rw[zk2] at O
 have bb:Below (w.heap.size+1) (w.alloc _) U:=⟨J.os,J.tape,J.output,J.size,fun k K=>J.block k (by rw[zg];exact K) (by simp)⟩
 have Y:Hid (Below w.heap.size w U):=((Below.refl _ _).alloc (Nat.le_refl _) _).trans (bb.mono (by omega))
 have ae:Hid (U.heap[w.heap.size]? =some (.cells #[.slice S.rq.a m.rq.length S.rq.cap,.slice S.im.a m.im.length S.im.cap,.slice S.ep.a m.ep.length S.ep.cap,.slice S.st.a m.st.length S.st.cap,.slice S.ex.a m.ex.length S.ex.cap] 48 (0,0))):=(bb.block _ (by omega)).trans (heap_alloc_new w _)
 have aw:=zc (HH.out.later Y.out)
 have ao:Hid (U.ownsRow (w.heap.size+1) 3 1 (.slice (some ⟨w.heap.size+1,0,none⟩) m.ex.length m.ex.length) m.ex.length (zas m.ex.length (cE m.ex 0))):=by show World.ownsRow _ _ _ _ _ _ _;rw[show zas m.ex.length (cE m.ex 0)=zas m.ex.length (fun _=>0) from zep fun k _=>by simp[cE,zat]];exact O
 clear O J bb
 have az:=(zhK ao.out).2
 go_upto_region 3 with fail
 have HA:Hid (Below U.heap.size U (U.alloc (.cells #[.slice (some ⟨w.heap.size+1,0,none⟩) m.ex.length m.ex.length] 59))):=(Below.refl _ _).alloc (Nat.le_refl _) _
 have hz:=(Array.getElem?_eq_some_iff.1 ae.out).1
 refine zx (R:=UM w q S m U.heap.size (cE m.ex 0)) ⟨⟨heap_alloc_new U _,az⟩,zf7 ao.out HA.out,aw.out.later HA.out,(HA.out.block _ hz).trans ae.out,Y.out.trans (HA.out.mono Y.out.size)⟩ ?_
 obtain⟨gu,ac⟩: ∃gu,gu=U.heap.size:=⟨_,rfl⟩
 rw[←ac]
 rw[←ac] at az
 clear HA ae Y aw ao hz ac U
 intro W z
 have HM:=zc z
 clear z
 obtain⟨c0,c1,c2,c3,c4,cf⟩:=zk HM.out.2.2.2.1
 go_wp2
 go_loopg [17] m.ex.length (fun k i wr=>∃j:Nat,i= .int .i64 j∧j+k=m.ex.length∧AheadTo m.ex j∧UM w q S m gu (cE m.ex j) wr)
 case atStart=>exact⟨0,rfl,by omega,fun i x hi=>absurd hi (Nat.not_lt_zero i),HM.out⟩
 case round=>
  obtain⟨j,rfl,hj,ah,z⟩:=hrel
  have AH:=zc ah
  have I:=zc z
  clear ah z
  clear c0 c1 c2 c3 c4 cf
  obtain⟨c0,c1,c2,c3,c4,cf⟩:=zk I.out.2.2.2.1
  by_cases E:j<m.ex.length
  ·have ay:(j:Int)<(m.ex.length:Int):=by omega
   obtain⟨g,hg,aG,x0,x1,x2,x3,x4,x5⟩:=I.out.2.2.1.expr E
   have HG:Hid (Value.slice S.ex.a m.ex.length S.ex.cap=Value.slice (some ⟨g,0,none⟩) m.ex.length S.ex.cap):=by show _=_;rw[hg]
   clear hg c0 c1 c2 c3 c4 cf
   rw[HG.out]
   have ax:=zc (zdT E)
   obtain⟨x,ad⟩: ∃x,m.ex.getD j zi=x:=⟨_,rfl⟩
   rw[ad] at x0 x1 x2 x3 x4 x5
   have M:Hid (m.ex[j]=x):=ax.out.symm.trans ad
   clear ad ax
   obtain⟨V,N⟩: ∃V,V=j+1:=⟨_,rfl⟩
   have ej:(j:Int)+1=(V:Int):=by omega
   have X:=zc N
   clear N
   go_upto_region 6 with fail
   have HW:Hid (Below wr.heap.size wr (wr.alloc (.cells #[.int .i64 x.kind,.int .i64 x.num,.string x.name,.string x.field,.int .i64 x.l,.int .i64 x.r] 85))):=(Below.refl _ _).alloc (Nat.le_refl _) _
   refine zx (R:=fun W=>W.heap[wr.heap.size]? =some (.cells #[.int .i64 x.kind,.int .i64 x.num,.string x.name,.string x.field,.int .i64 x.l,.int .i64 x.r] 85 (0,0))∧UM w q S m gu (cE m.ex j) W) ⟨heap_alloc_new wr _,I.out.later HW.out⟩ ?_
   have av:wr.heap.size≠w.heap.size+1:=by have:=(zhK I.out.2.1).2;omega
   obtain⟨gx,al⟩: ∃gx,gx=wr.heap.size:=⟨_,rfl⟩
   rw[←al]
   rw[←al] at av
   clear x0 x1 x2 x3 x4 x5 HW
   rintro W ⟨xb,z⟩
   clear al I
   have XB:=zc xb
   have I:=zc z
   clear xb z
   obtain⟨x0,x1,x2,x3,x4,x5,xf⟩:=zw XB.out
   go_wp2_with fail
   refine (zkT x.kind _).mono ?_
   rintro e w2 ⟨rfl,L⟩
   rw[L]
   clear L w2
   cases ht:zZ x.kind with
   |false=>
    go_wp2
    rw[←HG.out]
    go_roundg (gk-1)
    case rel=>exact⟨V,rfl,by have:=X.out;omega,by rw[X.out];exact AH.out.next E (fun k=>by rw[M.out,ht] at k;cases k),by rw[X.out];exact I.out.congr fun k _=>zk0 E (by rw[M.out];exact ht) k⟩
    case measure=>omega
   |true=>
    go_wp2_with fail
    by_cases a1:0≤x.l∧x.l<(j:Int)
    ·obtain⟨ln,ag⟩: ∃ln:Nat,x.l=(ln:Int):=⟨x.l.toNat,by omega⟩
     have af:=zg2 (m.ex.take j)
     have au:(m.ex.take j).length≤4294967296:=by rw[List.length_take];omega
     rw[ag]
     refine (zhU (w0:=w) (b0:=q) (S:=S) (m:=m) (f:=cE m.ex j) ln (j:Int) W I.out (by have:=af (ln:Int);unfold cE;omega) (by omega) (by omega)).mono ?_
     rintro e W2 ⟨rfl,aa,K⟩
     have A:=zc aa
     have aE:=zc ((K gx av).trans XB.out)
     clear aa K x0 x1 x2 x3 x4 x5 xf
     obtain⟨x0,x1,x2,x3,x4,x5,xf⟩:=zw aE.out
     go_wp2_with fail
     by_cases a2:0≤x.r∧x.r<(j:Int)
     ·obtain⟨rn,aj⟩: ∃rn:Nat,x.r=(rn:Int):=⟨x.r.toNat,by omega⟩
      rw[aj]
      refine (zhU (w0:=w) (b0:=q) (S:=S) (m:=m) (f:=zaJ (cE m.ex j) ln) rn (j:Int) W2 A.out (by have:=af (rn:Int);unfold zaJ cE;split<;>omega) (by omega) (by omega)).mono ?_
      rintro e W3 ⟨rfl,D,K⟩
      have ai:=zc D
      have am:Hid (∀k:Nat,zaJ (zaJ (cE m.ex j) ln) rn k=cE m.ex (j+1) k):=fun k=>by have:=zkz E (by rw[M.out];exact ht) (by rw[M.out];omega) (by rw[M.out];omega) k;rw[M.out,ag,aj] at this;exact this
      have aA:Hid (AheadTo m.ex (j+1)):=AH.out.next E (fun _=>by rw[M.out];omega)
      clear D K x0 x1 x2 x3 x4 x5 xf ag aj a1 a2 af au
      go_wp2
      rw[←HG.out]
      go_roundg (gk-1)
      case rel=>exact⟨V,rfl,by have:=X.out;omega,by rw[X.out];exact aA.out,by rw[X.out];exact ai.out.congr fun k _=>am.out k⟩
      case measure=>omega
     ·refine (zhT x.r (j:Int) _ W2 a2).mono ?_
      rintro e w3 ⟨rfl,L⟩
      rw[L]
      clear L w3
      go_wp2
      go_ret
      exact⟨zcR (fun (t:Tree m)=>absurd t.ahead (AheadTo.not E (by rw[M.out];exact ht) (by rw[M.out];omega))),A.out.2.2.2.2⟩
    ·refine (zhT x.l (j:Int) _ W a1).mono ?_
     rintro e w2 ⟨rfl,L⟩
     rw[L]
     clear L w2
     go_wp2
     go_ret
     exact⟨zcR (fun (t:Tree m)=>absurd t.ahead (AheadTo.not E (by rw[M.out];exact ht) (by rw[M.out];omega))),I.out.2.2.2.2⟩
  ·have ay: ¬(j:Int)<(m.ex.length:Int):=by omega
   obtain rfl:j=m.ex.length:=by omega
   have HA:=zc AH.out.all
   have HC:Hid (UM w q S m gu (cS m 0) wr):=I.out.congr fun k _=>by simp[cE,cS,zaL]
   go_wp2
   go_loopg [44] m.st.length (fun k i wr=>∃j:Nat,i= .int .i64 j∧j+k=m.st.length∧(∀s∈m.st.take j,0≤s.expr∧s.expr<(m.ex.length:Int))∧UM w q S m gu (cS m j) wr)
   case atStart=>exact⟨0,rfl,by omega,(fun s hs=>by simp at hs),HC.out⟩
   case round=>
    obtain⟨j,rfl,aF,ah,z⟩:=hrel
    have AS:=zc ah
    have A:=zc z
    clear ah z c0 c1 c2 c3 c4 cf
    obtain⟨c0,c1,c2,c3,c4,cf⟩:=zk A.out.2.2.2.1
    by_cases H:j<m.st.length
    ·have an:(j:Int)<(m.st.length:Int):=by omega
     obtain⟨s,ap⟩: ∃s,m.st[j]? =some s:=⟨_,List.getElem?_eq_getElem H⟩
     obtain⟨g,hg,Z⟩:=OwnR.elem (f:=smL) (m:=3) (fun _=>rfl) A.out.2.2.1.st ap
     have k0:=Z 0 (by omega)
     have k1:=Z 1 (by omega)
     have k2:=Z 2 (by omega)
     simp only[smL,Nat.add_zero,List.getElem?_cons_zero,List.getElem?_cons_succ] at k0 k1 k2
     have HG:Hid (Value.slice S.st.a m.st.length S.st.cap=Value.slice (some ⟨g,0,none⟩) m.st.length S.st.cap):=by show _=_;rw[hg]
     obtain⟨_,ab⟩:=List.getElem?_eq_some_iff.1 ap
     have HS:Hid (m.st[j]=s):=ab
     clear hg Z ap ab
     rw[HG.out]
     obtain⟨V,N⟩: ∃V,V=j+1:=⟨_,rfl⟩
     have ej:(j:Int)+1=(V:Int):=by omega
     have X:=zc N
     clear N
     go_upto_region 12 with fail
     have HW:Hid (Below wr.heap.size wr (wr.alloc (.cells #[.int .i64 s.kind,.string s.name,.int .i64 s.expr] 87))):=(Below.refl _ _).alloc (Nat.le_refl _) _
     refine zx (R:=fun W=>W.heap[wr.heap.size]? =some (.cells #[.int .i64 s.kind,.string s.name,.int .i64 s.expr] 87 (0,0))∧UM w q S m gu (cS m j) W) ⟨heap_alloc_new wr _,A.out.later HW.out⟩ ?_
     clear k0 k1 k2 HW c0 c1 c2 c3 c4 cf
     rintro W ⟨xb,z⟩
     have I:=zc z
     obtain⟨k0,k1,k2,kf⟩:=zq xb
     clear z xb
     obtain⟨c0,c1,c2,c3,c4,cf⟩:=zk I.out.2.2.2.1
     go_wp2_with fail
     by_cases a1:0≤s.expr∧s.expr<(m.ex.length:Int)
     ·obtain⟨en,ak⟩: ∃en:Nat,s.expr=(en:Int):=⟨s.expr.toNat,by omega⟩
      have aq:Hid (∀s∈m.st.take (j+1),0≤s.expr∧s.expr<(m.ex.length:Int)):=by
       intro y hy
       rw[List.take_succ_eq_append_getElem H,List.mem_append] at hy
       rcases hy with hy|hy
       ·exact AS.out y hy
       ·simp only[List.mem_singleton] at hy
        rw[hy,HS.out]
        omega
      have am:Hid (∀k:Nat,zaJ (cS m j) en k=cS m (j+1) k):=fun k=>by have:=zk1 (ex:=m.ex) H (by rw[HS.out];omega) k;rw[HS.out,ak] at this;exact this
      rw[ak]
      refine (zhU (w0:=w) (b0:=q) (S:=S) (m:=m) (f:=cS m j) en _ W I.out (by unfold cS;have:=zg2 m.ex (en:Int);have:=zky (m.st.take j) (en:Int);rw[List.length_take] at this;omega) (by omega) (by omega)).mono ?_
      rintro e W2 ⟨rfl,D,K⟩
      have ai:=zc D
      clear D K k0 k1 k2 kf c0 c1 c2 c3 c4 cf ak a1
      go_wp2
      rw[←HG.out]
      go_roundg (gk-1)
      case rel=>exact⟨V,rfl,by have:=X.out;omega,by rw[X.out];exact aq.out,by rw[X.out];exact ai.out.congr fun k _=>am.out k⟩
      case measure=>omega
     ·refine (zhT s.expr _ _ W a1).mono ?_
      rintro e w3 ⟨rfl,L⟩
      rw[L]
      clear L w3
      go_wp2
      go_ret
      exact⟨zcR (fun (t:Tree m)=>by have:=t.stm _ (List.getElem_mem H);rw[HS.out] at this;omega),I.out.2.2.2.2⟩
    ·have an: ¬(j:Int)<(m.st.length:Int):=by omega
     obtain rfl:j=m.st.length:=by omega
     have aq:Hid (∀s∈m.st,0≤s.expr∧s.expr<(m.ex.length:Int)):=by have:=AS.out;rw[List.take_length] at this;exact this
     obtain⟨t0,tf⟩:=zkU A.out.1.1
     go_wp2_with fail
     refine (zsc (w.heap.size+1) (w.heap.size+1) m.ex.length (cS m m.st.length) _ A.out.2.1 hl).mono ?_
     rintro e w3 ⟨rfl,hb⟩
     have ar:Hid (Below w.heap.size w w3):=A.out.2.2.2.2.trans (hb.mono A.out.2.2.2.2.size)
     clear hb
     cases ho:odd m.ex.length (cS m m.st.length) 0 with
     |true=>
      go_wp2
      go_ret
      exact⟨zcR (fun (t:Tree m)=>by
       have:=zkV.2 (fun k K=>by have:=t.once k K;show cS m m.st.length k=1;unfold cS;rw[List.take_length];omega)
       rw[ho] at this
       cases this),ar.out⟩
     |false=>
      go_wp2
      go_ret
      exact⟨zk3 ⟨HA.out,aq.out,fun k K=>by have:=zkV.1 ho k K;unfold cS at this;rw[List.take_length] at this;exact this⟩,ar.out⟩
def zkW (c:ByteArray):Nat→List ByteArray
 |0=>[]
 |k+1=>(if bt c (k+1)=47 then [c.extract 0 (k+1)] else [])++zkW c k
def upC (c:ByteArray):List ByteArray:=zkW c (c.size-1)++if 1<c.size then [{data:=#[47]}] else []
def upL (p:ByteArray):List ByteArray:=upC (zaH p)
end Go.Proofs.YtcidlffeeninbaaGreat
