/-
  What spec.ModOk answers: the walk.
  What impl's isSum,hasSides and the closure that counts a use answer: the walks.
  What areExprsUsedOnce answers: the walk.
-/
import Derived.Test.YtjdddblpfbmpaaaGreatClSpecParseMToSpecParseR
namespace Go.Proofs.YtjdddblpfbmpaaaGreat
set_option maxRecDepth 100000
set_option maxHeartbeats 6400000
open Go.RowKit Go.PlainAid Go.Sort
theorem zrV (z:Nat) (S:Sv) (m:Md) (J:Bool) (w:World) (h:OwnMd w z S m) (hm:Small m) (Z:Tree m→(zbY m).size≤4294967296):
  Calls Tryz.prog 7 #[zh S m,.bool J] w fun e w'=>zge (zbY m) m J e∧Below w.heap.size w w':=by
 have HH:=zc h
 have SM:=zc hm
 have HU:=zc Z
 have SF:Hid (zdB m):=hm.few
 clear h hm Z
 unfold zh
 go_enter Tryz.func7,Tryz.ntmps7
 go_upto_region 1 with fail
 have L:Hid (Below w.heap.size w (w.alloc (.cells #[.slice S.rq.a m.rq.length S.rq.cap,.slice S.im.a m.im.length S.im.cap,.slice S.ep.a m.ep.length S.ep.cap,.slice S.st.a m.st.length S.st.cap,.slice S.ex.a m.ex.length S.ex.cap] 36))):=(Below.refl _ _).alloc (Nat.le_refl _) _
 refine zV (R:=fun W=>W.heap[w.heap.size]? =some (.cells #[.slice S.rq.a m.rq.length S.rq.cap,.slice S.im.a m.im.length S.im.cap,.slice S.ep.a m.ep.length S.ep.cap,.slice S.st.a m.st.length S.st.cap,.slice S.ex.a m.ex.length S.ex.cap] 36 (0,0))∧OwnMd W z S m∧Below w.heap.size w W) ⟨heap_alloc_new w _,HH.out.later L.out,L.out⟩ ?_
 obtain⟨gx,U⟩: ∃gx,gx=w.heap.size:=⟨_,rfl⟩
 rw[←U]
 rintro w1 ⟨hx,ho,A⟩
 rw[U] at A
 clear U L HH
 have X1:=zc hx
 have O1:=zc ho
 have aa:=zc A
 clear hx ho A
 obtain⟨c0,c1,c2,c3,c4,cf⟩:=zg X1.out
 go_wp2_with fail
 refine (zqJ z S m J w1 O1.out SM.out (fun t=>Nat.le_trans (HU.out t) (by omega))).mono ?_
 rintro e w2 ⟨H,A⟩
 obtain⟨t,O,rfl⟩:=H.form
 have PR:=zc O
 have ht:=O.size HU.out
 have X2:=zc ((A.block _ (Array.getElem?_eq_some_iff.1 X1.out).1).trans X1.out)
 have O2:=zc (O1.out.later A)
 have ab:=zc (aa.out.trans (A.mono aa.out.size))
 clear H O A c0 c1 c2 c3 c4 cf
 go_wp2_with fail
 refine (zrU t J w2 ht).mono ?_
 rintro e V ⟨H,A⟩
 have X3:=zc ((A.block _ (Array.getElem?_eq_some_iff.1 X2.out).1).trans X2.out)
 have O3:=zc (O2.out.later A)
 have I:=zc (ab.out.trans (A.mono ab.out.size))
 clear A
 rcases H.md with ⟨q,j,n,hy,hn,rfl,M,N⟩|⟨p,hy,rfl⟩
 ·have OK:=zc (zjj (m:=m) hy hn)
  have O4:=zc M
  have NF:=zc N
  clear H hy hn M N
  unfold zh
  go_upto_region 2 with fail
  have L:Hid (Below V.heap.size V (V.alloc (.cells #[.slice j.rq.a n.rq.length j.rq.cap,.slice j.im.a n.im.length j.im.cap,.slice j.ep.a n.ep.length j.ep.cap,.slice j.st.a n.st.length j.st.cap,.slice j.ex.a n.ex.length j.ex.cap] 36))):=(Below.refl _ _).alloc (Nat.le_refl _) _
  refine zV (R:=fun W=>W.heap[gx]? =some (.cells #[.slice S.rq.a m.rq.length S.rq.cap,.slice S.im.a m.im.length S.im.cap,.slice S.ep.a m.ep.length S.ep.cap,.slice S.st.a m.st.length S.st.cap,.slice S.ex.a m.ex.length S.ex.cap] 36 (0,0))∧W.heap[V.heap.size]? =some (.cells #[.slice j.rq.a n.rq.length j.rq.cap,.slice j.im.a n.im.length j.im.cap,.slice j.ep.a n.ep.length j.ep.cap,.slice j.st.a n.st.length j.st.cap,.slice j.ex.a n.ex.length j.ex.cap] 36 (0,0))∧OwnMd W z S m∧OwnMd W w2.heap.size j n∧Below w.heap.size w W) ⟨(L.out.block _ (Array.getElem?_eq_some_iff.1 X3.out).1).trans X3.out,heap_alloc_new V _,O3.out.later L.out,O4.out.later L.out,I.out.trans (L.out.mono I.out.size)⟩ ?_
  obtain⟨gy,Y⟩: ∃gy,gy=V.heap.size:=⟨_,rfl⟩
  rw[←Y]
  intro w4 h4
  have X:=zc h4
  clear h4 Y L X3 O3 O4 I
  obtain⟨c0,c1,c2,c3,c4,cf⟩:=zg X.out.1
  obtain⟨d0,d1,d2,d3,d4,df⟩:=zg X.out.2.1
  go_wp2_with fail
  refine ((zqe zjK zjL zjM zjN zjO zjP zjQ zjR w2.heap.size z j S n m _ X.out.2.2.2.1 X.out.2.2.1 NF.out)).mono ?_
  rintro e w5 ⟨⟨r,rfl,hr⟩,A⟩
  have HR:=zc hr
  have ac:=zc (X.out.2.2.2.2.trans (A.mono X.out.2.2.2.2.size))
  clear hr A c0 c1 c2 c3 c4 cf d0 d1 d2 d3 d4 df
  go_wp2
  go_ret
  exact⟨⟨t,PR.out,r,rfl,HR.out.trans OK.out.symm⟩,ac.out⟩
 ·have NO:=zc (zji (m:=m) hy)
  clear H hy
  go_wp2
  go_ret
  exact⟨⟨t,PR.out,false,rfl,⟨fun k=>(by cases k),fun k=>absurd k NO.out⟩⟩,(I.out.alloc I.out.size _)⟩
theorem zf3 (k:Int) (w:World):Calls Tryz.prog 197 #[.int .i64 k] w fun e w'=>e= .returned (.bool (k==6||k==7))∧w'=w:=by
 cases j:(k==6) with
 |true=>
  go_enter Tryz.func197,Tryz.ntmps197
  go_wp2
  go_ret
  exact⟨rfl,rfl⟩
 |false=>
  cases h:(k==7) with
  |true=>
   go_enter Tryz.func197,Tryz.ntmps197
   go_wp2
   go_ret
   exact⟨rfl,rfl⟩
  |false=>
   go_enter Tryz.func197,Tryz.ntmps197
   go_wp2
   go_ret
   exact⟨rfl,rfl⟩
theorem zk6 (k:Int) (w:World):Calls Tryz.prog 167 #[.int .i64 k] w fun e w'=>e= .returned (.bool (zaa k))∧w'=w:=by
 cases h:(k==6||k==7) with
 |true=>
  have j:Hid (zaa k=true):=by show _=_;rw[zaa,h];rfl
  go_enter Tryz.func167,Tryz.ntmps167
  go_wp2_with fail
  refine (zf3 k _).mono ?_
  rintro e A ⟨rfl,rfl⟩
  rw[h]
  go_wp2
  go_ret
  exact⟨zk j.out.symm,rfl⟩
 |false=>
  cases z:(k==8) with
  |true=>
   have j:Hid (zaa k=true):=by show _=_;rw[zaa,h,z];rfl
   go_enter Tryz.func167,Tryz.ntmps167
   go_wp2_with fail
   refine (zf3 k _).mono ?_
   rintro e A ⟨rfl,rfl⟩
   rw[h]
   go_wp2
   go_ret
   exact⟨zk j.out.symm,rfl⟩
  |false=>
   have j:Hid (zaa k=false):=by show _=_;rw[zaa,h,z];rfl
   go_enter Tryz.func167,Tryz.ntmps167
   go_wp2_with fail
   refine (zf3 k _).mono ?_
   rintro e A ⟨rfl,rfl⟩
   rw[h]
   go_wp2
   go_ret
   exact⟨zk j.out.symm,rfl⟩
theorem zrW (k:Int) (w:World):Calls Tryz.prog 169 #[.int .i64 k] w fun e w'=>e= .returned (.bool (k !=1))∧w'=w:=by
 go_enter Tryz.func169,Tryz.ntmps169
 go_wp2
 go_ret
 exact⟨rfl,rfl⟩
theorem zk7 {w:World} {b:Nat} {t:TypeId} {v0:Value} (h:w.heap[b]? =some (.cells #[v0] t (0,0))):w.cell? ⟨b,0,none⟩=some v0∧∀i,w.frozen? ⟨b,i,none⟩=false:=by
 refine⟨?_,fun i=>?_⟩<;>simp[World.cell?,World.frozen?,h]
theorem zhI (i n:Int) (u:Value) (w:World) (h: ¬(0≤i∧i<n)):
  Calls Tryz.prog 166 #[.int .i64 i,.int .i64 n,u] w fun e w'=>e= .returned (.bool false)∧w'=w:=by
 by_cases j:i<0
 ·go_enter Tryz.func166,Tryz.ntmps166
  go_wp2
  go_ret
  exact⟨rfl,rfl⟩
 ·have z:n≤i:=by omega
  clear h
  go_enter Tryz.func166,Tryz.ntmps166
  go_wp2
  go_ret
  exact⟨rfl,rfl⟩
theorem zrX (i len z g M:Nat) (n:Int) (f:Nat→Nat) (w:World) (L:w.heap[M]? =some (.cells #[.slice (some ⟨g,0,none⟩) len len] 152 (0,0))) (h:w.ownsRow z 3 1 (.slice (some ⟨g,0,none⟩) len len) len (zas len f)) (O:f i≤17179869184) (hi:i<len) (hn:(i:Int)<n):
  Calls Tryz.prog 166 #[.int .i64 (i:Int),.int .i64 n,.pointer (some ⟨M,0,none⟩)] w fun e w'=>e= .returned (.bool true)∧w'=w.setCell ⟨g,i,none⟩ (.int .i64 (f i+1:Nat)):=by
 have Y: ¬(i:Int)<0:=by omega
 have Z: ¬n≤(i:Int):=by omega
 have U:(i:Int)<(len:Int):=by omega
 obtain⟨s0,sf⟩:=zk7 L
 obtain⟨J,j⟩: ∃v,f i=v:=⟨_,rfl⟩
 have V:=zeF h (k:=i) (by omega)
 have X:=h.frozenAt
 rw[j] at V O
 rw[j]
 obtain⟨H,A⟩: ∃u,u=J+1:=⟨_,rfl⟩
 have N:(J:Int)+1=(H:Int):=by omega
 have I:IntKind.i64.wrap (H:Int)=(H:Int):=IntWalk.i64_in _ ⟨by omega,by omega⟩
 rw[←A]
 clear L h j A
 go_enter Tryz.func166,Tryz.ntmps166
 go_wp2
 go_ret
 exact⟨rfl,rfl⟩
def odd (n:Nat) (f:Nat→Nat) (j:Nat):Bool:=(List.range n).any fun k=>decide (j≤k)&&((f k:Int) !=1)
theorem zrY {n:Nat} {f:Nat→Nat} {j:Nat} (A:j<n):odd n f j=(((f j:Int) !=1)||odd n f (j+1)):=by
 rw[Bool.eq_iff_iff,Bool.or_eq_true]
 simp only[odd,List.any_eq_true,List.mem_range,Bool.and_eq_true,decide_eq_true_eq]
 constructor
 ·rintro⟨k,z,w,h⟩
  by_cases e:k=j
  ·exact .inl (e▸h)
  ·exact .inr ⟨k,z,by omega,h⟩
 ·rintro (h|⟨k,z,w,h⟩)
  ·exact⟨j,A,Nat.le_refl _,h⟩
  ·exact⟨k,z,by omega,h⟩
theorem zrZ {n:Nat} (f:Nat→Nat) {j:Nat} (z:n≤j):odd n f j=false:=by
 rw[Bool.eq_false_iff]
 intro h
 simp only[odd,List.any_eq_true,List.mem_range,Bool.and_eq_true,decide_eq_true_eq] at h
 obtain⟨k,A,w,_⟩:=h
 omega
theorem zsa (H g len:Nat) (f:Nat→Nat) (w:World) (h:w.ownsRow H 3 1 (.slice (some ⟨g,0,none⟩) len len) len (zas len f)) (hl:len≤4294967296):
  Calls Tryz.prog 198 #[.slice (some ⟨g,0,none⟩) len len,.func (.func 169) #[] #[]] w fun e w'=>(∃v:Int,e= .returned (.int .i64 v)∧decide (0≤v)=odd len f 0)∧Below w.heap.size w w':=by
 have HO:=zc h
 clear h
 go_enter Tryz.func198,Tryz.ntmps198
 go_wp2
 go_loopg [8] (len+1) (fun k i wr=>∃j:Nat,i= .int .i64 j∧j+k=len+1∧odd len f j=odd len f 0∧Below w.heap.size w wr)
 case atStart=>exact⟨0,rfl,by omega,rfl,Below.refl _ _⟩
 case round=>
  obtain⟨j,rfl,hj,Z,V⟩:=hrel
  have N:=zc Z
  have L:=zc V
  clear Z V
  by_cases z:j<len
  ·have I:(j:Int)<(len:Int):=by omega
   have k0:=zeF (zfz HO.out L.out) z
   have Y:=zc (zrY (f:=f) z)
   obtain⟨v,M⟩: ∃v,f j=v:=⟨_,rfl⟩
   rw[M] at k0
   have HV:=zc M
   clear M
   obtain⟨J,A⟩: ∃J,J=j+1:=⟨_,rfl⟩
   have ej:(j:Int)+1=(J:Int):=by omega
   have U:=zc A
   clear A
   go_wp2_with fail
   refine (zrW (v:Int) _).mono ?_
   rintro e w1 ⟨rfl,X⟩
   rw[X]
   clear X w1
   cases O:((v:Int) !=1) with
   |true=>
    go_wp2
    go_ret
    refine⟨⟨_,rfl,?_⟩,L.out⟩
    rw[←N.out,Y.out,HV.out,O]
    simp
   |false=>
    go_wp2
    go_roundg (gk-1)
    case rel=>
     refine⟨J,rfl,by have:=U.out;omega,?_,L.out⟩
     rw[←N.out,Y.out,HV.out,O,U.out]
     simp
    case measure=>omega
  ·have I: ¬(j:Int)<(len:Int):=by omega
   go_wp2
   go_ret
   refine⟨⟨_,rfl,?_⟩,L.out⟩
   rw[←N.out,zrZ f (by omega)]
   rfl
theorem zsb (j g len:Nat) (f:Nat→Nat) (w:World) (h:w.ownsRow j 3 1 (.slice (some ⟨g,0,none⟩) len len) len (zas len f)) (I:len≤4294967296):
  Calls Tryz.prog 168 #[.slice (some ⟨g,0,none⟩) len len,.func (.func 169) #[] #[]] w fun e w'=>e= .returned (.bool (odd len f 0))∧Below w.heap.size w w':=by
 have H:=zc h
 clear h
 go_enter Tryz.func168,Tryz.ntmps168
 go_wp2_with fail
 refine (zsa j g len f _ H.out I).mono ?_
 rintro e M ⟨⟨v,rfl,z⟩,A⟩
 have L:=zc z
 have J:=zc A
 clear z A
 go_wp2
 go_ret
 exact⟨zk L.out,J.out⟩
def UM (w0:World) (base:Nat) (S:Sv) (m:Md) (gu:Nat) (f:Nat→Nat) (w:World):Prop:=
 (w.heap[gu]? =some (.cells #[.slice (some ⟨w0.heap.size+1,0,none⟩) m.ex.length m.ex.length] 152 (0,0))∧w0.heap.size+1<gu)∧
 w.ownsRow (w0.heap.size+1) 3 1 (.slice (some ⟨w0.heap.size+1,0,none⟩) m.ex.length m.ex.length) m.ex.length (zas m.ex.length f)∧OwnMd w base S m∧
 w.heap[w0.heap.size]? =some (.cells #[.slice S.rq.a m.rq.length S.rq.cap,.slice S.im.a m.im.length S.im.cap,.slice S.ep.a m.ep.length S.ep.cap,.slice S.st.a m.st.length S.st.cap,.slice S.ex.a m.ex.length S.ex.cap] 36 (0,0))∧Below w0.heap.size w0 w
theorem UM.later {w0 w w':World} {j:Nat} {S:Sv} {m:Md} {J:Nat} {f:Nat→Nat} (h:UM w0 j S m J f w) (z:Below w.heap.size w w'):UM w0 j S m J f w':=by
 obtain⟨⟨H,L⟩,N,M,I,A⟩:=h
 exact⟨⟨(z.block _ (Array.getElem?_eq_some_iff.1 H).1).trans H,L⟩,zfz N z,M.later z,(z.block _ (Array.getElem?_eq_some_iff.1 I).1).trans I,A.trans (z.mono A.size)⟩
theorem UM.used {w0 w:World} {j:Nat} {S:Sv} {m:Md} {A:Nat} {f:Nat→Nat} (h:UM w0 j S m A f w) (i:Nat):UM w0 j S m A (zaK f i) (w.setCell ⟨w0.heap.size+1,i,none⟩ (.int .i64 (f i+1:Nat))):=by
 obtain⟨⟨L,I⟩,z,J,M,H⟩:=h
 exact⟨⟨(zx (by omega)).trans L,I⟩,zg1 z i _ rfl,zg2 J (zg4 z),(zx (by omega)).trans M,H.setCell (Nat.le_succ _) _⟩
theorem UM.congr {w0 w:World} {j:Nat} {S:Sv} {m:Md} {z:Nat} {f g:Nat→Nat} (h:UM w0 j S m z f w) (e: ∀k,k<m.ex.length→f k=g k):UM w0 j S m z g w:=by
 obtain⟨I,L,H,J,A⟩:=h
 exact⟨I,by rw[←zef e];exact L,H,J,A⟩
theorem zhJ {w0:World} {b0:Nat} {S:Sv} {m:Md} {j:Nat} {f:Nat→Nat} (i:Nat) (n:Int) (w:World) (h:UM w0 b0 S m j f w) (z:f i≤17179869184) (H:i<m.ex.length) (I:(i:Int)<n):
  Calls Tryz.prog 166 #[.int .i64 (i:Int),.int .i64 n,.pointer (some ⟨j,0,none⟩)] w fun e w'=>e= .returned (.bool true)∧UM w0 b0 S m j (zaK f i) w'∧∀k,k≠w0.heap.size+1→w'.heap[k]? =w.heap[k]?:=by
 refine (zrX i m.ex.length (w0.heap.size+1) (w0.heap.size+1) j n f w h.1.1 h.2.1 z H I).mono ?_
 rintro e w' ⟨rfl,rfl⟩
 exact⟨rfl,h.used i,fun k A=>zx A⟩
theorem zk8 {n:Nat} {f:Nat→Nat}:odd n f 0=false↔∀k,k<n→f k=1:=by
 rw[Bool.eq_false_iff]
 constructor
 ·intro h k j
  by_cases e:f k=1
  ·exact e
  ·exact absurd (by
    simp only[odd,List.any_eq_true,List.mem_range,Bool.and_eq_true,decide_eq_true_eq]
    exact⟨k,j,Nat.zero_le _,by rw[bne_iff_ne];omega⟩) h
 ·intro h e
  simp only[odd,List.any_eq_true,List.mem_range,Bool.and_eq_true,decide_eq_true_eq] at e
  obtain⟨k,j,_,w⟩:=e
  rw[bne_iff_ne] at w
  have:=h k j
  omega
theorem zsc (z:Nat) (S:Sv) (m:Md) (w:World) (h:OwnMd w z S m) (hl:m.ex.length≤4294967296) (hs:m.st.length≤4294967296):
  Calls Tryz.prog 121 #[zh S m] w fun e w'=>zg3 m e∧Below w.heap.size w w':=by
 obtain⟨i0,hi,aC,aG,aE⟩:=info_parts Tryz.infoInt
 have HH:=zc h
 clear h
 unfold zh
 go_enter Tryz.func121,Tryz.ntmps121
 go_wp2_with (first|(at_make;refine wpList_make_full _ rfl _ _ 152 rfl (w.heap.size+1) 3 i0 (.int .i64 0) 1 Tryz.underlying152 hi aC aG .i64 .i64 _ _ m.ex.length (by rfl) (by rfl) rfl rfl (by rw[aE];omega) (by unfold maxLen;omega) (by rw[zn];omega) ?_))
 intro Y Z N
 rw[zke] at Z
 have bb:Below (w.heap.size+1) (w.alloc _) Y:=⟨N.os,N.tape,N.output,N.size,fun k O=>N.block k (by rw[zn];exact O) (by simp)⟩
 have aa:Hid (Below w.heap.size w Y):=((Below.refl _ _).alloc (Nat.le_refl _) _).trans (bb.mono (by omega))
 have al:Hid (Y.heap[w.heap.size]? =some (.cells #[.slice S.rq.a m.rq.length S.rq.cap,.slice S.im.a m.im.length S.im.cap,.slice S.ep.a m.ep.length S.ep.cap,.slice S.st.a m.st.length S.st.cap,.slice S.ex.a m.ex.length S.ex.cap] 36 (0,0))):=(bb.block _ (by omega)).trans (heap_alloc_new w _)
 have ay:=zc (HH.out.later aa.out)
 have aj:Hid (Y.ownsRow (w.heap.size+1) 3 1 (.slice (some ⟨w.heap.size+1,0,none⟩) m.ex.length m.ex.length) m.ex.length (zas m.ex.length (cE m.ex 0))):=by show World.ownsRow _ _ _ _ _ _ _;rw[show zas m.ex.length (cE m.ex 0)=zas m.ex.length (fun _=>0) from zef fun k _=>by simp[cE,zat]];exact Z
 clear Z N bb
 have aw:=(zh9 aj.out).2
 go_upto_region 3 with fail
 have HA:Hid (Below Y.heap.size Y (Y.alloc (.cells #[.slice (some ⟨w.heap.size+1,0,none⟩) m.ex.length m.ex.length] 152))):=(Below.refl _ _).alloc (Nat.le_refl _) _
 have hz:=(Array.getElem?_eq_some_iff.1 al.out).1
 refine zV (R:=UM w z S m Y.heap.size (cE m.ex 0)) ⟨⟨heap_alloc_new Y _,aw⟩,zfz aj.out HA.out,ay.out.later HA.out,(HA.out.block _ hz).trans al.out,aa.out.trans (HA.out.mono aa.out.size)⟩ ?_
 obtain⟨gu,an⟩: ∃gu,gu=Y.heap.size:=⟨_,rfl⟩
 rw[←an]
 rw[←an] at aw
 clear HA al aa ay aj hz an Y
 intro W A
 have HM:=zc A
 clear A
 obtain⟨c0,c1,c2,c3,c4,cf⟩:=zg HM.out.2.2.2.1
 go_wp2
 go_loopg [17] m.ex.length (fun k i wr=>∃j:Nat,i= .int .i64 j∧j+k=m.ex.length∧AheadTo m.ex j∧UM w z S m gu (cE m.ex j) wr)
 case atStart=>exact⟨0,rfl,by omega,fun i x hi=>absurd hi (Nat.not_lt_zero i),HM.out⟩
 case round=>
  obtain⟨j,rfl,hj,ah,A⟩:=hrel
  have AH:=zc ah
  have L:=zc A
  clear ah A
  clear c0 c1 c2 c3 c4 cf
  obtain⟨c0,c1,c2,c3,c4,cf⟩:=zg L.out.2.2.2.1
  by_cases I:j<m.ex.length
  ·have aA:(j:Int)<(m.ex.length:Int):=by omega
   obtain⟨g,hg,aH,x0,x1,x2,x3,x4,x5⟩:=L.out.2.2.1.expr I
   have HG:Hid (Value.slice S.ex.a m.ex.length S.ex.cap=Value.slice (some ⟨g,0,none⟩) m.ex.length S.ex.cap):=by show _=_;rw[hg]
   clear hg c0 c1 c2 c3 c4 cf
   rw[HG.out]
   have az:=zc (zdM I)
   obtain⟨x,ak⟩: ∃x,m.ex.getD j zj=x:=⟨_,rfl⟩
   rw[ak] at x0 x1 x2 x3 x4 x5
   have V:Hid (m.ex[j]=x):=az.out.symm.trans ak
   clear ak az
   obtain⟨j1,U⟩: ∃j1,j1=j+1:=⟨_,rfl⟩
   have ej:(j:Int)+1=(j1:Int):=by omega
   have HJ:=zc U
   clear U
   go_upto_region 6 with fail
   have HW:Hid (Below wr.heap.size wr (wr.alloc (.cells #[.int .i64 x.kind,.int .i64 x.num,.string x.name,.string x.field,.int .i64 x.l,.int .i64 x.r] 109))):=(Below.refl _ _).alloc (Nat.le_refl _) _
   refine zV (R:=fun W=>W.heap[wr.heap.size]? =some (.cells #[.int .i64 x.kind,.int .i64 x.num,.string x.name,.string x.field,.int .i64 x.l,.int .i64 x.r] 109 (0,0))∧UM w z S m gu (cE m.ex j) W) ⟨heap_alloc_new wr _,L.out.later HW.out⟩ ?_
   have av:wr.heap.size≠w.heap.size+1:=by have:=(zh9 L.out.2.1).2;omega
   obtain⟨gx,ai⟩: ∃gx,gx=wr.heap.size:=⟨_,rfl⟩
   rw[←ai]
   rw[←ai] at av
   clear x0 x1 x2 x3 x4 x5 HW
   rintro W ⟨xb,A⟩
   clear ai L
   have XB:=zc xb
   have L:=zc A
   clear xb A
   obtain⟨x0,x1,x2,x3,x4,x5,xf⟩:=zy XB.out
   go_wp2_with fail
   refine (zk6 x.kind _).mono ?_
   rintro e w2 ⟨rfl,X⟩
   rw[X]
   clear X w2
   cases ht:zaa x.kind with
   |false=>
    go_wp2
    rw[←HG.out]
    go_roundg (gk-1)
    case rel=>exact⟨j1,rfl,by have:=HJ.out;omega,by rw[HJ.out];exact AH.out.next I (fun k=>by rw[V.out,ht] at k;cases k),by rw[HJ.out];exact L.out.congr fun k _=>zkc I (by rw[V.out];exact ht) k⟩
    case measure=>omega
   |true=>
    go_wp2_with fail
    by_cases a1:0≤x.l∧x.l<(j:Int)
    ·obtain⟨ln,ag⟩: ∃ln:Nat,x.l=(ln:Int):=⟨x.l.toNat,by omega⟩
     have ap:=zgz (m.ex.take j)
     have ax:(m.ex.take j).length≤4294967296:=by rw[List.length_take];omega
     rw[ag]
     refine (zhJ (w0:=w) (b0:=z) (S:=S) (m:=m) (f:=cE m.ex j) ln (j:Int) W L.out (by have:=ap (ln:Int);unfold cE;omega) (by omega) (by omega)).mono ?_
     rintro e W2 ⟨rfl,ad,O⟩
     have H:=zc ad
     have aF:=zc ((O gx av).trans XB.out)
     clear ad O x0 x1 x2 x3 x4 x5 xf
     obtain⟨x0,x1,x2,x3,x4,x5,xf⟩:=zy aF.out
     go_wp2_with fail
     by_cases a2:0≤x.r∧x.r<(j:Int)
     ·obtain⟨rn,ae⟩: ∃rn:Nat,x.r=(rn:Int):=⟨x.r.toNat,by omega⟩
      rw[ae]
      refine (zhJ (w0:=w) (b0:=z) (S:=S) (m:=m) (f:=zaK (cE m.ex j) ln) rn (j:Int) W2 H.out (by have:=ap (rn:Int);unfold zaK cE;split<;>omega) (by omega) (by omega)).mono ?_
      rintro e W3 ⟨rfl,J,O⟩
      have am:=zc J
      have af:Hid (∀k:Nat,zaK (zaK (cE m.ex j) ln) rn k=cE m.ex (j+1) k):=fun k=>by have:=zkb I (by rw[V.out];exact ht) (by rw[V.out];omega) (by rw[V.out];omega) k;rw[V.out,ag,ae] at this;exact this
      have aD:Hid (AheadTo m.ex (j+1)):=AH.out.next I (fun _=>by rw[V.out];omega)
      clear J O x0 x1 x2 x3 x4 x5 xf ag ae a1 a2 ap ax
      go_wp2
      rw[←HG.out]
      go_roundg (gk-1)
      case rel=>exact⟨j1,rfl,by have:=HJ.out;omega,by rw[HJ.out];exact aD.out,by rw[HJ.out];exact am.out.congr fun k _=>af.out k⟩
      case measure=>omega
     ·refine (zhI x.r (j:Int) _ W2 a2).mono ?_
      rintro e w3 ⟨rfl,X⟩
      rw[X]
      clear X w3
      go_wp2
      go_ret
      exact⟨zcQ (fun (t:Tree m)=>absurd t.ahead (AheadTo.not I (by rw[V.out];exact ht) (by rw[V.out];omega))),H.out.2.2.2.2⟩
    ·refine (zhI x.l (j:Int) _ W a1).mono ?_
     rintro e w2 ⟨rfl,X⟩
     rw[X]
     clear X w2
     go_wp2
     go_ret
     exact⟨zcQ (fun (t:Tree m)=>absurd t.ahead (AheadTo.not I (by rw[V.out];exact ht) (by rw[V.out];omega))),L.out.2.2.2.2⟩
  ·have aA: ¬(j:Int)<(m.ex.length:Int):=by omega
   obtain rfl:j=m.ex.length:=by omega
   have HA:=zc AH.out.all
   have HC:Hid (UM w z S m gu (cS m 0) wr):=L.out.congr fun k _=>by simp[cE,cS,zaN]
   go_wp2
   go_loopg [44] m.st.length (fun k i wr=>∃j:Nat,i= .int .i64 j∧j+k=m.st.length∧(∀s∈m.st.take j,0≤s.expr∧s.expr<(m.ex.length:Int))∧UM w z S m gu (cS m j) wr)
   case atStart=>exact⟨0,rfl,by omega,(fun s hs=>by simp at hs),HC.out⟩
   case round=>
    obtain⟨j,rfl,aI,ah,A⟩:=hrel
    have AS:=zc ah
    have H:=zc A
    clear ah A c0 c1 c2 c3 c4 cf
    obtain⟨c0,c1,c2,c3,c4,cf⟩:=zg H.out.2.2.2.1
    by_cases M:j<m.st.length
    ·have ao:(j:Int)<(m.st.length:Int):=by omega
     obtain⟨s,au⟩: ∃s,m.st[j]? =some s:=⟨_,List.getElem?_eq_getElem M⟩
     obtain⟨g,hg,ab⟩:=OwnR.elem (f:=smL) (m:=3) (fun _=>rfl) H.out.2.2.1.st au
     have k0:=ab 0 (by omega)
     have k1:=ab 1 (by omega)
     have k2:=ab 2 (by omega)
     simp only[smL,Nat.add_zero,List.getElem?_cons_zero,List.getElem?_cons_succ] at k0 k1 k2
     have HG:Hid (Value.slice S.st.a m.st.length S.st.cap=Value.slice (some ⟨g,0,none⟩) m.st.length S.st.cap):=by show _=_;rw[hg]
     obtain⟨_,ac⟩:=List.getElem?_eq_some_iff.1 au
     have HS:Hid (m.st[j]=s):=ac
     clear hg ab au ac
     rw[HG.out]
     obtain⟨j1,U⟩: ∃j1,j1=j+1:=⟨_,rfl⟩
     have ej:(j:Int)+1=(j1:Int):=by omega
     have HJ:=zc U
     clear U
     go_upto_region 12 with fail
     have HW:Hid (Below wr.heap.size wr (wr.alloc (.cells #[.int .i64 s.kind,.string s.name,.int .i64 s.expr] 107))):=(Below.refl _ _).alloc (Nat.le_refl _) _
     refine zV (R:=fun W=>W.heap[wr.heap.size]? =some (.cells #[.int .i64 s.kind,.string s.name,.int .i64 s.expr] 107 (0,0))∧UM w z S m gu (cS m j) W) ⟨heap_alloc_new wr _,H.out.later HW.out⟩ ?_
     clear k0 k1 k2 HW c0 c1 c2 c3 c4 cf
     rintro W ⟨xb,A⟩
     have L:=zc A
     obtain⟨k0,k1,k2,kf⟩:=zbK xb
     clear A xb
     obtain⟨c0,c1,c2,c3,c4,cf⟩:=zg L.out.2.2.2.1
     go_wp2_with fail
     by_cases a1:0≤s.expr∧s.expr<(m.ex.length:Int)
     ·obtain⟨en,aq⟩: ∃en:Nat,s.expr=(en:Int):=⟨s.expr.toNat,by omega⟩
      have ar:Hid (∀s∈m.st.take (j+1),0≤s.expr∧s.expr<(m.ex.length:Int)):=by
       intro y hy
       rw[List.take_succ_eq_append_getElem M,List.mem_append] at hy
       rcases hy with hy|hy
       ·exact AS.out y hy
       ·simp only[List.mem_singleton] at hy
        rw[hy,HS.out]
        omega
      have af:Hid (∀k:Nat,zaK (cS m j) en k=cS m (j+1) k):=fun k=>by have:=zkd (ex:=m.ex) M (by rw[HS.out];omega) k;rw[HS.out,aq] at this;exact this
      rw[aq]
      refine (zhJ (w0:=w) (b0:=z) (S:=S) (m:=m) (f:=cS m j) en _ W L.out (by unfold cS;have:=zgz m.ex (en:Int);have:=zka (m.st.take j) (en:Int);rw[List.length_take] at this;omega) (by omega) (by omega)).mono ?_
      rintro e W2 ⟨rfl,J,O⟩
      have am:=zc J
      clear J O k0 k1 k2 kf c0 c1 c2 c3 c4 cf aq a1
      go_wp2
      rw[←HG.out]
      go_roundg (gk-1)
      case rel=>exact⟨j1,rfl,by have:=HJ.out;omega,by rw[HJ.out];exact ar.out,by rw[HJ.out];exact am.out.congr fun k _=>af.out k⟩
      case measure=>omega
     ·refine (zhI s.expr _ _ W a1).mono ?_
      rintro e w3 ⟨rfl,X⟩
      rw[X]
      clear X w3
      go_wp2
      go_ret
      exact⟨zcQ (fun (t:Tree m)=>by have:=t.stm _ (List.getElem_mem M);rw[HS.out] at this;omega),L.out.2.2.2.2⟩
    ·have ao: ¬(j:Int)<(m.st.length:Int):=by omega
     obtain rfl:j=m.st.length:=by omega
     have ar:Hid (∀s∈m.st,0≤s.expr∧s.expr<(m.ex.length:Int)):=by have:=AS.out;rw[List.take_length] at this;exact this
     obtain⟨t0,tf⟩:=zk7 H.out.1.1
     go_wp2_with fail
     refine (zsb (w.heap.size+1) (w.heap.size+1) m.ex.length (cS m m.st.length) _ H.out.2.1 hl).mono ?_
     rintro e w3 ⟨rfl,hb⟩
     have aB:Hid (Below w.heap.size w w3):=H.out.2.2.2.2.trans (hb.mono H.out.2.2.2.2.size)
     clear hb
     cases ho:odd m.ex.length (cS m m.st.length) 0 with
     |true=>
      go_wp2
      go_ret
      exact⟨zcQ (fun (t:Tree m)=>by
       have:=zk8.2 (fun k O=>by have:=t.once k O;show cS m m.st.length k=1;unfold cS;rw[List.take_length];omega)
       rw[ho] at this
       cases this),aB.out⟩
     |false=>
      go_wp2
      go_ret
      exact⟨zkf ⟨HA.out,ar.out,fun k O=>by have:=zk8.1 ho k O;unfold cS at this;rw[List.take_length] at this;exact this⟩,aB.out⟩
end Go.Proofs.YtjdddblpfbmpaaaGreat
