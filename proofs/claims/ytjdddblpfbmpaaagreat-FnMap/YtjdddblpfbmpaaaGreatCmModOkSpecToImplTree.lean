/-
  What spec.ModOk answers: the walk.
  What impl's isSum,hasSides and the closure that counts a use answer: the walks.
  What areExprsUsedOnce answers: the walk.
-/
import Derived.Test.YtjdddblpfbmpaaaGreatCmSpecTreeToSpecPrintE
namespace Go.Proofs.YtjdddblpfbmpaaaGreat
set_option maxRecDepth 100000
set_option maxHeartbeats 6400000
open Go.RowKit Go.PlainAid Go.Sort
theorem zsf (z:Nat) (S:Sv) (m:Md) (J:Bool) (w:World) (h:OwnMd w z S m) (hm:Small m) (Z:Tree m→(zbO m).size≤4294967296):
  Calls Tryz.prog 7 #[zp S m,.bool J] w fun e w'=>zgu (zbO m) m J e∧Below w.heap.size w w':=by
 have HH:=zc h
 have SM:=zc hm
 have HU:=zc Z
 have SF:Hid (zee m):=hm.few
 clear h hm Z
 unfold zp
 go_enter Tryz.func7,Tryz.ntmps7
 go_upto_region 1 with fail
 have L:Hid (Below w.heap.size w (w.alloc (.cells #[.slice S.rq.a m.rq.length S.rq.cap,.slice S.im.a m.im.length S.im.cap,.slice S.ep.a m.ep.length S.ep.cap,.slice S.st.a m.st.length S.st.cap,.slice S.ex.a m.ex.length S.ex.cap] 36))):=(Below.refl _ _).alloc (Nat.le_refl _) _
 refine zac (R:=fun W=>W.heap[w.heap.size]? =some (.cells #[.slice S.rq.a m.rq.length S.rq.cap,.slice S.im.a m.im.length S.im.cap,.slice S.ep.a m.ep.length S.ep.cap,.slice S.st.a m.st.length S.st.cap,.slice S.ex.a m.ex.length S.ex.cap] 36 (0,0))∧OwnMd W z S m∧Below w.heap.size w W) ⟨heap_alloc_new w _,HH.out.later L.out,L.out⟩ ?_
 obtain⟨gx,U⟩: ∃gx,gx=w.heap.size:=⟨_,rfl⟩
 rw[←U]
 rintro w1 ⟨hx,ho,A⟩
 rw[U] at A
 clear U L HH
 have X1:=zc hx
 have O1:=zc ho
 have aa:=zc A
 clear hx ho A
 obtain⟨c0,c1,c2,c3,c4,cf⟩:=zg X1.out
 go_wp2_with fail
 refine (zse z S m J w1 O1.out SM.out (fun t=>Nat.le_trans (HU.out t) (by omega))).mono ?_
 rintro e w2 ⟨H,A⟩
 obtain⟨t,O,rfl⟩:=H.form
 have PR:=zc O
 have ht:=O.size HU.out
 have X2:=zc ((A.block _ (Array.getElem?_eq_some_iff.1 X1.out).1).trans X1.out)
 have O2:=zc (O1.out.later A)
 have ab:=zc (aa.out.trans (A.mono aa.out.size))
 clear H O A c0 c1 c2 c3 c4 cf
 go_wp2_with fail
 refine (zkD t J w2 ht).mono ?_
 rintro e V ⟨H,A⟩
 have X3:=zc ((A.block _ (Array.getElem?_eq_some_iff.1 X2.out).1).trans X2.out)
 have O3:=zc (O2.out.later A)
 have I:=zc (ab.out.trans (A.mono ab.out.size))
 clear A
 rcases H.md with ⟨q,j,n,hy,hn,rfl,M,N⟩|⟨p,hy,rfl⟩
 ·have OK:=zc (zjC (m:=m) hy hn)
  have O4:=zc M
  have NF:=zc N
  clear H hy hn M N
  unfold zp
  go_upto_region 2 with fail
  have L:Hid (Below V.heap.size V (V.alloc (.cells #[.slice j.rq.a n.rq.length j.rq.cap,.slice j.im.a n.im.length j.im.cap,.slice j.ep.a n.ep.length j.ep.cap,.slice j.st.a n.st.length j.st.cap,.slice j.ex.a n.ex.length j.ex.cap] 36))):=(Below.refl _ _).alloc (Nat.le_refl _) _
  refine zac (R:=fun W=>W.heap[gx]? =some (.cells #[.slice S.rq.a m.rq.length S.rq.cap,.slice S.im.a m.im.length S.im.cap,.slice S.ep.a m.ep.length S.ep.cap,.slice S.st.a m.st.length S.st.cap,.slice S.ex.a m.ex.length S.ex.cap] 36 (0,0))∧W.heap[V.heap.size]? =some (.cells #[.slice j.rq.a n.rq.length j.rq.cap,.slice j.im.a n.im.length j.im.cap,.slice j.ep.a n.ep.length j.ep.cap,.slice j.st.a n.st.length j.st.cap,.slice j.ex.a n.ex.length j.ex.cap] 36 (0,0))∧OwnMd W z S m∧OwnMd W w2.heap.size j n∧Below w.heap.size w W) ⟨(L.out.block _ (Array.getElem?_eq_some_iff.1 X3.out).1).trans X3.out,heap_alloc_new V _,O3.out.later L.out,O4.out.later L.out,I.out.trans (L.out.mono I.out.size)⟩ ?_
  obtain⟨gy,Y⟩: ∃gy,gy=V.heap.size:=⟨_,rfl⟩
  rw[←Y]
  intro w4 h4
  have X:=zc h4
  clear h4 Y L X3 O3 O4 I
  obtain⟨c0,c1,c2,c3,c4,cf⟩:=zg X.out.1
  obtain⟨d0,d1,d2,d3,d4,df⟩:=zg X.out.2.1
  go_wp2_with fail
  refine ((zr6 zie zif zig zih zii zij zik zil w2.heap.size z j S n m _ X.out.2.2.2.1 X.out.2.2.1 NF.out)).mono ?_
  rintro e w5 ⟨⟨r,rfl,hr⟩,A⟩
  have HR:=zc hr
  have ac:=zc (X.out.2.2.2.2.trans (A.mono X.out.2.2.2.2.size))
  clear hr A c0 c1 c2 c3 c4 cf d0 d1 d2 d3 d4 df
  go_wp2
  go_ret
  exact⟨⟨t,PR.out,r,rfl,HR.out.trans OK.out.symm⟩,ac.out⟩
 ·have NO:=zc (zjB (m:=m) hy)
  clear H hy
  go_wp2
  go_ret
  exact⟨⟨t,PR.out,false,rfl,⟨fun k=>(by cases k),fun k=>absurd k NO.out⟩⟩,(I.out.alloc I.out.size _)⟩
theorem zfO (k:Int) (w:World):Calls Tryz.prog 197 #[.int .i64 k] w fun e w'=>e= .returned (.bool (k==6||k==7))∧w'=w:=by
 cases q:(k==6) with
 |true=>
  go_enter Tryz.func197,Tryz.ntmps197
  go_wp2
  go_ret
  exact⟨rfl,rfl⟩
 |false=>
  cases j:(k==7) with
  |true=>
   go_enter Tryz.func197,Tryz.ntmps197
   go_wp2
   go_ret
   exact⟨rfl,rfl⟩
  |false=>
   go_enter Tryz.func197,Tryz.ntmps197
   go_wp2
   go_ret
   exact⟨rfl,rfl⟩
theorem zlh (k:Int) (w:World):Calls Tryz.prog 167 #[.int .i64 k] w fun e w'=>e= .returned (.bool (zaa k))∧w'=w:=by
 cases j:(k==6||k==7) with
 |true=>
  have q:Hid (zaa k=true):=by show _=_;rw[zaa,j];rfl
  go_enter Tryz.func167,Tryz.ntmps167
  go_wp2_with fail
  refine (zfO k _).mono ?_
  rintro e A ⟨rfl,rfl⟩
  rw[j]
  go_wp2
  go_ret
  exact⟨zh q.out.symm,rfl⟩
 |false=>
  cases z:(k==8) with
  |true=>
   have q:Hid (zaa k=true):=by show _=_;rw[zaa,j,z];rfl
   go_enter Tryz.func167,Tryz.ntmps167
   go_wp2_with fail
   refine (zfO k _).mono ?_
   rintro e A ⟨rfl,rfl⟩
   rw[j]
   go_wp2
   go_ret
   exact⟨zh q.out.symm,rfl⟩
  |false=>
   have q:Hid (zaa k=false):=by show _=_;rw[zaa,j,z];rfl
   go_enter Tryz.func167,Tryz.ntmps167
   go_wp2_with fail
   refine (zfO k _).mono ?_
   rintro e A ⟨rfl,rfl⟩
   rw[j]
   go_wp2
   go_ret
   exact⟨zh q.out.symm,rfl⟩
theorem zsg (k:Int) (w:World):Calls Tryz.prog 169 #[.int .i64 k] w fun e w'=>e= .returned (.bool (k !=1))∧w'=w:=by
 go_enter Tryz.func169,Tryz.ntmps169
 go_wp2
 go_ret
 exact⟨rfl,rfl⟩
theorem zli {w:World} {b:Nat} {t:TypeId} {v0:Value} (h:w.heap[b]? =some (.cells #[v0] t (0,0))):w.cell? ⟨b,0,none⟩=some v0∧∀i,w.frozen? ⟨b,i,none⟩=false:=by
 refine⟨?_,fun i=>?_⟩<;>simp[World.cell?,World.frozen?,h]
theorem zir (i n:Int) (u:Value) (w:World) (h: ¬(0≤i∧i<n)):
  Calls Tryz.prog 166 #[.int .i64 i,.int .i64 n,u] w fun e w'=>e= .returned (.bool false)∧w'=w:=by
 by_cases j:i<0
 ·go_enter Tryz.func166,Tryz.ntmps166
  go_wp2
  go_ret
  exact⟨rfl,rfl⟩
 ·have q:n≤i:=by omega
  clear h
  go_enter Tryz.func166,Tryz.ntmps166
  go_wp2
  go_ret
  exact⟨rfl,rfl⟩
theorem zsh (i len q g L:Nat) (n:Int) (f:Nat→Nat) (w:World) (J:w.heap[L]? =some (.cells #[.slice (some ⟨g,0,none⟩) len len] 152 (0,0))) (h:w.ownsRow q 3 1 (.slice (some ⟨g,0,none⟩) len len) len (zat len f)) (N:f i≤17179869184) (hi:i<len) (hn:(i:Int)<n):
  Calls Tryz.prog 166 #[.int .i64 (i:Int),.int .i64 n,.pointer (some ⟨L,0,none⟩)] w fun e w'=>e= .returned (.bool true)∧w'=w.setCell ⟨g,i,none⟩ (.int .i64 (f i+1:Nat)):=by
 have X: ¬(i:Int)<0:=by omega
 have Y: ¬n≤(i:Int):=by omega
 have O:(i:Int)<(len:Int):=by omega
 obtain⟨Z,sf⟩:=zli J
 obtain⟨I,j⟩: ∃v,f i=v:=⟨_,rfl⟩
 have U:=zeP h (k:=i) (by omega)
 have V:=h.frozenAt
 rw[j] at U N
 rw[j]
 obtain⟨A,z⟩: ∃u,u=I+1:=⟨_,rfl⟩
 have M:(I:Int)+1=(A:Int):=by omega
 have H:IntKind.i64.wrap (A:Int)=(A:Int):=IntWalk.i64_in _ ⟨by omega,by omega⟩
 rw[←z]
 clear J h j z
 go_enter Tryz.func166,Tryz.ntmps166
 go_wp2
 go_ret
 exact⟨rfl,rfl⟩
def odd (n:Nat) (f:Nat→Nat) (j:Nat):Bool:=(List.range n).any fun k=>decide (j≤k)&&((f k:Int) !=1)
theorem zsi {n:Nat} {f:Nat→Nat} {j:Nat} (A:j<n):odd n f j=(((f j:Int) !=1)||odd n f (j+1)):=by
 rw[Bool.eq_iff_iff,Bool.or_eq_true]
 simp only[odd,List.any_eq_true,List.mem_range,Bool.and_eq_true,decide_eq_true_eq]
 constructor
 ·rintro⟨k,z,q,h⟩
  by_cases e:k=j
  ·exact .inl (e▸h)
  ·exact .inr ⟨k,z,by omega,h⟩
 ·rintro (h|⟨k,z,q,h⟩)
  ·exact⟨j,A,Nat.le_refl _,h⟩
  ·exact⟨k,z,by omega,h⟩
theorem zsj {n:Nat} (f:Nat→Nat) {j:Nat} (z:n≤j):odd n f j=false:=by
 rw[Bool.eq_false_iff]
 intro h
 simp only[odd,List.any_eq_true,List.mem_range,Bool.and_eq_true,decide_eq_true_eq] at h
 obtain⟨k,A,q,_⟩:=h
 omega
theorem zsk (A g len:Nat) (f:Nat→Nat) (w:World) (h:w.ownsRow A 3 1 (.slice (some ⟨g,0,none⟩) len len) len (zat len f)) (hl:len≤4294967296):
  Calls Tryz.prog 198 #[.slice (some ⟨g,0,none⟩) len len,.func (.func 169) #[] #[]] w fun e w'=>(∃v:Int,e= .returned (.int .i64 v)∧decide (0≤v)=odd len f 0)∧Below w.heap.size w w':=by
 have HO:=zc h
 clear h
 go_enter Tryz.func198,Tryz.ntmps198
 go_wp2
 go_loopg [8] (len+1) (fun k i wr=>∃j:Nat,i= .int .i64 j∧j+k=len+1∧odd len f j=odd len f 0∧Below w.heap.size w wr)
 case atStart=>exact⟨0,rfl,by omega,rfl,Below.refl _ _⟩
 case round=>
  obtain⟨j,rfl,hj,Y,U⟩:=hrel
  have M:=zc Y
  have J:=zc U
  clear Y U
  by_cases q:j<len
  ·have H:(j:Int)<(len:Int):=by omega
   have k0:=zeP (zfN HO.out J.out) q
   have X:=zc (zsi (f:=f) q)
   obtain⟨v,L⟩: ∃v,f j=v:=⟨_,rfl⟩
   rw[L] at k0
   have Z:=zc L
   clear L
   obtain⟨I,z⟩: ∃I,I=j+1:=⟨_,rfl⟩
   have ej:(j:Int)+1=(I:Int):=by omega
   have O:=zc z
   clear z
   go_wp2_with fail
   refine (zsg (v:Int) _).mono ?_
   rintro e w1 ⟨rfl,V⟩
   rw[V]
   clear V w1
   cases N:((v:Int) !=1) with
   |true=>
    go_wp2
    go_ret
    refine⟨⟨_,rfl,?_⟩,J.out⟩
    rw[←M.out,X.out,Z.out,N]
    simp
   |false=>
    go_wp2
    go_roundg (gk-1)
    case rel=>
     refine⟨I,rfl,by have:=O.out;omega,?_,J.out⟩
     rw[←M.out,X.out,Z.out,N,O.out]
     simp
    case measure=>omega
  ·have H: ¬(j:Int)<(len:Int):=by omega
   go_wp2
   go_ret
   refine⟨⟨_,rfl,?_⟩,J.out⟩
   rw[←M.out,zsj f (by omega)]
   rfl
theorem zsl (j g len:Nat) (f:Nat→Nat) (w:World) (h:w.ownsRow j 3 1 (.slice (some ⟨g,0,none⟩) len len) len (zat len f)) (H:len≤4294967296):
  Calls Tryz.prog 168 #[.slice (some ⟨g,0,none⟩) len len,.func (.func 169) #[] #[]] w fun e w'=>e= .returned (.bool (odd len f 0))∧Below w.heap.size w w':=by
 have A:=zc h
 clear h
 go_enter Tryz.func168,Tryz.ntmps168
 go_wp2_with fail
 refine (zsk j g len f _ A.out H).mono ?_
 rintro e L ⟨⟨v,rfl,q⟩,z⟩
 have J:=zc q
 have I:=zc z
 clear q z
 go_wp2
 go_ret
 exact⟨zh J.out,I.out⟩
def UM (w0:World) (base:Nat) (S:Sv) (m:Md) (gu:Nat) (f:Nat→Nat) (w:World):Prop:=
 (w.heap[gu]? =some (.cells #[.slice (some ⟨w0.heap.size+1,0,none⟩) m.ex.length m.ex.length] 152 (0,0))∧w0.heap.size+1<gu)∧
 w.ownsRow (w0.heap.size+1) 3 1 (.slice (some ⟨w0.heap.size+1,0,none⟩) m.ex.length m.ex.length) m.ex.length (zat m.ex.length f)∧OwnMd w base S m∧
 w.heap[w0.heap.size]? =some (.cells #[.slice S.rq.a m.rq.length S.rq.cap,.slice S.im.a m.im.length S.im.cap,.slice S.ep.a m.ep.length S.ep.cap,.slice S.st.a m.st.length S.st.cap,.slice S.ex.a m.ex.length S.ex.cap] 36 (0,0))∧Below w0.heap.size w0 w
theorem UM.later {w0 w w':World} {j:Nat} {S:Sv} {m:Md} {I:Nat} {f:Nat→Nat} (h:UM w0 j S m I f w) (q:Below w.heap.size w w'):UM w0 j S m I f w':=by
 obtain⟨⟨A,J⟩,M,L,H,z⟩:=h
 exact⟨⟨(q.block _ (Array.getElem?_eq_some_iff.1 A).1).trans A,J⟩,zfN M q,L.later q,(q.block _ (Array.getElem?_eq_some_iff.1 H).1).trans H,z.trans (q.mono z.size)⟩
theorem UM.used {w0 w:World} {j:Nat} {S:Sv} {m:Md} {z:Nat} {f:Nat→Nat} (h:UM w0 j S m z f w) (i:Nat):UM w0 j S m z (zaK f i) (w.setCell ⟨w0.heap.size+1,i,none⟩ (.int .i64 (f i+1:Nat))):=by
 obtain⟨⟨J,H⟩,q,I,L,A⟩:=h
 exact⟨⟨(zn (by omega)).trans J,H⟩,zgM q i _ rfl,zgN I (zgP q),(zn (by omega)).trans L,A.setCell (Nat.le_succ _) _⟩
theorem UM.congr {w0 w:World} {j:Nat} {S:Sv} {m:Md} {q:Nat} {f g:Nat→Nat} (h:UM w0 j S m q f w) (e: ∀k,k<m.ex.length→f k=g k):UM w0 j S m q g w:=by
 obtain⟨H,J,A,I,z⟩:=h
 exact⟨H,by rw[←zen e];exact J,A,I,z⟩
theorem zis {w0:World} {b0:Nat} {S:Sv} {m:Md} {j:Nat} {f:Nat→Nat} (i:Nat) (n:Int) (w:World) (h:UM w0 b0 S m j f w) (q:f i≤17179869184) (A:i<m.ex.length) (H:(i:Int)<n):
  Calls Tryz.prog 166 #[.int .i64 (i:Int),.int .i64 n,.pointer (some ⟨j,0,none⟩)] w fun e w'=>e= .returned (.bool true)∧UM w0 b0 S m j (zaK f i) w'∧∀k,k≠w0.heap.size+1→w'.heap[k]? =w.heap[k]?:=by
 refine (zsh i m.ex.length (w0.heap.size+1) (w0.heap.size+1) j n f w h.1.1 h.2.1 q A H).mono ?_
 rintro e w' ⟨rfl,rfl⟩
 exact⟨rfl,h.used i,fun k z=>zn z⟩
theorem zlj {n:Nat} {f:Nat→Nat}:odd n f 0=false↔∀k,k<n→f k=1:=by
 rw[Bool.eq_false_iff]
 constructor
 ·intro h k j
  by_cases e:f k=1
  ·exact e
  ·exact absurd (by
    simp only[odd,List.any_eq_true,List.mem_range,Bool.and_eq_true,decide_eq_true_eq]
    exact⟨k,j,Nat.zero_le _,by rw[bne_iff_ne];omega⟩) h
 ·intro h e
  simp only[odd,List.any_eq_true,List.mem_range,Bool.and_eq_true,decide_eq_true_eq] at e
  obtain⟨k,j,_,q⟩:=e
  rw[bne_iff_ne] at q
  have:=h k j
  omega
theorem zsm (q:Nat) (S:Sv) (m:Md) (w:World) (h:OwnMd w q S m) (hl:m.ex.length≤4294967296) (hs:m.st.length≤4294967296):
  Calls Tryz.prog 121 #[zp S m] w fun e w'=>zgO m e∧Below w.heap.size w w':=by
 obtain⟨i0,hi,aC,aG,aE⟩:=info_parts Tryz.infoInt
 have HH:=zc h
 clear h
 unfold zp
 go_enter Tryz.func121,Tryz.ntmps121
 go_wp2_with (first|(at_make;refine wpList_make_full _ rfl _ _ 152 rfl (w.heap.size+1) 3 i0 (.int .i64 0) 1 Tryz.underlying152 hi aC aG .i64 .i64 _ _ m.ex.length (by rfl) (by rfl) rfl rfl (by rw[aE];omega) (by unfold maxLen;omega) (by rw[zl];omega) ?_))
 intro X Y M
 rw[zld] at Y
 have bb:Below (w.heap.size+1) (w.alloc _) X:=⟨M.os,M.tape,M.output,M.size,fun k N=>M.block k (by rw[zl];exact N) (by simp)⟩
 have aa:Hid (Below w.heap.size w X):=((Below.refl _ _).alloc (Nat.le_refl _) _).trans (bb.mono (by omega))
 have al:Hid (X.heap[w.heap.size]? =some (.cells #[.slice S.rq.a m.rq.length S.rq.cap,.slice S.im.a m.im.length S.im.cap,.slice S.ep.a m.ep.length S.ep.cap,.slice S.st.a m.st.length S.st.cap,.slice S.ex.a m.ex.length S.ex.cap] 36 (0,0))):=(bb.block _ (by omega)).trans (heap_alloc_new w _)
 have ay:=zc (HH.out.later aa.out)
 have aj:Hid (X.ownsRow (w.heap.size+1) 3 1 (.slice (some ⟨w.heap.size+1,0,none⟩) m.ex.length m.ex.length) m.ex.length (zat m.ex.length (cE m.ex 0))):=by show World.ownsRow _ _ _ _ _ _ _;rw[show zat m.ex.length (cE m.ex 0)=zat m.ex.length (fun _=>0) from zen fun k _=>by simp[cE,zau]];exact Y
 clear Y M bb
 have aw:=(ziq aj.out).2
 go_upto_region 3 with fail
 have HA:Hid (Below X.heap.size X (X.alloc (.cells #[.slice (some ⟨w.heap.size+1,0,none⟩) m.ex.length m.ex.length] 152))):=(Below.refl _ _).alloc (Nat.le_refl _) _
 have hz:=(Array.getElem?_eq_some_iff.1 al.out).1
 refine zac (R:=UM w q S m X.heap.size (cE m.ex 0)) ⟨⟨heap_alloc_new X _,aw⟩,zfN aj.out HA.out,ay.out.later HA.out,(HA.out.block _ hz).trans al.out,aa.out.trans (HA.out.mono aa.out.size)⟩ ?_
 obtain⟨gu,an⟩: ∃gu,gu=X.heap.size:=⟨_,rfl⟩
 rw[←an]
 rw[←an] at aw
 clear HA al aa ay aj hz an X
 intro W z
 have HM:=zc z
 clear z
 obtain⟨c0,c1,c2,c3,c4,cf⟩:=zg HM.out.2.2.2.1
 go_wp2
 go_loopg [17] m.ex.length (fun k i wr=>∃j:Nat,i= .int .i64 j∧j+k=m.ex.length∧AheadTo m.ex j∧UM w q S m gu (cE m.ex j) wr)
 case atStart=>exact⟨0,rfl,by omega,fun i x hi=>absurd hi (Nat.not_lt_zero i),HM.out⟩
 case round=>
  obtain⟨j,rfl,hj,ah,z⟩:=hrel
  have AH:=zc ah
  have J:=zc z
  clear ah z
  clear c0 c1 c2 c3 c4 cf
  obtain⟨c0,c1,c2,c3,c4,cf⟩:=zg J.out.2.2.2.1
  by_cases H:j<m.ex.length
  ·have aA:(j:Int)<(m.ex.length:Int):=by omega
   obtain⟨g,hg,aH,x0,x1,x2,x3,x4,x5⟩:=J.out.2.2.1.expr H
   have HG:Hid (Value.slice S.ex.a m.ex.length S.ex.cap=Value.slice (some ⟨g,0,none⟩) m.ex.length S.ex.cap):=by show _=_;rw[hg]
   clear hg c0 c1 c2 c3 c4 cf
   rw[HG.out]
   have az:=zc (zdV H)
   obtain⟨x,ak⟩: ∃x,m.ex.getD j zi=x:=⟨_,rfl⟩
   rw[ak] at x0 x1 x2 x3 x4 x5
   have U:Hid (m.ex[j]=x):=az.out.symm.trans ak
   clear ak az
   obtain⟨Z,O⟩: ∃Z,Z=j+1:=⟨_,rfl⟩
   have ej:(j:Int)+1=(Z:Int):=by omega
   have HJ:=zc O
   clear O
   go_upto_region 6 with fail
   have HW:Hid (Below wr.heap.size wr (wr.alloc (.cells #[.int .i64 x.kind,.int .i64 x.num,.string x.name,.string x.field,.int .i64 x.l,.int .i64 x.r] 109))):=(Below.refl _ _).alloc (Nat.le_refl _) _
   refine zac (R:=fun W=>W.heap[wr.heap.size]? =some (.cells #[.int .i64 x.kind,.int .i64 x.num,.string x.name,.string x.field,.int .i64 x.l,.int .i64 x.r] 109 (0,0))∧UM w q S m gu (cE m.ex j) W) ⟨heap_alloc_new wr _,J.out.later HW.out⟩ ?_
   have av:wr.heap.size≠w.heap.size+1:=by have:=(ziq J.out.2.1).2;omega
   obtain⟨gx,ai⟩: ∃gx,gx=wr.heap.size:=⟨_,rfl⟩
   rw[←ai]
   rw[←ai] at av
   clear x0 x1 x2 x3 x4 x5 HW
   rintro W ⟨xb,z⟩
   clear ai J
   have XB:=zc xb
   have J:=zc z
   clear xb z
   obtain⟨x0,x1,x2,x3,x4,x5,xf⟩:=zx XB.out
   go_wp2_with fail
   refine (zlh x.kind _).mono ?_
   rintro e w2 ⟨rfl,V⟩
   rw[V]
   clear V w2
   cases ht:zaa x.kind with
   |false=>
    go_wp2
    rw[←HG.out]
    go_roundg (gk-1)
    case rel=>exact⟨Z,rfl,by have:=HJ.out;omega,by rw[HJ.out];exact AH.out.next H (fun k=>by rw[U.out,ht] at k;cases k),by rw[HJ.out];exact J.out.congr fun k _=>zlb H (by rw[U.out];exact ht) k⟩
    case measure=>omega
   |true=>
    go_wp2_with fail
    by_cases a1:0≤x.l∧x.l<(j:Int)
    ·obtain⟨ln,ag⟩: ∃ln:Nat,x.l=(ln:Int):=⟨x.l.toNat,by omega⟩
     have ap:=zgK (m.ex.take j)
     have ax:(m.ex.take j).length≤4294967296:=by rw[List.length_take];omega
     rw[ag]
     refine (zis (w0:=w) (b0:=q) (S:=S) (m:=m) (f:=cE m.ex j) ln (j:Int) W J.out (by have:=ap (ln:Int);unfold cE;omega) (by omega) (by omega)).mono ?_
     rintro e W2 ⟨rfl,ad,N⟩
     have A:=zc ad
     have aF:=zc ((N gx av).trans XB.out)
     clear ad N x0 x1 x2 x3 x4 x5 xf
     obtain⟨x0,x1,x2,x3,x4,x5,xf⟩:=zx aF.out
     go_wp2_with fail
     by_cases a2:0≤x.r∧x.r<(j:Int)
     ·obtain⟨rn,ae⟩: ∃rn:Nat,x.r=(rn:Int):=⟨x.r.toNat,by omega⟩
      rw[ae]
      refine (zis (w0:=w) (b0:=q) (S:=S) (m:=m) (f:=zaK (cE m.ex j) ln) rn (j:Int) W2 A.out (by have:=ap (rn:Int);unfold zaK cE;split<;>omega) (by omega) (by omega)).mono ?_
      rintro e W3 ⟨rfl,I,N⟩
      have am:=zc I
      have af:Hid (∀k:Nat,zaK (zaK (cE m.ex j) ln) rn k=cE m.ex (j+1) k):=fun k=>by have:=zla H (by rw[U.out];exact ht) (by rw[U.out];omega) (by rw[U.out];omega) k;rw[U.out,ag,ae] at this;exact this
      have aD:Hid (AheadTo m.ex (j+1)):=AH.out.next H (fun _=>by rw[U.out];omega)
      clear I N x0 x1 x2 x3 x4 x5 xf ag ae a1 a2 ap ax
      go_wp2
      rw[←HG.out]
      go_roundg (gk-1)
      case rel=>exact⟨Z,rfl,by have:=HJ.out;omega,by rw[HJ.out];exact aD.out,by rw[HJ.out];exact am.out.congr fun k _=>af.out k⟩
      case measure=>omega
     ·refine (zir x.r (j:Int) _ W2 a2).mono ?_
      rintro e w3 ⟨rfl,V⟩
      rw[V]
      clear V w3
      go_wp2
      go_ret
      exact⟨zcY (fun (t:Tree m)=>absurd t.ahead (AheadTo.not H (by rw[U.out];exact ht) (by rw[U.out];omega))),A.out.2.2.2.2⟩
    ·refine (zir x.l (j:Int) _ W a1).mono ?_
     rintro e w2 ⟨rfl,V⟩
     rw[V]
     clear V w2
     go_wp2
     go_ret
     exact⟨zcY (fun (t:Tree m)=>absurd t.ahead (AheadTo.not H (by rw[U.out];exact ht) (by rw[U.out];omega))),J.out.2.2.2.2⟩
  ·have aA: ¬(j:Int)<(m.ex.length:Int):=by omega
   obtain rfl:j=m.ex.length:=by omega
   have HA:=zc AH.out.all
   have HC:Hid (UM w q S m gu (cS m 0) wr):=J.out.congr fun k _=>by simp[cE,cS,zaN]
   go_wp2
   go_loopg [44] m.st.length (fun k i wr=>∃j:Nat,i= .int .i64 j∧j+k=m.st.length∧(∀s∈m.st.take j,0≤s.expr∧s.expr<(m.ex.length:Int))∧UM w q S m gu (cS m j) wr)
   case atStart=>exact⟨0,rfl,by omega,(fun s hs=>by simp at hs),HC.out⟩
   case round=>
    obtain⟨j,rfl,aI,ah,z⟩:=hrel
    have AS:=zc ah
    have A:=zc z
    clear ah z c0 c1 c2 c3 c4 cf
    obtain⟨c0,c1,c2,c3,c4,cf⟩:=zg A.out.2.2.2.1
    by_cases L:j<m.st.length
    ·have ao:(j:Int)<(m.st.length:Int):=by omega
     obtain⟨s,au⟩: ∃s,m.st[j]? =some s:=⟨_,List.getElem?_eq_getElem L⟩
     obtain⟨g,hg,ab⟩:=OwnR.elem (f:=smL) (m:=3) (fun _=>rfl) A.out.2.2.1.st au
     have k0:=ab 0 (by omega)
     have k1:=ab 1 (by omega)
     have k2:=ab 2 (by omega)
     simp only[smL,Nat.add_zero,List.getElem?_cons_zero,List.getElem?_cons_succ] at k0 k1 k2
     have HG:Hid (Value.slice S.st.a m.st.length S.st.cap=Value.slice (some ⟨g,0,none⟩) m.st.length S.st.cap):=by show _=_;rw[hg]
     obtain⟨_,ac⟩:=List.getElem?_eq_some_iff.1 au
     have HS:Hid (m.st[j]=s):=ac
     clear hg ab au ac
     rw[HG.out]
     obtain⟨Z,O⟩: ∃Z,Z=j+1:=⟨_,rfl⟩
     have ej:(j:Int)+1=(Z:Int):=by omega
     have HJ:=zc O
     clear O
     go_upto_region 12 with fail
     have HW:Hid (Below wr.heap.size wr (wr.alloc (.cells #[.int .i64 s.kind,.string s.name,.int .i64 s.expr] 107))):=(Below.refl _ _).alloc (Nat.le_refl _) _
     refine zac (R:=fun W=>W.heap[wr.heap.size]? =some (.cells #[.int .i64 s.kind,.string s.name,.int .i64 s.expr] 107 (0,0))∧UM w q S m gu (cS m j) W) ⟨heap_alloc_new wr _,A.out.later HW.out⟩ ?_
     clear k0 k1 k2 HW c0 c1 c2 c3 c4 cf
     rintro W ⟨xb,z⟩
     have J:=zc z
     obtain⟨k0,k1,k2,kf⟩:=zbJ xb
     clear z xb
     obtain⟨c0,c1,c2,c3,c4,cf⟩:=zg J.out.2.2.2.1
     go_wp2_with fail
     by_cases a1:0≤s.expr∧s.expr<(m.ex.length:Int)
     ·obtain⟨en,aq⟩: ∃en:Nat,s.expr=(en:Int):=⟨s.expr.toNat,by omega⟩
      have ar:Hid (∀s∈m.st.take (j+1),0≤s.expr∧s.expr<(m.ex.length:Int)):=by
       intro y hy
       rw[List.take_succ_eq_append_getElem L,List.mem_append] at hy
       rcases hy with hy|hy
       ·exact AS.out y hy
       ·simp only[List.mem_singleton] at hy
        rw[hy,HS.out]
        omega
      have af:Hid (∀k:Nat,zaK (cS m j) en k=cS m (j+1) k):=fun k=>by have:=zlc (ex:=m.ex) L (by rw[HS.out];omega) k;rw[HS.out,aq] at this;exact this
      rw[aq]
      refine (zis (w0:=w) (b0:=q) (S:=S) (m:=m) (f:=cS m j) en _ W J.out (by unfold cS;have:=zgK m.ex (en:Int);have:=zkZ (m.st.take j) (en:Int);rw[List.length_take] at this;omega) (by omega) (by omega)).mono ?_
      rintro e W2 ⟨rfl,I,N⟩
      have am:=zc I
      clear I N k0 k1 k2 kf c0 c1 c2 c3 c4 cf aq a1
      go_wp2
      rw[←HG.out]
      go_roundg (gk-1)
      case rel=>exact⟨Z,rfl,by have:=HJ.out;omega,by rw[HJ.out];exact ar.out,by rw[HJ.out];exact am.out.congr fun k _=>af.out k⟩
      case measure=>omega
     ·refine (zir s.expr _ _ W a1).mono ?_
      rintro e w3 ⟨rfl,V⟩
      rw[V]
      clear V w3
      go_wp2
      go_ret
      exact⟨zcY (fun (t:Tree m)=>by have:=t.stm _ (List.getElem_mem L);rw[HS.out] at this;omega),J.out.2.2.2.2⟩
    ·have ao: ¬(j:Int)<(m.st.length:Int):=by omega
     obtain rfl:j=m.st.length:=by omega
     have ar:Hid (∀s∈m.st,0≤s.expr∧s.expr<(m.ex.length:Int)):=by have:=AS.out;rw[List.take_length] at this;exact this
     obtain⟨t0,tf⟩:=zli A.out.1.1
     go_wp2_with fail
     refine (zsl (w.heap.size+1) (w.heap.size+1) m.ex.length (cS m m.st.length) _ A.out.2.1 hl).mono ?_
     rintro e w3 ⟨rfl,hb⟩
     have aB:Hid (Below w.heap.size w w3):=A.out.2.2.2.2.trans (hb.mono A.out.2.2.2.2.size)
     clear hb
     cases ho:odd m.ex.length (cS m m.st.length) 0 with
     |true=>
      go_wp2
      go_ret
      exact⟨zcY (fun (t:Tree m)=>by
       have:=zlj.2 (fun k N=>by have:=t.once k N;show cS m m.st.length k=1;unfold cS;rw[List.take_length];omega)
       rw[ho] at this
       cases this),aB.out⟩
     |false=>
      go_wp2
      go_ret
      exact⟨zle ⟨HA.out,ar.out,fun k N=>by have:=zlj.1 ho k N;unfold cS at this;rw[List.take_length] at this;exact this⟩,aB.out⟩
end Go.Proofs.YtjdddblpfbmpaaaGreat
