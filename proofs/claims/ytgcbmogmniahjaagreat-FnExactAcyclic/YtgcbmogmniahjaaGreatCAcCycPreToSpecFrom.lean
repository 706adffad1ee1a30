/-
  GraphOk of both sides,as chapter 15's functions ask it.
  What the laws' eqMod answers of a program made twice: the walk.
  The laws' comparers of graphs,where both show the same: the walks.
  What a graph of a small zdH holds. No program is spoken of but for the numbers of its types.
  What spec.l15From answers: the walk.
-/
import Derived.Test.YtgcbmogmniahjaaGreatCAcImplOrderToImplGraph
namespace Go.Proofs.YtgcbmogmniahjaaGreat
set_option maxRecDepth 100000
set_option maxHeartbeats 6400000
open Go.RowKit Go.PlainAid
theorem zw9:GrC 8:=fun h G g w z q=>zwm zvY zwa h G g w z q
theorem zwA:GrC 10:=fun q G g w A z=>(zw8 zvZ zwc q G g w A z).mono fun _ _ h=>⟨by obtain⟨b,e,k⟩:=h.1;exact⟨b,e,k.trans (zqT g).symm⟩,h.2⟩
open Go.Sort
theorem zwB (Z b2:Nat) (Y X:Sv) (m:Md) (w:World) (h1:OwnMd w Z Y m) (h2:OwnMd w b2 X m) (hf:zdK m):
  Calls Tryz.prog 69 #[zl Y m,zl X m] w fun e w'=>e= .returned (.bool true)∧Below w.heap.size w w':=by
 have H1:=zc h1
 have H2:=zc h2
 have HF:=zc hf
 clear h1 h2 hf
 unfold zl
 go_enter Tryz.func69,Tryz.ntmps69
 go_upto_region 1 with fail
 refine zx (R:=TwoM w Z b2 Y X m m) (zhG w Z b2 Y X m m H1.out H2.out) ?_
 clear H1 H2
 intro w0 h
 have T0:=zc h
 clear h
 obtain⟨V,J,L,O,K,N⟩:=zj T0.out.1
 obtain⟨M,I,z,H,U,A⟩:=zj T0.out.2.1
 go_wp2_with fail
 refine (zk0 Z b2 Y.rq X.rq m.rq w0 (by rw[←zeN];exact T0.out.2.2.1.rq) (by rw[←zeN];exact T0.out.2.2.2.1.rq) HF.out.1).mono ?_
 rintro e w1 ⟨rfl,q⟩
 have T1:=zc (T0.out.later q)
 clear q V J L O K N M I z H U A
 obtain⟨V,J,L,O,K,N⟩:=zj T1.out.1
 obtain⟨M,I,z,H,U,A⟩:=zj T1.out.2.1
 go_wp2_with fail
 refine (zqh Z b2 Y.im X.im m.im w1 T1.out.2.2.1.im T1.out.2.2.2.1.im HF.out.2.1).mono ?_
 rintro e w2 ⟨rfl,q⟩
 have T2:=zc (T1.out.later q)
 clear q V J L O K N M I z H U A
 obtain⟨V,J,L,O,K,N⟩:=zj T2.out.1
 obtain⟨M,I,z,H,U,A⟩:=zj T2.out.2.1
 go_wp2_with fail
 refine (zql Z b2 Y.ep X.ep m.ep w2 T2.out.2.2.1.ep T2.out.2.2.2.1.ep HF.out.2.2.1).mono ?_
 rintro e w3 ⟨rfl,q⟩
 have T3:=zc (T2.out.later q)
 clear q V J L O K N M I z H U A
 obtain⟨V,J,L,O,K,N⟩:=zj T3.out.1
 obtain⟨M,I,z,H,U,A⟩:=zj T3.out.2.1
 go_wp2_with fail
 refine (zqp Z b2 Y.st X.st m.st w3 T3.out.2.2.1.st T3.out.2.2.2.1.st HF.out.2.2.2.1).mono ?_
 rintro e w4 ⟨rfl,q⟩
 have T4:=zc (T3.out.later q)
 clear q V J L O K N M I z H U A
 obtain⟨V,J,L,O,K,N⟩:=zj T4.out.1
 obtain⟨M,I,z,H,U,A⟩:=zj T4.out.2.1
 go_wp2_with fail
 refine (zqt Z b2 Y.ex X.ex m.ex w4 T4.out.2.2.1.ex T4.out.2.2.2.1.ex HF.out.2.2.2.2).mono ?_
 rintro e w5 ⟨rfl,q⟩
 have T5:=zc (T4.out.later q)
 clear q V J L O K N M I z H U A
 obtain⟨V,J,L,O,K,N⟩:=zj T5.out.1
 obtain⟨M,I,z,H,U,A⟩:=zj T5.out.2.1
 go_wp2
 go_ret
 exact⟨rfl,T5.out.2.2.2.2⟩
theorem zwC (q z:Option Addr) (A h:Nat) (w:World):Calls Tryz.prog 39 #[.slice q 0 A,.slice z 0 h] w fun e w'=>e= .returned (.bool true)∧Below w.heap.size w w':=by
 go_enter Tryz.func39,Tryz.ntmps39
 go_wp2
 go_loopg [5] 1 (fun k i wr=>k=1∧i= .int .i64 0∧wr=w)
 case atStart=>exact⟨rfl,rfl,rfl⟩
 case round=>
  obtain⟨rfl,rfl,rfl⟩:=hrel
  go_wp2
  go_ret
  exact⟨rfl,Below.refl _ _⟩
theorem zwD (O b2 g1 g2:Nat) (X r2:Rw) (U V:List Sv) (l:List Md) (w:World) (hu:U.length=l.length) (hv:V.length=l.length) (q:OwnR w O 54 5 X l.length ((U.zip l).flatMap mdL)) (h:OwnR w b2 54 5 r2 l.length ((V.zip l).flatMap mdL)) (m1: ∀x∈U.zip l,OwnMd w O x.1 x.2) (m2: ∀x∈V.zip l,OwnMd w b2 x.1 x.2) (e1:X.a=some ⟨g1,0,none⟩) (e2:r2.a=some ⟨g2,0,none⟩) (hl:l.length≤4294967296) (hf: ∀m∈l,zdK m):
  Calls Tryz.prog 39 #[.slice (some ⟨g1,0,none⟩) l.length X.cap,.slice (some ⟨g2,0,none⟩) l.length r2.cap] w fun e w'=>e= .returned (.bool true)∧Below w.heap.size w w':=by
 have H1:=zc (zeQ hu q)
 have H2:=zc (zeQ hv h)
 have M1:=zc m1
 have M2:=zc m2
 have E1:=zc e1
 have E2:=zc e2
 have HU:=zc hu
 have HV:=zc hv
 have HF:=zc hf
 clear q h e1 e2 m1 m2 hu hv hf
 go_enter Tryz.func39,Tryz.ntmps39
 go_wp2
 go_loopg [5] l.length (fun k i wr=>∃j:Nat,i= .int .i64 j∧j+k=l.length∧Below w.heap.size w wr)
 case atStart=>exact⟨0,rfl,by omega,Below.refl _ _⟩
 case round=>
  obtain⟨j,rfl,hj,hb⟩:=hrel
  have A:=zc hb
  clear hb
  by_cases N:j<l.length
  ·have I:(j:Int)<(l.length:Int):=by omega
   obtain⟨x,L⟩:=zet N
   obtain⟨s,hs⟩:=zdS HU.out L
   obtain⟨t,Y⟩:=zdS HV.out L
   obtain⟨g',ga,q⟩:=OwnR.elem (f:=mdL) (m:=5) (fun _=>rfl) (H1.out.later A.out) hs
   obtain rfl:g'=g1:=by have:=ga.symm.trans E1.out;simpa using this
   obtain⟨g',gb,h⟩:=OwnR.elem (f:=mdL) (m:=5) (fun _=>rfl) (H2.out.later A.out) Y
   obtain rfl:g'=g2:=by have:=gb.symm.trans E2.out;simpa using this
   have cQ: ∀d K,Calls Tryz.prog 69 #[zl s x,zl t x] (grow (redrawn wr d) K) fun e ab=>e= .returned (.bool true)∧∃p:Regrown,ab=grow (redrawn wr p.d) p.os:=fun d K=>Calls.regrown_of (zwB O b2 s t x _ (((M1.out _ (List.mem_of_getElem? hs)).later A.out).later (below_regrown wr d K)) (((M2.out _ (List.mem_of_getElem? Y)).later A.out).later (below_regrown wr d K)) (HF.out x (List.mem_of_getElem? L)))
   unfold zl at cQ
   have C0:=zc (q 0 (by omega))
   have D0:=zc (h 0 (by omega))
   have C1:=zc (q 1 (by omega))
   have D1:=zc (h 1 (by omega))
   have C2:=zc (q 2 (by omega))
   have D2:=zc (h 2 (by omega))
   have C3:=zc (q 3 (by omega))
   have D3:=zc (h 3 (by omega))
   have C4:=zc (q 4 (by omega))
   have D4:=zc (h 4 (by omega))
   clear q h ga gb L hs Y
   obtain⟨J,H⟩: ∃J,J=j+1:=⟨_,rfl⟩
   have ej:(j:Int)+1=(J:Int):=by omega
   have HJ:=zc H
   clear H
   go_wp2
   have k0:=cell_regrown C0.out
   have l0:=cell_regrown D0.out
   have k1:=cell_regrown C1.out
   have l1:=cell_regrown D1.out
   have k2:=cell_regrown C2.out
   have l2:=cell_regrown D2.out
   have k3:=cell_regrown C3.out
   have l3:=cell_regrown D3.out
   have k4:=cell_regrown C4.out
   have l4:=cell_regrown D4.out
   simp only[Nat.add_zero] at k0 l0
   refine wp_region_quiet_below (by kernel_rfl) (by kernel_rfl) ?_
   repeat (go_big_quiet_step (exact cQ _ _))
   refine wpQuiet_nil ?_
   intro w2 M
   obtain⟨⟨dq,Z⟩,z⟩:=M
   have aa:Hid (Below w.heap.size w w2):=by show Below _ _ _;rw[z];exact A.out.trans ((below_regrown wr dq Z).mono A.out.size)
   clear z k0 l0 C0 D0 k1 l1 C1 D1 k2 l2 C2 D2 k3 l3 C3 D3 k4 l4 C4 D4 cQ
   go_wp2
   go_roundg (gk-1)
   case rel=>exact⟨J,rfl,by have:=HJ.out;omega,aa.out⟩
   case measure=>omega
  ·have I: ¬(j:Int)<(l.length:Int):=by omega
   go_wp2
   go_ret
   exact⟨rfl,A.out⟩
def ziY (g:Gr):Prop:=g.ps.length≤4294967296∧g.ms.length≤4294967296∧g.ls.length≤4294967296∧∀m∈g.ms,zdK m
theorem zwE (J b2:Nat) (h q:GS) (g:Gr) (w:World) (A:GrOwn w J h g) (z:GrOwn w b2 q g) (I:ziY g):
  Calls Tryz.prog 39 #[.slice h.mr.a g.ms.length h.mr.cap,.slice q.mr.a g.ms.length q.mr.cap] w fun e w'=>e= .returned (.bool true)∧Below w.heap.size w w':=by
 by_cases H:g.ms.length=0
 ·rw[H]
  exact zwC _ _ _ _ w
 ·rcases A.ms.nil_or with ⟨_,_,e⟩|⟨N,K⟩
  ·exact absurd e H
  ·rcases z.ms.nil_or with ⟨_,_,e⟩|⟨M,L⟩
   ·exact absurd e H
   ·rw[K,L]
    exact zwD J b2 N M h.mr q.mr h.sv q.sv g.ms w A.len z.len A.ms z.ms A.md z.md K L I.2.1 I.2.2.2
structure TwoG (w0:World) (b1 b2:Nat) (G1 G2:GS) (g:Gr) (w:World):Prop where
 x:Bk w w0.heap.size (grC G1 g) 32
 y:Bk w (w0.heap.size+1) (grC G2 g) 32
 o1:GrOwn w b1 G1 g
 o2:GrOwn w b2 G2 g
 b:Below w0.heap.size w0 w
theorem TwoG.later {w0 w w':World} {H b2:Nat} {z A:GS} {g:Gr} (h:TwoG w0 H b2 z A g w) (q:Below w.heap.size w w'):TwoG w0 H b2 z A g w':=⟨h.x.later q,h.y.later q,h.o1.later q,h.o2.later q,zaf h.b q⟩
theorem zwF (w:World) (H b2:Nat) (h q:GS) (g:Gr) (J:GrOwn w H h g) (I:GrOwn w b2 q g):TwoG w H b2 h q g ((w.alloc (.cells (grC h g) 32)).alloc (.cells (grC q g) 32)):=by
 have A:=zaB w (.cells (grC h g) 32)
 have z:=zaB (w.alloc (.cells (grC h g) 32)) (.cells (grC q g) 32)
 refine⟨Bk.later (heap_alloc_new w _) z,?_,(J.later A).later z,(I.later A).later z,zaf A z⟩
 have:=heap_alloc_new (w.alloc (.cells (grC h g) 32)) (.cells (grC q g) 32)
 rw[zg] at this
 exact this
theorem zwG (H b2:Nat) (A z:GS) (g:Gr) (w:World) (h1:GrOwn w H A g) (h2:GrOwn w b2 z g) (hf:ziY g):
  Calls Tryz.prog 11 #[grD A g,grD z g] w fun e w'=>e= .returned (.bool true)∧Below w.heap.size w w':=by
 have H1:=zc h1
 have H2:=zc h2
 have Z:=zc hf
 clear h1 h2 hf
 unfold grD
 go_enter Tryz.func11,Tryz.ntmps11
 go_upto_region 1 with fail
 refine zx (R:=TwoG w H b2 A z g) (zwF w H b2 A z g H1.out H2.out) ?_
 clear H1 H2
 intro w0 h
 have J:=zc h
 clear h
 obtain⟨Y,O,U,X⟩:=zo J.out.x
 obtain⟨V,N,M,L⟩:=zo J.out.y
 go_wp2_with fail
 refine (zk0 H b2 A.pr z.pr g.ps w0 J.out.o1.ps J.out.o2.ps Z.out.1).mono ?_
 rintro e w1 ⟨rfl,q⟩
 have I:=zc (J.out.later q)
 clear q Y O U X V N M L J
 obtain⟨Y,O,U,X⟩:=zo I.out.x
 obtain⟨V,N,M,L⟩:=zo I.out.y
 go_wp2_with fail
 refine (zwE H b2 A z g w1 I.out.o1 I.out.o2 Z.out).mono ?_
 rintro e w2 ⟨rfl,q⟩
 have K:=zc (I.out.later q)
 clear q Y O U X V N M L I
 obtain⟨Y,O,U,X⟩:=zo K.out.x
 obtain⟨V,N,M,L⟩:=zo K.out.y
 go_wp2_with fail
 refine (zq7 H b2 A.lr z.lr g.ls w2 K.out.o1.ls K.out.o2.ls Z.out.2.2.1).mono ?_
 rintro e w3 ⟨rfl,q⟩
 have T3:=zc (K.out.later q)
 clear q Y O U X V N M L K
 go_wp2
 go_ret
 exact⟨rfl,T3.out.b⟩
theorem zwH {A:GA} {g:Gr} (H:A.ms.map (·.2)=g.ms) (h:zfF A g≤1048576) (J: ∀x∈A.ms,zaW x.2.ex):GdG g∧ziY g∧(∀x∈A.ms,zfG x.2)∧A.ms.length≤1048576:=by
 have e:zfF A g=(g.ps.length+zF zbZ g.ps)+(A.ms.length+zF zds A.ms)+(g.ls.length+zF zeu g.ls):=rfl
 have M:A.ms.length=g.ms.length:=by rw[←H,List.length_map]
 have w: ∀x∈A.ms,zbv x.2≤1048576:=fun x q=>by have:=zdt (c:=zds) q;have O:zds x=zbv x.2:=rfl;omega
 have N:zaq (zC g)≤zF zds A.ms:=by
  unfold zaq zC zF
  rw[←H,List.map_map,List.map_map]
  clear H h J e M w
  induction A.ms with
  |nil=>exact Nat.le_refl _
  |cons x l L=>
   rw[List.map_cons,List.sum_cons,List.map_cons,List.sum_cons]
   have:x.2.rq.length≤zds x:=by
    show _≤zbv x.2
    unfold zbv
    omega
   exact Nat.add_le_add this L
 have I: ∀x∈A.ms,zfG x.2:=fun x q=>by
  have:=w x q
  unfold zbv at this
  exact⟨by omega,by omega,by omega,by omega,by omega⟩
 refine⟨⟨fun m z=>?_,fun p K=>?_,by omega,by omega,by omega,by omega⟩,⟨by omega,by omega,by omega,fun m z=>?_⟩,I,by omega⟩
 ·rw[←H] at z
  obtain⟨x,q,rfl⟩:=List.mem_map.1 z
  exact⟨w x q,J x q⟩
 ·have:=zdt (c:=zbZ) K
  have O:zbZ p=p.size:=rfl
  omega
 ·rw[←H] at z
  obtain⟨x,q,rfl⟩:=List.mem_map.1 z
  have:=I x q
  unfold zfG at this
  exact⟨by omega,by omega,by omega,by omega,by omega⟩
theorem zwI (base:Nat) (G:GS) (g:Gr) (z:Nat) (hm:z<g.ms.length) (w:World) (ho:GrOwn w base G g) (hn:1≤g.ms.length) (ax:g.ms.length≤8) (hl:g.ls.length≤1048576) (hr: ∀l∈g.ls,0≤l.frm∧l.frm<(g.ms.length:Int)∧0≤l.to∧l.to<(g.ms.length:Int)):
  Calls Tryz.prog 41 #[grD G g,.int .i64 (z:Int)] w fun e w'=>ziS w g.ms.length (zai g.ls g.ms.length (zay g.ms.length z)) e w':=by
 have HR:=zc (RowAt.of (f:=lkL) (m:=3) (fun _=>rfl) ho.ls)
 have HC:=zc hr
 clear ho hr
 obtain⟨i0,hi,ai,am,ak⟩:=info_parts Tryz.infoBl
 unfold grD
 go_enter Tryz.func41,Tryz.ntmps41
 go_upto_region 1 with fail
 obtain⟨A,O⟩: ∃A,A=w.heap.size:=⟨_,rfl⟩
 rw[←O]
 refine zx (R:=fun W=>Bk W A (grC G g) 32∧Below w.heap.size w W) (by rw[O];exact⟨heap_alloc_new w _,zaB w _⟩) ?_
 rintro W0 ⟨hx,hb⟩
 have av:w.heap.size≤A:=by omega
 clear O
 have X0:=zc hx
 have V:=zc hb
 have ah:A<W0.heap.size:=(Array.getElem?_eq_some_iff.1 hx).1
 clear hx hb
 obtain⟨c0,c1,M,cf⟩:=zo X0.out
 go_wp2_with (first|(at_make;refine wpList_make_full W0 rfl _ _ 58 rfl w.heap.size 4 i0 _ 1 Tryz.underlying58 hi ai am .i64 .i64 _ _ g.ms.length (by rfl) (by rfl) rfl rfl (by rw[ak];omega) (by unfold maxLen;omega) V.out.size ?_))
 intro w1 q L
 have aa:Below W0.heap.size W0 w1:=(Below.refl _ _).grown L (Nat.le_refl _) (fun k h=>by cases h)
 obtain⟨K,Z⟩: ∃K,K=W0.heap.size:=⟨_,rfl⟩
 have RR:Hid (RchW w w1 G g A K g.ms.length (List.replicate g.ms.length false)):=by
  refine⟨X0.out.later aa,?_,by omega,zaf V.out aa⟩
  unfold OwnBl OwnR
  rw[toList_madeCells_one] at q
  rw[Z,List.map_replicate]
  exact q
 rw[←Z]
 clear q L aa Z X0 V ah c0 c1 M cf
 obtain⟨c0,c1,M,cf⟩:=zo RR.out.x
 have f0:=RR.out.r.free z
 have b0:=RR.out.r.cell (j:=z) (v:=false) (by rw[List.getElem?_replicate,if_pos (by omega)])
 have ar:(z:Int)<(g.ms.length:Int):=by omega
 have R1:=zc (RR.out.set z)
 go_upto_region 3 with fail
 obtain⟨w2,ab⟩: ∃w2,w2=w1.setCell ⟨K,z,none⟩ (.bool true):=⟨_,rfl⟩
 rw[←ab] at R1 ⊢
 clear ab RR f0 b0 c0 c1 M cf
 have an:(List.replicate g.ms.length false).length=g.ms.length:=List.length_replicate ..
 change Hid (RchW w w2 G g A K g.ms.length (zay g.ms.length z)) at R1
 go_wp2
 go_loopg [6,7] g.ms.length (fun k s4 s5 wr=>∃r:Nat,s4= .int .i64 r∧r+k=g.ms.length∧RchW w wr G g A K g.ms.length (zai g.ls r (zay g.ms.length z)))
 case atStart=>exact⟨0,rfl,by omega,R1.out⟩
 case round=>
  obtain⟨r,rfl,hr,hw⟩:=hrel
  have RW:=zc hw
  clear hw R1
  obtain⟨c0,c1,M,cf⟩:=zo RW.out.x
  by_cases ap:r<g.ms.length
  ·have ae:(r:Int)<(g.ms.length:Int):=by omega
   obtain⟨r1,ac⟩: ∃r1,r1=r+1:=⟨_,rfl⟩
   have er:(r:Int)+1=(r1:Int):=by omega
   have U:=zc ac
   clear ac
   go_wp2
   clear c0 c1 M cf
   go_loopg [7] g.ls.length (fun k s5 wq=>∃i:Nat,s5= .int .i64 i∧i+k=g.ls.length∧RchW w wq G g A K g.ms.length (zbf (g.ls.take i) (zai g.ls r (zay g.ms.length z))))
   case atStart=>exact⟨0,rfl,by omega,RW.out⟩
   case round=>
    obtain⟨i,rfl,ao,hw⟩:=hrel
    have H:=zc hw
    clear hw
    obtain⟨c0,c1,M,cf⟩:=zo H.out.x
    by_cases al:i<g.ls.length
    ·have ag:(i:Int)<(g.ls.length:Int):=by omega
     obtain⟨l,J⟩: ∃l,g.ls[i]? =some l:=⟨_,List.getElem?_eq_getElem al⟩
     obtain⟨y0,y1,y2,y3⟩:=HC.out l (List.mem_of_getElem? J)
     obtain⟨bl,aq,af,hc⟩:=(HR.out.later H.out.b).get J
     have k0:=hc 0 _ rfl
     have k2:=hc 2 _ rfl
     have HN:=zc (zmN J (zai g.ls r (zay g.ms.length z)))
     simp only[Nat.add_zero] at k0
     clear hc J
     obtain⟨fr,Y⟩: ∃fr:Nat,l.frm=fr:=⟨l.frm.toNat,by omega⟩
     obtain⟨X,N⟩: ∃X:Nat,l.to=X:=⟨l.to.toNat,by omega⟩
     obtain⟨b,hb⟩: ∃b,b=zbf (g.ls.take i) (zai g.ls r (zay g.ms.length z)):=⟨_,rfl⟩
     rw[←hb] at H HN
     clear hb
     have aj:=H.out.r.len
     obtain⟨v,hv⟩: ∃v,b[fr]? =some v:=⟨_,List.getElem?_eq_getElem (by omega)⟩
     obtain⟨u,hu⟩: ∃u,b[X]? =some u:=⟨_,List.getElem?_eq_getElem (by omega)⟩
     have HS:Hid (zbM b l=if v=true then b.set X true else b):=by
      show zbM b l=_
      unfold zbM
      rw[Y,N,Int.toNat_natCast,Int.toNat_natCast,List.getD,hv]
      rfl
     have b0:=H.out.r.cell hv
     have b1:=H.out.r.cell hu
     have f1:=H.out.r.free X
     have au:(fr:Int)<(g.ms.length:Int):=by omega
     have aw:(X:Int)<(g.ms.length:Int):=by omega
     have Q1:=zc (H.out.set X)
     rw[Y] at k0
     rw[N] at k2
     rw[af] at M
     clear Y N af hv hu aj y0 y1 y2 y3
     obtain⟨i1,ad⟩: ∃i1,i1=i+1:=⟨_,rfl⟩
     have ei:(i:Int)+1=(i1:Int):=by omega
     have I:=zc ad
     clear ad
     cases v with
     |true=>
      go_wp2
      go_roundg (gk-1)
      case rel=>exact⟨i1,rfl,by have:=I.out;omega,by rw[I.out,HN.out,HS.out];exact Q1.out⟩
      case measure=>omega
     |false=>
      go_wp2
      go_roundg (gk-1)
      case rel=>exact⟨i1,rfl,by have:=I.out;omega,by rw[I.out,HN.out,HS.out];exact H.out⟩
      case measure=>omega
    ·have ag: ¬(i:Int)<(g.ls.length:Int):=by omega
     have QE:Hid (RchW w wr G g A K g.ms.length (zai g.ls r1 (zay g.ms.length z))):=by
      show RchW ..
      rw[U.out,zhL]
      have:=H.out
      rw[List.take_of_length_le (by omega)] at this
      exact this
     go_wp2
     go_roundg (g.ms.length-r1)
     case rel=>exact⟨r1,rfl,by have:=U.out;omega,QE.out⟩
     case measure=>have:=U.out;omega
  ·have ae: ¬(r:Int)<(g.ms.length:Int):=by omega
   obtain rfl:r=g.ms.length:=by omega
   go_wp2
   go_ret
   exact⟨K,rfl,RW.out.r,RW.out.b⟩
end Go.Proofs.YtgcbmogmniahjaaGreat
