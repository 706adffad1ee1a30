/-
  GraphOk of both sides,as chapter 15's functions ask it.
  What the laws' eqMod answers of a program made twice: the walk.
  The laws' comparers of graphs,where both show the same: the walks.
  What a graph of a small zdQ holds. No program is spoken of but for the numbers of its types.
  What spec.l15From answers: the walk.
  Rows of the call's own,of elements of any make: grown,kept,marked. No program is spoken of.
  Code in memory: rows of instructions,names and places. No program is spoken of.
  Who comes to whom,as rows of numbers. No program is spoken of but for the numbers of its types.
  What spec.ReachOf and spec.Askers answer: the walks.
  A walk's row of bools and its stack,in memory. No program is spoken of but for the numbers of its types.
  What impl.walk answers: the walk.
  What impl.reachIn and impl.isInside answer: the walks.
-/
import Derived.Test.YtgcbmogmniahjaaGreatCReImplOrderToImplGraph
namespace Go.Proofs.YtgcbmogmniahjaaGreat
set_option maxRecDepth 1000000
set_option maxHeartbeats 6400000
open Go.RowKit Go.PlainAid
theorem zwV:GrC 8:=fun h G g w z q=>zw8 zwu zww h G g w z q
theorem znr:GrC 10:=fun q G g w A z=>(zwU zwv zwy q G g w A z).mono fun _ _ h=>⟨by obtain⟨b,e,k⟩:=h.1;exact⟨b,e,k.trans (zrp g).symm⟩,h.2⟩
open Go.Sort
theorem zwW (X b2:Nat) (V U:Sv) (m:Md) (w:World) (h1:OwnMd w X V m) (h2:OwnMd w b2 U m) (hf:zdT m):
  Calls Tryz.prog 69 #[zl V m,zl U m] w fun e w'=>e= .returned (.bool true)∧Below w.heap.size w w':=by
 have H1:=zc h1
 have H2:=zc h2
 have Z:=zc hf
 clear h1 h2 hf
 unfold zl
 go_enter Tryz.func69,Tryz.ntmps69
 go_upto_region 1 with fail
 refine zu (R:=TwoM w X b2 V U m m) (zhQ w X b2 V U m m H1.out H2.out) ?_
 clear H1 H2
 intro w0 h
 have T0:=zc h
 clear h
 obtain⟨O,H,J,M,I,L⟩:=zj T0.out.1
 obtain⟨K,E,z,D,N,A⟩:=zj T0.out.2.1
 go_wp2_with fail
 refine (zkF X b2 V.rq U.rq m.rq w0 (by rw[←zeX];exact T0.out.2.2.1.rq) (by rw[←zeX];exact T0.out.2.2.2.1.rq) Z.out.1).mono ?_
 rintro e w1 ⟨rfl,q⟩
 have Y:=zc (T0.out.later q)
 clear q O H J M I L K E z D N A
 obtain⟨O,H,J,M,I,L⟩:=zj Y.out.1
 obtain⟨K,E,z,D,N,A⟩:=zj Y.out.2.1
 go_wp2_with fail
 refine (zq3 X b2 V.im U.im m.im w1 Y.out.2.2.1.im Y.out.2.2.2.1.im Z.out.2.1).mono ?_
 rintro e w2 ⟨rfl,q⟩
 have T2:=zc (Y.out.later q)
 clear q O H J M I L K E z D N A
 obtain⟨O,H,J,M,I,L⟩:=zj T2.out.1
 obtain⟨K,E,z,D,N,A⟩:=zj T2.out.2.1
 go_wp2_with fail
 refine (zq7 X b2 V.ep U.ep m.ep w2 T2.out.2.2.1.ep T2.out.2.2.2.1.ep Z.out.2.2.1).mono ?_
 rintro e w3 ⟨rfl,q⟩
 have T3:=zc (T2.out.later q)
 clear q O H J M I L K E z D N A
 obtain⟨O,H,J,M,I,L⟩:=zj T3.out.1
 obtain⟨K,E,z,D,N,A⟩:=zj T3.out.2.1
 go_wp2_with fail
 refine (zqB X b2 V.st U.st m.st w3 T3.out.2.2.1.st T3.out.2.2.2.1.st Z.out.2.2.2.1).mono ?_
 rintro e w4 ⟨rfl,q⟩
 have T4:=zc (T3.out.later q)
 clear q O H J M I L K E z D N A
 obtain⟨O,H,J,M,I,L⟩:=zj T4.out.1
 obtain⟨K,E,z,D,N,A⟩:=zj T4.out.2.1
 go_wp2_with fail
 refine (zqF X b2 V.ex U.ex m.ex w4 T4.out.2.2.1.ex T4.out.2.2.2.1.ex Z.out.2.2.2.2).mono ?_
 rintro e w5 ⟨rfl,q⟩
 have T5:=zc (T4.out.later q)
 clear q O H J M I L K E z D N A
 obtain⟨O,H,J,M,I,L⟩:=zj T5.out.1
 obtain⟨K,E,z,D,N,A⟩:=zj T5.out.2.1
 go_wp2
 go_ret
 exact⟨rfl,T5.out.2.2.2.2⟩
theorem zwX (z A:Option Addr) (D h:Nat) (w:World):Calls Tryz.prog 39 #[.slice z 0 D,.slice A 0 h] w fun e q=>e= .returned (.bool true)∧Below w.heap.size w q:=by
 go_enter Tryz.func39,Tryz.ntmps39
 go_wp2
 go_loopg [5] 1 (fun k i wr=>k=1∧i= .int .i64 0∧wr=w)
 case atStart=>exact⟨rfl,rfl,rfl⟩
 case round=>
  obtain⟨rfl,rfl,rfl⟩:=hrel
  go_wp2
  go_ret
  exact⟨rfl,Below.refl _ _⟩
theorem zwY (M b2 g1 Y:Nat) (N r2:Rw) (U V:List Sv) (l:List Md) (w:World) (hu:U.length=l.length) (hv:V.length=l.length) (q:OwnR w M 54 5 N l.length ((U.zip l).flatMap mdL)) (h:OwnR w b2 54 5 r2 l.length ((V.zip l).flatMap mdL)) (m1: ∀x∈U.zip l,OwnMd w M x.1 x.2) (m2: ∀x∈V.zip l,OwnMd w b2 x.1 x.2) (e1:N.a=some ⟨g1,0,none⟩) (e2:r2.a=some ⟨Y,0,none⟩) (hl:l.length≤4294967296) (hf: ∀m∈l,zdT m):
  Calls Tryz.prog 39 #[.slice (some ⟨g1,0,none⟩) l.length N.cap,.slice (some ⟨Y,0,none⟩) l.length r2.cap] w fun e w'=>e= .returned (.bool true)∧Below w.heap.size w w':=by
 have H1:=zc (zfa hu q)
 have H2:=zc (zfa hv h)
 have M1:=zc m1
 have M2:=zc m2
 have E1:=zc e1
 have E2:=zc e2
 have HU:=zc hu
 have HV:=zc hv
 have HF:=zc hf
 clear q h e1 e2 m1 m2 hu hv hf
 go_enter Tryz.func39,Tryz.ntmps39
 go_wp2
 go_loopg [5] l.length (fun k i wr=>∃j:Nat,i= .int .i64 j∧j+k=l.length∧Below w.heap.size w wr)
 case atStart=>exact⟨0,rfl,by omega,Below.refl _ _⟩
 case round=>
  obtain⟨j,rfl,hj,hb⟩:=hrel
  have A:=zc hb
  clear hb
  by_cases L:j<l.length
  ·have E:(j:Int)<(l.length:Int):=by omega
   obtain⟨x,J⟩:=ze3 L
   obtain⟨s,hs⟩:=zec HU.out J
   obtain⟨t,O⟩:=zec HV.out J
   obtain⟨Z,ga,q⟩:=OwnR.elem (f:=mdL) (m:=5) (fun _=>rfl) (H1.out.later A.out) hs
   obtain rfl:Z=g1:=by have:=ga.symm.trans E1.out;simpa using this
   obtain⟨Z,gb,h⟩:=OwnR.elem (f:=mdL) (m:=5) (fun _=>rfl) (H2.out.later A.out) O
   obtain rfl:Z=Y:=by have:=gb.symm.trans E2.out;simpa using this
   have cQ: ∀d I,Calls Tryz.prog 69 #[zl s x,zl t x] (grow (redrawn wr d) I) fun e ab=>e= .returned (.bool true)∧∃p:Regrown,ab=grow (redrawn wr p.d) p.os:=fun d I=>Calls.regrown_of (zwW M b2 s t x _ (((M1.out _ (List.mem_of_getElem? hs)).later A.out).later (below_regrown wr d I)) (((M2.out _ (List.mem_of_getElem? O)).later A.out).later (below_regrown wr d I)) (HF.out x (List.mem_of_getElem? J)))
   unfold zl at cQ
   have C0:=zc (q 0 (by omega))
   have D0:=zc (h 0 (by omega))
   have C1:=zc (q 1 (by omega))
   have D1:=zc (h 1 (by omega))
   have C2:=zc (q 2 (by omega))
   have D2:=zc (h 2 (by omega))
   have C3:=zc (q 3 (by omega))
   have D3:=zc (h 3 (by omega))
   have C4:=zc (q 4 (by omega))
   have D4:=zc (h 4 (by omega))
   clear q h ga gb J hs O
   obtain⟨H,D⟩: ∃H,H=j+1:=⟨_,rfl⟩
   have ej:(j:Int)+1=(H:Int):=by omega
   have HJ:=zc D
   clear D
   go_wp2
   have k0:=cell_regrown C0.out
   have l0:=cell_regrown D0.out
   have k1:=cell_regrown C1.out
   have l1:=cell_regrown D1.out
   have k2:=cell_regrown C2.out
   have l2:=cell_regrown D2.out
   have k3:=cell_regrown C3.out
   have l3:=cell_regrown D3.out
   have k4:=cell_regrown C4.out
   have l4:=cell_regrown D4.out
   simp only[Nat.add_zero] at k0 l0
   refine wp_region_quiet_below (by kernel_rfl) (by kernel_rfl) ?_
   repeat (go_big_quiet_step (exact cQ _ _))
   refine wpQuiet_nil ?_
   intro w2 K
   obtain⟨⟨dq,X⟩,z⟩:=K
   have aa:Hid (Below w.heap.size w w2):=by show Below _ _ _;rw[z];exact A.out.trans ((below_regrown wr dq X).mono A.out.size)
   clear z k0 l0 C0 D0 k1 l1 C1 D1 k2 l2 C2 D2 k3 l3 C3 D3 k4 l4 C4 D4 cQ
   go_wp2
   go_roundg (gk-1)
   case rel=>exact⟨H,rfl,by have:=HJ.out;omega,aa.out⟩
   case measure=>omega
  ·have E: ¬(j:Int)<(l.length:Int):=by omega
   go_wp2
   go_ret
   exact⟨rfl,A.out⟩
def zjh (g:Gr):Prop:=g.ps.length≤4294967296∧g.ms.length≤4294967296∧g.ls.length≤4294967296∧∀m∈g.ms,zdT m
theorem zwZ (H b2:Nat) (h q:GS) (g:Gr) (w:World) (A:GrOwn w H h g) (z:GrOwn w b2 q g) (E:zjh g):
  Calls Tryz.prog 39 #[.slice h.mr.a g.ms.length h.mr.cap,.slice q.mr.a g.ms.length q.mr.cap] w fun e M=>e= .returned (.bool true)∧Below w.heap.size w M:=by
 by_cases D:g.ms.length=0
 ·rw[D]
  exact zwX _ _ _ _ w
 ·rcases A.ms.nil_or with ⟨_,_,e⟩|⟨L,I⟩
  ·exact absurd e D
  ·rcases z.ms.nil_or with ⟨_,_,e⟩|⟨K,J⟩
   ·exact absurd e D
   ·rw[I,J]
    exact zwY H b2 L K h.mr q.mr h.sv q.sv g.ms w A.len z.len A.ms z.ms A.md z.md I J E.2.1 E.2.2.2
structure TwoG (w0:World) (b1 b2:Nat) (G1 G2:GS) (g:Gr) (w:World):Prop where
 x:Bk w w0.heap.size (grC G1 g) 32
 y:Bk w (w0.heap.size+1) (grC G2 g) 32
 o1:GrOwn w b1 G1 g
 o2:GrOwn w b2 G2 g
 b:Below w0.heap.size w0 w
theorem TwoG.later {w0 w A:World} {z b2:Nat} {D E:GS} {g:Gr} (h:TwoG w0 z b2 D E g w) (q:Below w.heap.size w A):TwoG w0 z b2 D E g A:=⟨h.x.later q,h.y.later q,h.o1.later q,h.o2.later q,zZ h.b q⟩
theorem zxa (w:World) (D b2:Nat) (h q:GS) (g:Gr) (H:GrOwn w D h g) (E:GrOwn w b2 q g):TwoG w D b2 h q g ((w.alloc (.cells (grC h g) 32)).alloc (.cells (grC q g) 32)):=by
 have A:=zan w (.cells (grC h g) 32)
 have z:=zan (w.alloc (.cells (grC h g) 32)) (.cells (grC q g) 32)
 refine⟨Bk.later (heap_alloc_new w _) z,?_,(H.later A).later z,(E.later A).later z,zZ A z⟩
 have:=heap_alloc_new (w.alloc (.cells (grC h g) 32)) (.cells (grC q g) 32)
 rw[zg] at this
 exact this
theorem zxb (D b2:Nat) (A z:GS) (g:Gr) (w:World) (Z:GrOwn w D A g) (Y:GrOwn w b2 z g) (hf:zjh g):
  Calls Tryz.prog 11 #[grD A g,grD z g] w fun e w'=>e= .returned (.bool true)∧Below w.heap.size w w':=by
 have H1:=zc Z
 have H2:=zc Y
 have X:=zc hf
 clear Z Y hf
 unfold grD
 go_enter Tryz.func11,Tryz.ntmps11
 go_upto_region 1 with fail
 refine zu (R:=TwoG w D b2 A z g) (zxa w D b2 A z g H1.out H2.out) ?_
 clear H1 H2
 intro w0 h
 have H:=zc h
 clear h
 obtain⟨V,M,N,U⟩:=zo H.out.x
 obtain⟨O,L,K,J⟩:=zo H.out.y
 go_wp2_with fail
 refine (zkF D b2 A.pr z.pr g.ps w0 H.out.o1.ps H.out.o2.ps X.out.1).mono ?_
 rintro e w1 ⟨rfl,q⟩
 have E:=zc (H.out.later q)
 clear q V M N U O L K J H
 obtain⟨V,M,N,U⟩:=zo E.out.x
 obtain⟨O,L,K,J⟩:=zo E.out.y
 go_wp2_with fail
 refine (zwZ D b2 A z g w1 E.out.o1 E.out.o2 X.out).mono ?_
 rintro e w2 ⟨rfl,q⟩
 have I:=zc (E.out.later q)
 clear q V M N U O L K J E
 obtain⟨V,M,N,U⟩:=zo I.out.x
 obtain⟨O,L,K,J⟩:=zo I.out.y
 go_wp2_with fail
 refine (zqT D b2 A.lr z.lr g.ls w2 I.out.o1.ls I.out.o2.ls X.out.2.2.1).mono ?_
 rintro e w3 ⟨rfl,q⟩
 have T3:=zc (I.out.later q)
 clear q V M N U O L K J I
 go_wp2
 go_ret
 exact⟨rfl,T3.out.b⟩
theorem zxc {A:GA} {g:Gr} (D:A.ms.map (·.2)=g.ms) (h:ze5 A g≤1048576) (H: ∀x∈A.ms,zaY x.2.ex):GdG g∧zjh g∧(∀x∈A.ms,zfP x.2)∧A.ms.length≤1048576:=by
 have e:ze5 A g=(g.ps.length+zD zbX g.ps)+(A.ms.length+zD zcN A.ms)+(g.ls.length+zD zeb g.ls):=rfl
 have K:A.ms.length=g.ms.length:=by rw[←D,List.length_map]
 have w: ∀x∈A.ms,zbi x.2≤1048576:=fun x q=>by have:=zd0 (c:=zcN) q;have M:zcN x=zbi x.2:=rfl;omega
 have L:zas (zE g)≤zD zcN A.ms:=by
  unfold zas zE zD
  rw[←D,List.map_map,List.map_map]
  clear D h H e K w
  induction A.ms with
  |nil=>exact Nat.le_refl _
  |cons x l J=>
   rw[List.map_cons,List.sum_cons,List.map_cons,List.sum_cons]
   have:x.2.rq.length≤zcN x:=by
    show _≤zbi x.2
    unfold zbi
    omega
   exact Nat.add_le_add this J
 have E: ∀x∈A.ms,zfP x.2:=fun x q=>by
  have:=w x q
  unfold zbi at this
  exact⟨by omega,by omega,by omega,by omega,by omega⟩
 refine⟨⟨fun m z=>?_,fun p I=>?_,by omega,by omega,by omega,by omega⟩,⟨by omega,by omega,by omega,fun m z=>?_⟩,E,by omega⟩
 ·rw[←D] at z
  obtain⟨x,q,rfl⟩:=List.mem_map.1 z
  exact⟨w x q,H x q⟩
 ·have:=zd0 (c:=zbX) I
  have M:zbX p=p.size:=rfl
  omega
 ·rw[←D] at z
  obtain⟨x,q,rfl⟩:=List.mem_map.1 z
  have:=E x q
  unfold zfP at this
  exact⟨by omega,by omega,by omega,by omega,by omega⟩
theorem zxd (base:Nat) (G:GS) (g:Gr) (z:Nat) (hm:z<g.ms.length) (w:World) (ho:GrOwn w base G g) (hn:1≤g.ms.length) (aw:g.ms.length≤8) (hl:g.ls.length≤1048576) (hr: ∀l∈g.ls,0≤l.frm∧l.frm<(g.ms.length:Int)∧0≤l.to∧l.to<(g.ms.length:Int)):
  Calls Tryz.prog 41 #[grD G g,.int .i64 (z:Int)] w fun e w'=>zjb w g.ms.length (zah g.ls g.ms.length (za0 g.ms.length z)) e w':=by
 have HR:=zc (RowAt.of (f:=lkL) (m:=3) (fun _=>rfl) ho.ls)
 have HC:=zc hr
 clear ho hr
 obtain⟨i0,hi,ah,al,aj⟩:=info_parts Tryz.infoBl
 unfold grD
 go_enter Tryz.func41,Tryz.ntmps41
 go_upto_region 1 with fail
 obtain⟨A,M⟩: ∃A,A=w.heap.size:=⟨_,rfl⟩
 rw[←M]
 refine zu (R:=fun W=>Bk W A (grC G g) 32∧Below w.heap.size w W) (by rw[M];exact⟨heap_alloc_new w _,zan w _⟩) ?_
 rintro W0 ⟨hx,hb⟩
 have au:w.heap.size≤A:=by omega
 clear M
 have X0:=zc hx
 have O:=zc hb
 have ag:A<W0.heap.size:=(Array.getElem?_eq_some_iff.1 hx).1
 clear hx hb
 obtain⟨c0,Z,K,cf⟩:=zo X0.out
 go_wp2_with (first|(at_make;refine wpList_make_full W0 rfl _ _ 58 rfl w.heap.size 4 i0 _ 1 Tryz.underlying58 hi ah al .i64 .i64 _ _ g.ms.length (by rfl) (by rfl) rfl rfl (by rw[aj];omega) (by unfold maxLen;omega) O.out.size ?_))
 intro w1 q J
 have Y:Below W0.heap.size W0 w1:=(Below.refl _ _).grown J (Nat.le_refl _) (fun k h=>by cases h)
 obtain⟨I,X⟩: ∃I,I=W0.heap.size:=⟨_,rfl⟩
 have RR:Hid (RchW w w1 G g A I g.ms.length (List.replicate g.ms.length false)):=by
  refine⟨X0.out.later Y,?_,by omega,zZ O.out Y⟩
  unfold OwnBl OwnR
  rw[toList_madeCells_one] at q
  rw[X,List.map_replicate]
  exact q
 rw[←X]
 clear q J Y X X0 O ag c0 Z K cf
 obtain⟨c0,Z,K,cf⟩:=zo RR.out.x
 have f0:=RR.out.r.free z
 have b0:=RR.out.r.cell (j:=z) (v:=false) (by rw[List.getElem?_replicate,if_pos (by omega)])
 have aq:(z:Int)<(g.ms.length:Int):=by omega
 have R1:=zc (RR.out.set z)
 go_upto_region 3 with fail
 obtain⟨w2,aa⟩: ∃w2,w2=w1.setCell ⟨I,z,none⟩ (.bool true):=⟨_,rfl⟩
 rw[←aa] at R1 ⊢
 clear aa RR f0 b0 c0 Z K cf
 have am:(List.replicate g.ms.length false).length=g.ms.length:=List.length_replicate ..
 change Hid (RchW w w2 G g A I g.ms.length (za0 g.ms.length z)) at R1
 go_wp2
 go_loopg [6,7] g.ms.length (fun k s4 s5 wr=>∃r:Nat,s4= .int .i64 r∧r+k=g.ms.length∧RchW w wr G g A I g.ms.length (zah g.ls r (za0 g.ms.length z)))
 case atStart=>exact⟨0,rfl,by omega,R1.out⟩
 case round=>
  obtain⟨r,rfl,hr,hw⟩:=hrel
  have RW:=zc hw
  clear hw R1
  obtain⟨c0,Z,K,cf⟩:=zo RW.out.x
  by_cases ao:r<g.ms.length
  ·have ad:(r:Int)<(g.ms.length:Int):=by omega
   obtain⟨r1,ab⟩: ∃r1,r1=r+1:=⟨_,rfl⟩
   have er:(r:Int)+1=(r1:Int):=by omega
   have N:=zc ab
   clear ab
   go_wp2
   clear c0 Z K cf
   go_loopg [7] g.ls.length (fun k s5 wq=>∃i:Nat,s5= .int .i64 i∧i+k=g.ls.length∧RchW w wq G g A I g.ms.length (zbh (g.ls.take i) (zah g.ls r (za0 g.ms.length z))))
   case atStart=>exact⟨0,rfl,by omega,RW.out⟩
   case round=>
    obtain⟨i,rfl,an,hw⟩:=hrel
    have D:=zc hw
    clear hw
    obtain⟨c0,Z,K,cf⟩:=zo D.out.x
    by_cases ak:i<g.ls.length
    ·have af:(i:Int)<(g.ls.length:Int):=by omega
     obtain⟨l,H⟩: ∃l,g.ls[i]? =some l:=⟨_,List.getElem?_eq_getElem ak⟩
     obtain⟨y0,y1,y2,y3⟩:=HC.out l (List.mem_of_getElem? H)
     obtain⟨bl,ap,ae,hc⟩:=(HR.out.later D.out.b).get H
     have k0:=hc 0 _ rfl
     have k2:=hc 2 _ rfl
     have HN:=zc (znb H (zah g.ls r (za0 g.ms.length z)))
     simp only[Nat.add_zero] at k0
     clear hc H
     obtain⟨fr,V⟩: ∃fr:Nat,l.frm=fr:=⟨l.frm.toNat,by omega⟩
     obtain⟨U,L⟩: ∃U:Nat,l.to=U:=⟨l.to.toNat,by omega⟩
     obtain⟨b,hb⟩: ∃b,b=zbh (g.ls.take i) (zah g.ls r (za0 g.ms.length z)):=⟨_,rfl⟩
     rw[←hb] at D HN
     clear hb
     have ai:=D.out.r.len
     obtain⟨v,hv⟩: ∃v,b[fr]? =some v:=⟨_,List.getElem?_eq_getElem (by omega)⟩
     obtain⟨u,hu⟩: ∃u,b[U]? =some u:=⟨_,List.getElem?_eq_getElem (by omega)⟩
     have HS:Hid (zbQ b l=if v=true then b.set U true else b):=by
      show zbQ b l=_
      unfold zbQ
      rw[V,L,Int.toNat_natCast,Int.toNat_natCast,List.getD,hv]
      rfl
     have b0:=D.out.r.cell hv
     have b1:=D.out.r.cell hu
     have f1:=D.out.r.free U
     have ar:(fr:Int)<(g.ms.length:Int):=by omega
     have av:(U:Int)<(g.ms.length:Int):=by omega
     have Q1:=zc (D.out.set U)
     rw[V] at k0
     rw[L] at k2
     rw[ae] at K
     clear V L ae hv hu ai y0 y1 y2 y3
     obtain⟨i1,ac⟩: ∃i1,i1=i+1:=⟨_,rfl⟩
     have ei:(i:Int)+1=(i1:Int):=by omega
     have E:=zc ac
     clear ac
     cases v with
     |true=>
      go_wp2
      go_roundg (gk-1)
      case rel=>exact⟨i1,rfl,by have:=E.out;omega,by rw[E.out,HN.out,HS.out];exact Q1.out⟩
      case measure=>omega
     |false=>
      go_wp2
      go_roundg (gk-1)
      case rel=>exact⟨i1,rfl,by have:=E.out;omega,by rw[E.out,HN.out,HS.out];exact D.out⟩
      case measure=>omega
    ·have af: ¬(i:Int)<(g.ls.length:Int):=by omega
     have QE:Hid (RchW w wr G g A I g.ms.length (zah g.ls r1 (za0 g.ms.length z))):=by
      show RchW ..
      rw[N.out,zhV]
      have:=D.out
      rw[List.take_of_length_le (by omega)] at this
      exact this
     go_wp2
     go_roundg (g.ms.length-r1)
     case rel=>exact⟨r1,rfl,by have:=N.out;omega,QE.out⟩
     case measure=>have:=N.out;omega
  ·have ad: ¬(r:Int)<(g.ms.length:Int):=by omega
   obtain rfl:r=g.ms.length:=by omega
   go_wp2
   go_ret
   exact⟨I,rfl,RW.out.r,RW.out.b⟩
structure Enc (α:Type) where
 f:α→List Value
 m:Nat
 len: ∀x,(f x).length=m
 pos:0<m
 one: ∀x,∀v∈f x,v.oneCell'=true
def OwnE {α:Type} (E:Enc α) (w:World) (base:Nat) (e:TypeId) (g n cap:Nat) (l:List α):Prop:=w.ownsRow base e E.m (.slice (some ⟨g,0,none⟩) n cap) n (l.flatMap E.f)∧n=l.length
theorem zns {α:Type} (E:Enc α) (l:List α):(l.flatMap E.f).length=l.length*E.m:=by
 induction l with
 |nil=>simp
 |cons x l h=>rw[List.flatMap_cons,List.length_append,h,E.len,List.length_cons,Nat.succ_mul];omega
theorem zxe {α:Type} (E:Enc α) (l:List α) {j i:Nat} {x:α} {v:Value} (h:l[j]? =some x) (q:(E.f x)[i]? =some v):(l.flatMap E.f)[j*E.m+i]? =some v:=zbp E.len l j x i v h q
theorem OwnE.blk {α:Type} {E:Enc α} {w:World} {base g n z:Nat} {e:TypeId} {l:List α} (h:OwnE E w base e g n z l):base≤g∧g<w.heap.size:=by
 rcases h.1.2 with ⟨q,_⟩|⟨J,A,D,q,H,I,_⟩
 ·simp at q
 ·simp only[Value.slice.injEq,Option.some.injEq,Addr.mk.injEq,and_true,true_and] at q
  obtain⟨rfl,rfl⟩:=q
  exact⟨H,(Array.getElem?_eq_some_iff.1 I).1⟩
theorem OwnE.cap {α:Type} {E:Enc α} {w:World} {base g n q:Nat} {e:TypeId} {l:List α} (h:OwnE E w base e g n q l):n≤q:=by
 rcases h.1.2 with ⟨z,_⟩|⟨I,A,D,z,_,_,H,_⟩
 ·simp at z
 ·simp only[Value.slice.injEq,Option.some.injEq,Addr.mk.injEq,and_true,true_and] at z
  obtain⟨_,rfl⟩:=z
  exact H
theorem OwnE.keep {α:Type} {E:Enc α} {w W:World} {base g n q:Nat} {e:TypeId} {l:List α} (h:OwnE E w base e g n q l) (I:W.heap[g]? =w.heap[g]?):OwnE E W base e g n q l:=by
 refine⟨⟨h.1.1,?_⟩,h.2⟩
 rcases h.1.2 with ⟨z,_⟩|⟨L,H,A,z,D,K,J⟩
 ·simp at z
 ·simp only[Value.slice.injEq,Option.some.injEq,Addr.mk.injEq,and_true,true_and] at z
  obtain⟨rfl,rfl⟩:=z
  exact .inr ⟨g,q,A,rfl,D,I.trans K,J⟩
theorem OwnE.later {α:Type} {E:Enc α} {w W:World} {base g n q:Nat} {e:TypeId} {l:List α} (h:OwnE E w base e g n q l) (z:Below w.heap.size w W):OwnE E W base e g n q l:=h.keep (z.block g h.blk.2)
theorem OwnE.low {α:Type} {E:Enc α} {w:World} {base b g n q:Nat} {e:TypeId} {l:List α} (h:OwnE E w base e g n q l) (J:b≤base):OwnE E w b e g n q l:=by
 refine⟨⟨h.1.1,?_⟩,h.2⟩
 rcases h.1.2 with ⟨D,_⟩|⟨L,z,A,D,H,K,I⟩
 ·simp at D
 ·exact .inr ⟨L,z,A,D,Nat.le_trans J H,K,I⟩
theorem OwnE.aside {α:Type} {E:Enc α} {w W:World} {base g n q:Nat} {e:TypeId} {l:List α} {x:Option Nat} (h:OwnE E w base e g n q l) (z:w.grownBy W x) (A:some g≠x):OwnE E W base e g n q l:=h.keep (z.block g h.blk.2 A)
theorem OwnE.nil {α:Type} (E:Enc α) (w:World) (e:TypeId):OwnE E (w.alloc (.cells #[] e)) w.heap.size e w.heap.size 0 0 []:=⟨World.ownsRow_lit w #[] 0 (Nat.le_refl _) (by unfold maxLen;omega) (by simp),rfl⟩
theorem OwnE.row {α:Type} {E:Enc α} {w:World} {base g n A:Nat} {e:TypeId} {l:List α} (h:OwnE E w base e g n A l):RowAt w (some ⟨g,0,none⟩) E.f E.m l:=by
 refine .inr ⟨g,0,rfl,h.blk.2,fun j x D i v H=>?_⟩
 have z:j<l.length:=(List.getElem?_eq_some_iff.1 D).1
 have J:i<E.m:=by have:=(List.getElem?_eq_some_iff.1 H).1;rw[E.len] at this;exact this
 have q:j*E.m+i<n*E.m:=by
  rw[h.2]
  have I:(j+1)*E.m≤l.length*E.m:=Nat.mul_le_mul_right _ z
  rw[Nat.succ_mul] at I
  omega
 rw[Nat.zero_add,h.1.cellAt _ q]
 exact zxe E l D H
theorem zxf (b o j:Nat):(⟨b,o,none⟩:Addr).add j=⟨b,o+j,none⟩:=by simp[Addr.add]
theorem zji {P:Program} {α:Type} (E:Enc α) (W:World) {L:Array Oper} {rest:List Oper} {o:Oper} {a:Act} {Q:Exit→Act→World→Prop} (M:o.guard=none) (s x:Operand) (t:TypeId)
  (ho:o.op= .call {callee:=.builtin .append,args:=#[s,x],argTypes:=#[t,t]})
  (base:Nat) (e:TypeId) (i:TypeInfo) (z:Value) (I:Nat) (ht:P.underlying t=some (.slice e)) (hi:P.info? e=some i) (hz:i.zero=some z) (D:i.size=E.m) (O:i.bytes=I) (X:z.cells.size=E.m) (N:I≤1024)
  (g n K:Nat) (l:List α) (hs:a.eval s= .slice (some ⟨g,0,none⟩) n K) (q:OwnE E W base e g n K l)
  (V:Nat) (b:α) (hx:a.eval x= .slice (some ⟨V,0,none⟩) 1 1) (hg:W.heap[V]? =some (.cells (E.f b).toArray e (0,0))) (hn:n+1≤100000000)
  (h: ∀A w J,OwnE E J base e A (n+1) w (l++[b])→W.grownBy J (some g)→(A=g∨A=W.heap.size)→wpList P L Q rest (a.put o.dst (.slice (some ⟨A,0,none⟩) (n+1) w)) J):
  wpList P L Q (o::rest) a W:=by
 have H:base≤W.heap.size:=Nat.le_trans q.blk.1 (Nat.le_of_lt q.blk.2)
 refine wpList_append_own_at _ M s x t ho base e i z E.m I ht hi hz D O X E.pos _ n _ hs q.1 ⟨V,0,none⟩ 1 1 (E.f b) hx (by rw[E.len,Nat.one_mul]) ?_ (E.one b) ?_ ?_ H ?_
 ·intro j u hj
  rw[zxf,Nat.zero_add]
  simp[World.cell?,hg,hj]
 ·unfold maxLen;omega
 ·exact Nat.le_trans (Nat.mul_le_mul hn N) (by decide)
 ·intro v' J Z k2 k3 k4
  rcases Z.2 with ⟨hv,ab⟩|⟨A,w,aa,rfl,Y⟩
  ·omega
  ·refine h A w J ⟨by rw[List.flatMap_append];simpa using Z,by rw[List.length_append,←q.2];rfl⟩ k2 ?_
   have U:some A=some g∨some A=some W.heap.size:=k4
   rcases U with k|k
   ·exact .inl (Option.some.inj k)
   ·exact .inr (Option.some.inj k)
def OutE {α:Type} (E:Enc α) (e:TypeId) (w:World) (base:Nat) (a:Option Addr) (n cap:Nat) (l:List α):Prop:=n=l.length∧(0<n→∃g,a=some ⟨g,0,none⟩∧OwnE E w base e g n cap l)
theorem OutE.own {α:Type} {E:Enc α} {e:TypeId} {w:World} {base g n q:Nat} {l:List α} (h:OwnE E w base e g n q l):OutE E e w base (some ⟨g,0,none⟩) n q l:=⟨h.2,fun _=>⟨g,rfl,h⟩⟩
theorem OutE.nil {α:Type} (E:Enc α) (e:TypeId) (w:World) (base:Nat) (a:Option Addr) (q:Nat):OutE E e w base a 0 q []:=⟨rfl,fun h=>absurd h (Nat.lt_irrefl _)⟩
theorem OutE.later {α:Type} {E:Enc α} {e:TypeId} {w W:World} {base n q:Nat} {a:Option Addr} {l:List α} (h:OutE E e w base a n q l) (D:Below w.heap.size w W):OutE E e W base a n q l:=
 ⟨h.1,fun k=>by obtain⟨g,A,z⟩:=h.2 k;exact⟨g,A,z.later D⟩⟩
theorem OutE.aside {α:Type} {E:Enc α} {e:TypeId} {w W:World} {base n q x:Nat} {a:Option Addr} {l:List α} (h:OutE E e w base a n q l) (D:w.grownBy W (some x)) (H:x<base):OutE E e W base a n q l:=
 ⟨h.1,fun k=>by
  obtain⟨g,A,z⟩:=h.2 k
  exact⟨g,A,z.aside D (fun e=>by have:=Option.some.inj e;have:=z.blk.1;omega)⟩⟩
theorem OutE.row {α:Type} {E:Enc α} {e:TypeId} {w:World} {base n q:Nat} {a:Option Addr} {l:List α} (h:OutE E e w base a n q l):RowAt w a E.f E.m l:=by
 rcases Nat.eq_zero_or_pos n with z|z
 ·exact .inl (List.length_eq_zero_iff.1 (by rw[←h.1];exact z))
 ·obtain⟨g,rfl,A⟩:=h.2 z
  exact A.row
def OwnX (w:World) (base:Nat) (e:TypeId) (size g n cap:Nat) (mk:Nat→Value) (c:Nat):Prop:=∃xs,w.ownsRow base e size (.slice (some ⟨g,0,none⟩) n cap) n xs∧∀i,i<c→xs[i]? =some (mk i)
theorem OwnX.start {w:World} {base size g n q:Nat} {e:TypeId} {xs:List Value} (h:w.ownsRow base e size (.slice (some ⟨g,0,none⟩) n q) n xs) (z:Nat→Value):OwnX w base e size g n q z 0:=⟨xs,h,fun i A=>absurd A (Nat.not_lt_zero i)⟩
theorem OwnX.blk {w:World} {base size g n z c:Nat} {I:Nat→Value} {e:TypeId} (h:OwnX w base e size g n z I c):base≤g∧g<w.heap.size:=by
 obtain⟨K,E,_⟩:=h
 rcases E.2 with ⟨q,_⟩|⟨L,A,D,q,H,J,_⟩
 ·simp at q
 ·simp only[Value.slice.injEq,Option.some.injEq,Addr.mk.injEq,and_true,true_and] at q
  obtain⟨rfl,rfl⟩:=q
  exact⟨H,(Array.getElem?_eq_some_iff.1 J).1⟩
theorem OwnX.keep {w W:World} {base size g n q c:Nat} {I:Nat→Value} {e:TypeId} (h:OwnX w base e size g n q I c) (J:W.heap[g]? =w.heap[g]?):OwnX W base e size g n q I c:=by
 obtain⟨M,E,K⟩:=h
 refine⟨M,⟨E.1,?_⟩,K⟩
 rcases E.2 with ⟨z,_⟩|⟨O,H,A,z,D,N,L⟩
 ·simp at z
 ·simp only[Value.slice.injEq,Option.some.injEq,Addr.mk.injEq,and_true,true_and] at z
  obtain⟨rfl,rfl⟩:=z
  exact .inr ⟨g,q,A,rfl,D,J.trans N,L⟩
theorem OwnX.later {w W:World} {base size g n q c:Nat} {z:Nat→Value} {e:TypeId} (h:OwnX w base e size g n q z c) (A:Below w.heap.size w W):OwnX W base e size g n q z c:=h.keep (A.block g h.blk.2)
theorem OwnX.has {w:World} {base size g n q c:Nat} {D:Nat→Value} {e:TypeId} (h:OwnX w base e size g n q D c) (i:Nat) (A:i<n*size): ∃v,w.cell? ⟨g,i,none⟩=some v:=by
 obtain⟨E,z,_⟩:=h
 rw[z.cellAt i A]
 exact⟨_,List.getElem?_eq_getElem (by rw[z.1];exact A)⟩
theorem OwnX.cell {w:World} {base size g n q c:Nat} {z:Nat→Value} {e:TypeId} (h:OwnX w base e size g n q z c) (i:Nat) (H:i<n*size) (E:i<c):w.cell? ⟨g,i,none⟩=some (z i):=by
 obtain⟨I,D,A⟩:=h
 rw[D.cellAt i H]
 exact A i E
theorem OwnX.free {w:World} {base size g n q c:Nat} {A:Nat→Value} {e:TypeId} (h:OwnX w base e size g n q A c) (i:Nat):w.frozen? ⟨g,i,none⟩=false:=by
 obtain⟨D,z,_⟩:=h
 exact z.frozenAt i
theorem OwnX.put {w:World} {base size g n q c:Nat} {z:Nat→Value} {e:TypeId} (h:OwnX w base e size g n q z c) (I:c<n*size):OwnX (w.setCell ⟨g,c,none⟩ (z c)) base e size g n q z (c+1):=by
 obtain⟨E,A,D⟩:=h
 have H:=A.1
 refine⟨E.set c (z c),(A.stored c _).1,fun i J=>?_⟩
 by_cases e:i=c
 ·subst e
  exact List.getElem?_set_self (by omega)
 ·rw[List.getElem?_set_ne (by omega)]
  exact D i (by omega)
theorem zxg (w:World) (b:Option Nat):w.grownBy w b:=⟨rfl,rfl,rfl,Nat.le_refl _,fun _ _ _=>rfl⟩
theorem zxh {w A D:World} {b:Option Nat} (h:w.grownBy A b) (k:A.grownBy D b):w.grownBy D b:=
 ⟨k.os.trans h.os,k.tape.trans h.tape,k.output.trans h.output,Nat.le_trans h.size k.size,fun i z q=>(k.block i (Nat.lt_of_lt_of_le z h.size) q).trans (h.block i z q)⟩
theorem zxi {w q:World} {g i:Nat} {u:Value} (h:w.grownBy q (some g)):w.grownBy (q.setCell ⟨g,i,none⟩ u) (some g):=
 zxh h ⟨rfl,rfl,rfl,by show _≤(q.heap.modify _ _).size;simp,fun k _ z=>Below.heap_setCell q ⟨g,i,none⟩ u k (fun e=>z (by rw[e]))⟩
abbrev In2:=Int×Int
def inE:Enc In2:=⟨fun x=>[.int .i64 x.1,.int .i64 x.2],2,fun _=>rfl,by decide,fun x v hv=>by simp at hv;rcases hv with rfl|rfl<;>rfl⟩
def stE:Enc ByteArray:=⟨fun x=>[.string x],1,fun _=>rfl,by decide,fun x v hv=>by simp at hv;rw[hv];rfl⟩
def itE:Enc Int:=⟨fun x=>[.int .i64 x],1,fun _=>rfl,by decide,fun x v hv=>by simp at hv;rw[hv];rfl⟩
structure Cd where
 ins:List In2
 cells:List ByteArray
 ent:List Int
structure CA where
 a0:Option Addr
 c0:Nat
 a1:Option Addr
 c1:Nat
 a2:Option Addr
 c2:Nat
def zyj (A:CA) (c:Cd):Value:=.agg #[.slice A.a0 c.ins.length A.c0,.slice A.a1 c.cells.length A.c1,.slice A.a2 c.ent.length A.c2]
structure CodeAt (w:World) (A:CA) (c:Cd):Prop where
 ins:RowAt w A.a0 inE.f 2 c.ins
 cells:RowAt w A.a1 stE.f 1 c.cells
 ent:RowAt w A.a2 itE.f 1 c.ent
theorem CodeAt.later {w z:World} {A:CA} {c:Cd} (h:CodeAt w A c) (q:Below w.heap.size w z):CodeAt z A c:=⟨h.ins.later q,h.cells.later q,h.ent.later q⟩
def zbF (n:Nat) (p:Nat→Bool):List Int:=((List.range n).filter p).map (fun (j:Nat)=>Int.ofNat j)
theorem znt (p:Nat→Bool) (k:Nat):zbF (k+1) p=if p k=true then zbF k p++[Int.ofNat k] else zbF k p:=by
 rw[zbF,List.range_succ,List.filter_append,List.map_append]
 cases h:p k<;>simp[h,zbF]
theorem zjj (n:Nat) (p:Nat→Bool):(zbF n p).length≤n:=by
 rw[zbF,List.length_map]
 exact Nat.le_trans (List.length_filter_le _ _) (Nat.le_of_eq List.length_range)
def InG (g:Gr) (mm:Int):Prop:=GrS g∧0≤mm∧mm<(g.ms.length:Int)
def zjk (g:Gr) (mm:Int) (p:Nat→Nat→Bool) (w:World) (e:Ending) (w':World):Prop:=
 ∃a n cap l,e= .returned (.slice a n cap)∧OutE itE 3 w' w.heap.size a n cap l∧Below w.heap.size w w'∧(InG g mm→l=zbF g.ms.length (p mm.toNat))∧(¬InG g mm→l=[])
theorem zxj {α:Type} {E:Enc α} {e:TypeId} {w:World} {base b n q:Nat} {a:Option Addr} {l:List α} (h:OutE E e w base a n q l) (D:b≤base):OutE E e w b a n q l:=
 ⟨h.1,fun k=>by obtain⟨g,A,z⟩:=h.2 k;exact⟨g,A,z.low D⟩⟩
theorem zjl {w W:World} {g:Nat} {o:Obj} (h:w.heap[g]? =some o) (q:Below w.heap.size w W):W.heap[g]? =some o:=(q.block g (Array.getElem?_eq_some_iff.1 h).1).trans h
theorem zxk {W E:World} {base gf n g L z:Nat} {b:List Bool} {l:List Int} (h:OwnBl W base gf n b) (J:OwnE itE W base 3 g L z l) (N:W.grownBy E (some g)):OwnBl E base gf n b:=by
 obtain⟨H,M⟩:=h.block
 refine OwnR.keep h fun k I=>?_
 have e:k=gf:=by simpa [Rw.blk,Value.ownBlock] using I.symm
 rw[e]
 refine N.block gf h.at.2 fun O=>?_
 have K:gf=g:=Option.some.inj O
 rcases J.1.2 with ⟨w,_⟩|⟨U,D,A,w,_,q,_⟩
 ·simp at w
 ·simp only[Value.slice.injEq,Option.some.injEq,Addr.mk.injEq,and_true] at w
  rw[←w.1,←K,M] at q
  exact absurd (Option.some.inj q) (by simp)
theorem Tryz.infoItS:(Tryz.prog.info? 3).map (fun i=>(i.zero,i.size,i.bytes))=some (some (.int .i64 0),1,8):=by kernel_rfl
theorem zxl (cG:GrC 8) (base:Nat) (G:GS) (g:Gr) (A:Int) (w:World) (ho:GrOwn w base G g) (hg:GdG g):
  Calls Tryz.prog 14 #[grD G g,.int .i64 A] w (zjk g A (fun h j=>zaT g h j) w):=by
 obtain⟨i0,hi,ac,af,ah⟩:=info_parts Tryz.infoItS
 have CG:=zc cG
 have HG:=zc hg
 have ab:=hg.ll
 have al:=hg.ml
 have O0:=zc ho
 clear ho hg cG
 unfold grD
 go_enter Tryz.func14,Tryz.ntmps14
 go_upto_region 1 with fail
 refine zu (R:=fun W=>Bk W w.heap.size (grC G g) 32∧Below w.heap.size w W) ⟨heap_alloc_new w _,zan w _⟩ ?_
 rintro N ⟨hx,z⟩
 have L:=zc hx
 have I:=zc z
 clear hx z
 go_upto_region 2 with fail
 refine zu (R:=fun W=>Bk W w.heap.size (grC G g) 32∧OwnE itE W w.heap.size 3 N.heap.size 0 0 []∧Below w.heap.size w W) ⟨L.out.later (zan N _),(OwnE.nil itE N 3).low I.out.size,zZ I.out (zan N _)⟩ ?_
 obtain⟨gr,Z⟩: ∃gr,gr=N.heap.size:=⟨_,rfl⟩
 rw[←Z]
 clear Z L I
 rintro W1 ⟨hx,hr,z⟩
 have L:=zc hx
 have R0:=zc hr
 have I:=zc z
 clear hx hr z
 obtain⟨c0,c1,c2,cf⟩:=zo L.out
 go_wp2_with fail
 refine (CG.out base G g W1 (O0.out.later I.out) HG.out).mono ?_
 rintro e w1 ⟨⟨b,rfl,Y⟩,z⟩
 have X1:=zc (L.out.later z)
 have R1:=zc (R0.out.later z)
 have B1:=zc (zZ I.out z)
 have OK:=zc Y
 clear Y z c0 c1 c2 cf L I R0
 obtain⟨c0,c1,c2,cf⟩:=zo X1.out
 have NO:Hid (¬InG g A→zjk g A (fun h j=>zaT g h j) w (.returned (.slice (some ⟨gr,0,none⟩) 0 0)) w1):=zc (fun k=>⟨_,_,_,_,rfl,OutE.own R1.out,B1.out,fun k'=>absurd k' k,fun _=>rfl⟩)
 cases b with
 |false=>
  have HK:Hid (¬InG g A):=zc (fun k=>absurd (OK.out.2 k.1) (by decide))
  clear OK
  go_wp2
  go_ret
  exact NO.out HK.out
 |true=>
  have D:Hid (GrS g):=OK.out.1 (by simp)
  clear OK
  by_cases h0:0≤A
  ·by_cases h1:A<(g.ms.length:Int)
   ·have LK:=zc D.out.links
    have ad:1≤g.ms.length:=D.out.1.1
    have ae:g.ms.length≤8:=D.out.1.2
    obtain⟨h,rfl⟩: ∃h:Nat,A=(h:Int):=⟨A.toNat,by omega⟩
    have IG:Hid (InG g (h:Int)):=zc ⟨D.out,h0,h1⟩
    have ai:h<g.ms.length:=by omega
    clear NO
    go_wp2_with fail
    refine (zxd base G g h ai w1 (O0.out.later B1.out) ad ae ab LK.out).mono ?_
    rintro e w2 ⟨gf,rfl,X,z⟩
    have RF:=zc X
    have R2:=zc (R1.out.later z)
    have B2:=zc (zZ B1.out z)
    clear X z X1 R1 c0 c1 c2 cf
    go_wp2
    go_loopw [7,5] (fun i o wr=>∃(k V J q:Nat),k≤g.ms.length∧i= .int .i64 k∧o= .slice (some ⟨V,0,none⟩) J q∧Hid (OwnE itE wr w.heap.size 3 V J q (zbF k fun j=>zaT g h j))∧Hid (Below w.heap.size w wr)∧Hid (OwnBl wr w.heap.size gf g.ms.length (zah g.ls g.ms.length (za0 g.ms.length h)))) (fun i _ _=>(g.ms.length-intOf i).toNat)
    case atStart=>exact⟨0,gr,0,0,Nat.zero_le _,rfl,rfl,R2,B2,zc (OwnR.low RF.out B1.out.size)⟩
    case round=>
     clear RF R2 B2 B1
     obtain⟨k,V,J,q,hk,rfl,rfl,M,K,HF⟩:=hrel
     by_cases H:k<g.ms.length
     ·have aa:(k:Int)<(g.ms.length:Int):=by omega
      have E:=zc (znt (fun j=>zaT g h j) k)
      have ak:J≤8:=by have:=M.out.2;have:=zjj k fun j=>zaT g h j;omega
      have hc:=HF.out.cell (zna H)
      cases hp:zaT g h k with
      |true=>
       rw[hp] at hc
       have HM:Hid ((zbF (k+1) fun j=>zaT g h j)=(zbF k fun j=>zaT g h j)++[Int.ofNat k]):=by show _=_;rw[E.out,if_pos hp]
       go_wp2_with (at_builtin;refine zji itE _ rfl _ _ 36 rfl w.heap.size 3 i0 _ 8 Tryz.underlying36 hi ac af ah rfl (by decide) V J q _ (by rfl) (M.out.later ((Below.refl _ _).alloc (Nat.le_refl _) _)) wr.heap.size (Int.ofNat k) (by rfl) (by exact heap_alloc_new _ _) (by omega) ?_;intro g4 U w4 ag O aj)
       have F4:=zc (zxk (HF.out.later ((Below.refl _ _).alloc (Nat.le_refl _) _)) (M.out.later ((Below.refl _ _).alloc (Nat.le_refl _) _)) O)
       have B4:=zc ((K.out.alloc K.out.size _).grown O (K.out.alloc K.out.size _).size (fun j hj=>by cases hj;exact M.out.blk.1))
       go_roundw
       case rel=>exact⟨k+1,g4,J+1,U,H,by go_num,by go_num,by rw[HM.out];exact zc ag,B4,F4⟩
       case measure=>simp[intOf];omega
      |false=>
       rw[hp] at hc
       have HM:Hid ((zbF (k+1) fun j=>zaT g h j)=zbF k fun j=>zaT g h j):=by show _=_;rw[E.out,if_neg (by rw[hp];decide)]
       go_wp2
       go_roundw
       case rel=>exact⟨k+1,V,J,q,H,by go_num,rfl,by rw[HM.out];exact M,K,HF⟩
       case measure=>simp[intOf];omega
     ·obtain rfl:k=g.ms.length:=by omega
      have aa: ¬((g.ms.length:Nat):Int)<(g.ms.length:Int):=by omega
      go_wp2
      go_ret
      exact⟨_,_,_,_,rfl,OutE.own M.out,K.out,fun _=>by rw[Int.toNat_natCast],fun k=>absurd IG.out k⟩
   ·have HK:Hid (¬InG g A):=zc (fun k=>h1 k.2.2)
    go_wp2
    go_ret
    exact NO.out HK.out
  ·have HK:Hid (¬InG g A):=zc (fun k=>h0 k.2.1)
   go_wp2
   go_ret
   exact NO.out HK.out
def ntE:Enc Nat:=⟨fun x=>[.int .i64 (x:Int)],1,fun _=>rfl,by decide,fun x v hv=>by simp at hv;rw[hv];rfl⟩
theorem OwnE.cut {α:Type} {E:Enc α} {w:World} {base g n A:Nat} {e:TypeId} {l:List α} (h:OwnE E w base e g n A l) {k:Nat} (L:k≤n):OwnE E w base e g k A (l.take k):=by
 have X:=h.2
 refine⟨⟨?_,?_⟩,by rw[List.length_take];omega⟩
 ·rw[zns,List.length_take]
  congr 1
  omega
 ·rcases h.1.2 with ⟨D,_⟩|⟨Z,K,q,D,O,U,N,I,J,z⟩
  ·simp at D
  ·simp only[Value.slice.injEq,Option.some.injEq,Addr.mk.injEq,and_true,true_and] at D
   obtain⟨rfl,rfl⟩:=D
   refine .inr ⟨g,A,q,rfl,O,U,by omega,I,J,?_⟩
   have H:k*E.m≤n*E.m:=Nat.mul_le_mul_right _ L
   have M:q.toList.take (k*E.m)=(q.toList.take (n*E.m)).take (k*E.m):=by rw[List.take_take,Nat.min_eq_left H]
   rw[M,z]
   have V:l.flatMap E.f=(l.take k).flatMap E.f++(l.drop k).flatMap E.f:=by rw[←List.flatMap_append,List.take_append_drop]
   have Y:((l.take k).flatMap E.f).length=k*E.m:=by rw[zns,List.length_take,←X];congr 1;omega
   rw[V,List.take_append_of_le_length (by omega),List.take_of_length_le (by omega)]
theorem OwnE.cells {α:Type} {E:Enc α} {w:World} {base g n A:Nat} {e:TypeId} {l:List α} (h:OwnE E w base e g n A l): ∃q,w.heap[g]? =some (.cells q e (0,0)):=by
 rcases h.1.2 with ⟨z,_⟩|⟨J,D,q,z,I,H,_⟩
 ·simp at z
 ·simp only[Value.slice.injEq,Option.some.injEq,Addr.mk.injEq,and_true,true_and] at z
  obtain⟨rfl,rfl⟩:=z
  exact⟨q,H⟩
def zd7 (w:World) (g:Nat):Nat→Nat
 |0=>0
 |n+1=>zd7 w g n+match w.cell? ⟨g,n,none⟩ with|some (.bool true)=>1|_=>0
theorem zjm {w:World} {base g n:Nat} {b:List Bool} (h:OwnBl w base g n b):zd7 w g n=zG b:=by
 have H: ∀k,k≤n→zd7 w g k=zG (b.take k):=by
  intro k
  induction k with
  |zero=>intro _;rfl
  |succ k D=>
   intro I
   have J:=h.len
   obtain⟨v,A⟩: ∃v,b[k]? =some v:=⟨_,List.getElem?_eq_getElem (by omega)⟩
   have E:=h.cell A
   rw[zd7,D (by omega),E]
   obtain⟨z,q⟩:=List.getElem?_eq_some_iff.1 A
   rw[List.take_succ_eq_append_getElem z,q,zG,zG,List.count_append]
   cases v<;>rfl
 have:=H n (Nat.le_refl _)
 rw[List.take_of_length_le (by rw[h.len];exact Nat.le_refl _)] at this
 exact this
structure WkW (w W:World) (G:GS) (g:Gr) (gx gb gs cap:Nat) (n:Nat) (b:List Bool) (st:List Nat):Prop where
 r:RchW w W G g gx gb n b
 s:OwnE ntE W w.heap.size 3 gs st.length cap st
theorem WkW.later {w W H:World} {G:GS} {g:Gr} {E D A q n:Nat} {b:List Bool} {I:List Nat} (h:WkW w W G g E D A q n b I) (z:Below W.heap.size W H):WkW w H G g E D A q n b I:=
 ⟨⟨h.r.x.later z,h.r.r.later z,h.r.ne,h.r.b.trans (z.mono h.r.b.size)⟩,h.s.later z⟩
theorem WkW.ne {w W:World} {G:GS} {g:Gr} {E I A D n:Nat} {b:List Bool} {L:List Nat} (h:WkW w W G g E I A D n b L):A≠I∧A≠E:=by
 obtain⟨J,q⟩:=h.s.cells
 obtain⟨H,z⟩:=h.r.r.block
 constructor
 ·intro e
  rw[e,z] at q
  exact absurd (Option.some.inj q) (by simp)
 ·intro e
  have K:W.heap[E]? =_:=h.r.x
  rw[e,K] at q
  exact absurd (Option.some.inj q) (by simp)
theorem WkW.set {w W:World} {G:GS} {g:Gr} {D z A q n:Nat} {b:List Bool} {E:List Nat} (h:WkW w W G g D z A q n b E) (j:Nat):WkW w (W.setCell ⟨z,j,none⟩ (.bool true)) G g D z A q n (b.set j true) E:=
 ⟨h.r.set j,h.s.keep (heap_setCell_other W ⟨z,j,none⟩ A _ h.ne.1)⟩
theorem WkW.grow {w W I:World} {G:GS} {g:Gr} {A D J z E q n:Nat} {b:List Bool} {N st':List Nat} (h:WkW w W G g A D J E n b N) (H:W.grownBy I (some J)) (M:OwnE ntE I w.heap.size 3 z st'.length q st'):WkW w I G g A D z q n b st':=by
 have K:W.heap[A]? =_:=h.r.x
 refine⟨⟨(H.block A (Array.getElem?_eq_some_iff.1 K).1 fun e=>h.ne.2 (Option.some.inj e).symm).trans K,?_,h.r.ne,h.r.b.grown H h.r.b.size fun j e=>by cases e;exact h.s.blk.1⟩,M⟩
 exact OwnR.keep h.r.r fun k L=>by
  have e:k=D:=by simpa [Rw.blk,Value.ownBlock] using L.symm
  rw[e]
  exact H.block D h.r.r.at.2 fun e=>h.ne.1 (Option.some.inj e).symm
def zxm:Value→Nat| .slice _ n _=>n|_=>0
def zxn:Value→Nat| .slice (some a) _ _=>a.block|_=>0
theorem Tryz.infoNt:(Tryz.prog.info? 3).map (fun i=>(i.zero,i.size,i.bytes))=some (some (.int .i64 0),1,8):=by kernel_rfl
theorem zxo (base:Nat) (G:GS) (g:Gr) (L:Nat) (hm:L<g.ms.length) (w:World) (ho:GrOwn w base G g) (bY:g.ms.length≤8) (hl:g.ls.length≤1048576) (hr: ∀l∈g.ls,0≤l.frm∧l.frm<(g.ms.length:Int)∧0≤l.to∧l.to<(g.ms.length:Int)):
  Calls Tryz.prog 71 #[grD G g,.int .i64 (L:Int)] w fun e w'=>zjb w g.ms.length (zah g.ls g.ms.length (za0 g.ms.length L)) e w':=by
 have HR:=zc (RowAt.of (f:=lkL) (m:=3) (fun _=>rfl) ho.ls)
 have HC:=zc hr
 have a9:Hid (zht g.ls g.ms.length):=zc (fun l hl=>by have:=hr l hl;exact⟨by omega,by omega⟩)
 have HZ:Hid (∀l∈g.ls,0≤l.frm):=zc (fun l hl=>(hr l hl).1)
 clear ho hr
 obtain⟨i0,hi,bA,bI,bF⟩:=info_parts Tryz.infoBl
 obtain⟨j0,ji,bD,bK,bv⟩:=info_parts Tryz.infoNt
 unfold grD
 go_enter Tryz.func71,Tryz.ntmps71
 go_wp2
 obtain⟨N,ai⟩: ∃N,N=w.heap.size:=⟨_,rfl⟩
 rw[←ai]
 refine zu (R:=fun W=>Bk W N (grC G g) 32∧Below w.heap.size w W) (by rw[ai];exact⟨heap_alloc_new w _,zan w _⟩) ?_
 rintro W0 ⟨hx,hb⟩
 have bV:w.heap.size≤N:=by omega
 clear ai
 have X0:=zc hx
 have ac:=zc hb
 have ag:N<W0.heap.size:=(Array.getElem?_eq_some_iff.1 hx).1
 clear hx hb
 refine znj 0 (fun a' w'=>∃(E a gs ad:Nat) (b:List Bool) (st:List Nat) (u3 u8 u9 aG bj aE aW bg a0 ax a6 ay aC aH bn aB az aZ ar bh bi bp au bo aY br aR aI a8 bm aS a2 aV bc a3 aM bf a4 bb a1 av aD aF aP aK ao aQ bt aX aU bq aJ bs aO bk:Value),a'={tmps:=#[grD G g,.int .i64 (L:Int),.pointer (some ⟨N,0,none⟩),u3,.slice none 0 0,.slice (some ⟨E,0,none⟩) g.ms.length g.ms.length,.int .i64 (a:Int),.slice (some ⟨gs,0,none⟩) st.length ad,u8,u9,aG,bj,aE,aW,bg,a0,ax,a6,ay,aC,aH,bn,aB,az,aZ,ar,bh,bi,bp,au,bo,aY,br,aR,aI,a8,bm,aS,a2,aV,bc,a3,aM,bf,a4,bb,a1,av,aD,aF,aP,aK,ao,aQ,bt,aX,aU,bq,aJ,bs,aO,bk],defers:=[]}∧Hid (WkP g.ls g.ms.length L a (b,st))∧Hid (WkW w w' G g N E gs ad g.ms.length b st)) (fun a' w'=>(g.ms.length-zd7 w' (zxn (a'.tmps.getD 5 undef)) g.ms.length)+zxm (a'.tmps.getD 7 undef)) rfl ?_ ?_
 ·rintro a' wr ⟨E,a,gs,ad,b,st,u3,u8,u9,aG,bj,aE,aW,bg,a0,ax,a6,ay,aC,aH,bn,aB,az,aZ,ar,bh,bi,bp,au,bo,aY,br,aR,aI,a8,bm,aS,a2,aV,bc,a3,aM,bf,a4,bb,a1,av,aD,aF,aP,aK,ao,aQ,bt,aX,aU,bq,aJ,bs,aO,bk,rfl,HP,H⟩
  clear X0 ac ag
  have ae:=HC.out
  obtain⟨c0,c1,c2,cf⟩:=zo H.out.r.x
  have bu:Hid (zd7 wr E g.ms.length=zG b):=zc (zjm H.out.r.r)
  have KK:Hid (WkK g.ls g.ms.length L a (b,st) 0 (b,st)):=zc (WkK.first HP.out)
  clear HP
  go_wp2
  go_loopw [23,7] (fun i s wq=>∃(k I z:Nat) (A:List Bool) (q:List Nat),k≤g.ls.length∧i= .int .i64 k∧s= .slice (some ⟨I,0,none⟩) q.length z∧Hid (WkK g.ls g.ms.length L a (b,st) k (A,q))∧Hid (WkW w wq G g N E I z g.ms.length A q)) (fun i _ _=>(g.ls.length-intOf i).toNat)
  case atStart=>exact⟨0,gs,ad,b,st,Nat.zero_le _,rfl,rfl,KK,H⟩
  case round=>
   clear KK H c0 c1 c2 cf
   obtain⟨k,I,z,A,q,hk,rfl,rfl,U,H⟩:=hrel
   by_cases ab:k<g.ls.length
   ·have bN:(k:Int)<(g.ls.length:Int):=by omega
    obtain⟨l,X⟩: ∃l,g.ls[k]? =some l:=⟨_,List.getElem?_eq_getElem ab⟩
    obtain⟨y0,y1,y2,y3⟩:=HC.out l (List.mem_of_getElem? X)
    obtain⟨bl,bS,be,hc⟩:=(HR.out.later H.out.r.b).get X
    have k0:=hc 0 _ rfl
    have k1:=hc 1 _ rfl
    have k2:=hc 2 _ rfl
    simp only[Nat.add_zero] at k0
    have HN:=zc (U.out.next a9.out HZ.out X)
    obtain⟨O,aj⟩: ∃O:Nat,l.frm=O:=⟨l.frm.toNat,by omega⟩
    obtain⟨D,aA⟩: ∃D:Nat,l.to=D:=⟨l.to.toNat,by omega⟩
    have bU:=H.out.r.r.len
    have bX:D<g.ms.length:=by omega
    obtain⟨v,hv⟩: ∃v,A[D]? =some v:=⟨_,List.getElem?_eq_getElem (by omega)⟩
    have HS:Hid (zd6 a (A,q) l=if O=a∧v=false then (A.set D true,q++[D]) else (A,q)):=by
     show zd6 a (A,q) l=_
     unfold zd6
     rw[aj,aA,Int.toNat_natCast]
     have e1:A.getD D true=v:=by rw[List.getD,hv];rfl
     show (if (O:Int)=(a:Int)∧A.getD D true=false then _ else _)=_
     rw[e1]
     congr 1
     simp only[Int.natCast_inj]
    have bG:=U.out.wk.cnt
    have ap:=zdW A
    rw[aj] at k0
    rw[aA] at k2
    rw[be]
    have aa:q.length≤8:=by have:=U.out.wk.cnt;have:=U.out.wk.len;simp only at*;omega
    clear U aj be hc y0 y1 y2 y3 X bG ap ae
    obtain⟨W2,Z⟩: ∃W2,W2=wr.alloc (.cells #[.int .i64 (O:Int),.string l.spec,.int .i64 (D:Int)] 57):=⟨_,rfl⟩
    have aT:Below wr.heap.size wr W2:=by rw[Z];exact (Below.refl _ _).alloc (Nat.le_refl _) _
    have ah:=zc (H.out.later aT)
    have X2:Hid (W2.heap[wr.heap.size]? =some (.cells #[.int .i64 (O:Int),.string l.spec,.int .i64 (D:Int)] 57)):=by rw[Z];exact heap_alloc_new wr _
    clear aT
    have b1:=H.out.r.r.cell hv
    have bR:E<wr.heap.size:=H.out.r.r.at.2
    have f1:=H.out.r.r.free D
    have bL:wr.heap.size<W2.heap.size:=(Array.getElem?_eq_some_iff.1 X2.out).1
    have bQ:(D:Int)<(g.ms.length:Int):=by omega
    by_cases am:O=a
    ·subst am
     cases v with
     |true=>
      have Y:Hid (zd6 O (A,q) l=(A,q)):=by show _=_;rw[HS.out,if_neg (by simp)]
      clear HS
      go_wp2
      rw[←Z]
      go_roundw
      case rel=>exact⟨k+1,I,z,A,q,ab,by go_num,rfl,by rw[←Y.out];exact HN,ah⟩
      case measure=>simp[intOf];omega
     |false=>
      have Y:Hid (zd6 O (A,q) l=(A.set D true,q++[D])):=by show _=_;rw[HS.out,if_pos ⟨rfl,rfl⟩]
      have ba:=zc (H.out.set D)
      have e3:((wr.setCell ⟨E,D,none⟩ (.bool true)).alloc (.cells #[.int .i64 (O:Int),.string l.spec,.int .i64 (D:Int)] 57)).heap.size=wr.heap.size+1:=by rw[zg,World.size_setCell]
      clear HS X2 ah Z H bL
      go_wp2_with (at_builtin;refine zji ntE _ rfl _ _ 36 rfl w.heap.size 3 j0 _ 8 Tryz.underlying36 ji bD bK bv rfl (by decide) I q.length z q (by rfl) (by exact ((ba.out.later ((Below.refl _ _).alloc (Nat.le_refl _) _)).later ((Below.refl _ _).alloc (Nat.le_refl _) _)).s) (wr.heap.size+1) D (by rfl) (by have h:=heap_alloc_new ((wr.setCell ⟨E,D,none⟩ (.bool true)).alloc (.cells #[.int .i64 (O:Int),.string l.spec,.int .i64 (D:Int)] 57)) (.cells #[.int .i64 (D:Int)] 3);rw[e3] at h;exact h) (by omega) ?_;intro g4 a7 w4 bJ bH bM)
      have bx:=zc (((ba.out.later ((Below.refl _ _).alloc (Nat.le_refl _) _)).later ((Below.refl _ _).alloc (Nat.le_refl _) _)).grow bH (st':=q++[D]) (by rw[List.length_append];exact bJ))
      go_roundw
      case rel=>exact⟨k+1,g4,a7,A.set D true,q++[D],ab,by go_num,by rw[List.length_append];rfl,by rw[←Y.out];exact HN,bx⟩
      case measure=>simp[intOf];omega
    ·have bZ:((O:Int)==(a:Int))=false:=beq_eq_false_iff_ne.2 (by omega)
     have Y:Hid (zd6 a (A,q) l=(A,q)):=by show _=_;rw[HS.out,if_neg (fun k=>am k.1)]
     clear HS
     go_wp2
     rw[←Z]
     go_roundw
     case rel=>exact⟨k+1,I,z,A,q,ab,by go_num,rfl,by rw[←Y.out];exact HN,ah⟩
     case measure=>simp[intOf];omega
   ·obtain rfl:k=g.ls.length:=by omega
    have a5:=U.out.wk.cnt
    have bC:=U.out.wk.len
    have ap:=zdW A
    have bP:=zdW b
    have aa:q.length≤8:=by simp only at*;omega
    rcases List.eq_nil_or_concat q with rfl|⟨J,x,rfl⟩
    ·have HE:=zc (U.out.over hm a9.out rfl)
     go_wp2
     simp only[Exit.jump]
     go_ret
     refine⟨E,rfl,?_,H.out.r.b⟩
     rw[←show A=_ from HE.out]
     exact H.out.r.r
    ·rw[List.concat_eq_append] at U H aa a5 ⊢
     have bz:=zc (U.out.pop rfl)
     have HM:=zc U.out.meas
     obtain⟨ln,V⟩: ∃ln,ln=J.length:=⟨_,rfl⟩
     have bw:(J++[x]).length=ln+1:=by rw[List.length_append,V];rfl
     have bB:Hid (OwnE ntE wr w.heap.size 3 I ln z J):=zc (by
      have h:=H.out.s.cut (k:=ln) (by omega)
      rw[V,List.take_left] at h
      rw[V]
      exact h)
     have hx:wr.cell? ⟨I,ln,none⟩=some (.int .i64 (x:Int)):=by
      obtain⟨b4,bO,he,hc⟩:=H.out.s.row.get (j:=ln) (x:=x) (by rw[V,List.getElem?_append_right (Nat.le_refl _),Nat.sub_self];rfl)
      cases he
      have h:=hc 0 _ rfl
      simpa [ntE] using h
     have aw:=H.out.s.cap
     have aN:=zc H.out.r
     have bW:Hid (zd7 wr E g.ms.length=zG A):=zc (zjm H.out.r.r)
     rw[bw] at aw aa ⊢
     clear H U a5 bC
     subst V
     have bT:(J.length:Int)≤(z:Int):=by omega
     have X:J.length<J.length+1:=by omega
     have aL:Below wr.heap.size wr wr.drew:=(Below.refl _ _).drew
     have W9:Hid (WkW w wr.drew G g N E I z g.ms.length A J):=zc (WkW.later ⟨aN.out,bB.out⟩ aL)
     have M9:Hid (zd7 wr.drew E g.ms.length=zG A):=zc (zjm W9.out.r.r)
     clear aL
     go_wp2
     go_region
     all_goals
      go_wp2
      go_step3
      refine⟨rfl,⟨E,x,I,z,A,J,_,_,_,_,_,_,_,_,_,_,_,_,_,_,_,_,_,_,_,_,_,_,_,_,_,_,_,_,_,_,_,_,_,_,_,_,_,_,_,_,_,_,_,_,_,_,_,_,_,_,_,_,_,_,_,rfl,bz,W9⟩,?_⟩
      have q1:=HM.out
      have q2:=M9.out
      have q3:=bu.out
      simp only[List.length_append,List.length_singleton] at q1
      have q4:=aN.out.r.len
      show (g.ms.length-zd7 wr.drew E g.ms.length)+J.length<(g.ms.length-zd7 _ E g.ms.length)+st.length
      rw[q2,q3]
      omega
 ·intro an
  obtain⟨c0,c1,c2,cf⟩:=zo X0.out
  go_wp2_with (first|(at_make;refine wpList_make_full W0 rfl _ _ 58 rfl w.heap.size 4 i0 _ 1 Tryz.underlying58 hi bA bI .i64 .i64 _ _ g.ms.length (by rfl) (by rfl) rfl rfl (by rw[bF];omega) (by unfold maxLen;omega) ac.out.size ?_))
  intro w1 M af
  have al:Below W0.heap.size W0 w1:=(Below.refl _ _).grown af (Nat.le_refl _) (fun k h=>by cases h)
  obtain⟨E,ak⟩: ∃E,E=W0.heap.size:=⟨_,rfl⟩
  have RR:Hid (RchW w w1 G g N E g.ms.length (List.replicate g.ms.length false)):=by
   refine⟨X0.out.later al,?_,by omega,zZ ac.out al⟩
   unfold OwnBl OwnR
   rw[toList_madeCells_one] at M
   rw[ak,List.map_replicate]
   exact M
  rw[←ak]
  clear M af al ak X0 ac ag c0 c1 c2 cf
  obtain⟨c0,c1,c2,cf⟩:=zo RR.out.x
  have f0:=RR.out.r.free L
  have b0:=RR.out.r.cell (j:=L) (v:=false) (by rw[List.getElem?_replicate,if_pos (by omega)])
  have bE:(L:Int)<(g.ms.length:Int):=by omega
  have R1:=zc (RR.out.set L)
  go_upto_region 3 with fail
  obtain⟨w2,aq⟩: ∃w2,w2=w1.setCell ⟨E,L,none⟩ (.bool true):=⟨_,rfl⟩
  rw[←aq] at R1 ⊢
  clear aq RR f0 b0 c0 c1 c2 cf bE
  change Hid (RchW w w2 G g N E g.ms.length (za0 g.ms.length L)) at R1
  have HP:Hid (WkP g.ls g.ms.length L L (za0 g.ms.length L,[])):=zc (WkP.start hm)
  have W1:Hid (WkW w (w2.alloc (.cells #[] 3)) G g N E w2.heap.size 0 g.ms.length (za0 g.ms.length L) []):=zc (by
   have hb:Below w2.heap.size w2 (w2.alloc (.cells #[] 3)):=(Below.refl _ _).alloc (Nat.le_refl _) _
   exact⟨⟨R1.out.x.later hb,R1.out.r.later hb,R1.out.ne,R1.out.b.trans (hb.mono R1.out.b.size)⟩,(OwnE.nil ntE w2 3).low R1.out.b.size⟩)
  go_wp2
  go_step3
  rename_i K hK
  refine hK _ _ (an _ _ ⟨E,L,w2.heap.size,0,za0 g.ms.length L,[],_,_,_,_,_,_,_,_,_,_,_,_,_,_,_,_,_,_,_,_,_,_,_,_,_,_,_,_,_,_,_,_,_,_,_,_,_,_,_,_,_,_,_,_,_,_,_,_,_,_,_,_,_,_,_,rfl,HP,W1⟩)
theorem Tryz.infoBls:(Tryz.prog.info? 58).map (fun i=>(i.zero,i.size,i.bytes))=some (some (.slice none 0 0),1,24):=by kernel_rfl
def reV (n:Nat) (gs:Nat→Nat) (k j:Nat):Value:=if j<k then .slice (some ⟨gs j,0,none⟩) n n else .slice none 0 0
def reL (n:Nat) (gs:Nat→Nat) (k:Nat):List Value:=(List.range n).map (reV n gs k)
theorem zxp {n k:Nat} (w:Nat→Nat) (z:k<n) (q:Nat):(reL n w k).set k (.slice (some ⟨q,0,none⟩) n n)=reL n (fun j=>if j=k then q else w j) (k+1):=by
 apply List.ext_getElem?
 intro i
 rw[List.getElem?_set]
 simp only[reL,List.getElem?_map,List.length_map,List.length_range]
 by_cases D:i<n
 ·rw[List.getElem?_range D]
  by_cases e:k=i
  ·subst e
   simp[reV,z]
  ·simp only[e,if_false,Option.map_some,reV]
   have A:(i<k+1)=(i<k):=by apply propext;omega
   simp only[A,show ¬i=k from fun h=>e h.symm,if_false]
 ·rw[List.getElem?_eq_none (by simp;omega)]
  by_cases e:k=i
  ·omega
  ·simp[e]
theorem zxq {W D:World} {base g n q:Nat} {e:TypeId} {size:Nat} {k:Nat} {xs:List Value} (h:W.ownsRow base e size (.slice (some ⟨g,0,none⟩) n q) k xs) (H:D.heap[g]? =W.heap[g]?):D.ownsRow base e size (.slice (some ⟨g,0,none⟩) n q) k xs:=by
 refine⟨h.1,?_⟩
 rcases h.2 with ⟨w,_⟩|⟨J,A,z,w,E,I,rest⟩
 ·simp at w
 ·simp only[Value.slice.injEq,Option.some.injEq,Addr.mk.injEq,and_true] at w
  obtain⟨rfl,rfl,rfl⟩:=w
  exact .inr ⟨g,q,z,rfl,E,H.trans I,rest⟩
structure ReW (w W:World) (G:GS) (g:Gr) (gx b:Nat) (gs:Nat→Nat) (k:Nat):Prop where
 x:Bk W gx (grC G g) 32
 row:W.ownsRow w.heap.size 58 1 (.slice (some ⟨b,0,none⟩) g.ms.length g.ms.length) g.ms.length (reL g.ms.length gs k)
 bl: ∀j,j<k→OwnBl W w.heap.size (gs j) g.ms.length (zah g.ls g.ms.length (za0 g.ms.length j))
 bel:Below w.heap.size w W
theorem ReW.blk {w W:World} {G:GS} {g:Gr} {D b k:Nat} {E:Nat→Nat} (h:ReW w W G g D b E k):w.heap.size≤b∧∃q,W.heap[b]? =some (.cells q 58 (0,0)):=by
 rcases h.row.2 with ⟨z,_⟩|⟨J,A,q,z,H,I,_⟩
 ·simp at z
 ·simp only[Value.slice.injEq,Option.some.injEq,Addr.mk.injEq,and_true,true_and] at z
  obtain⟨rfl,_⟩:=z
  exact⟨H,q,I⟩
theorem ReW.later {w W D:World} {G:GS} {g:Gr} {A b k:Nat} {z:Nat→Nat} (h:ReW w W G g A b z k) (q:Below W.heap.size W D):ReW w D G g A b z k:=by
 obtain⟨_,E,I⟩:=h.blk
 exact⟨h.x.later q,zxq h.row (q.block b (Array.getElem?_eq_some_iff.1 I).1),fun j H=>(h.bl j H).later q,h.bel.trans (q.mono h.bel.size)⟩
theorem ReW.put {w W:World} {G:GS} {g:Gr} {D b k z:Nat} {H:Nat→Nat} (h:ReW w W G g D b H k) (V:k<g.ms.length) (X:OwnBl W w.heap.size z g.ms.length (zah g.ls g.ms.length (za0 g.ms.length k))):
  ReW w (W.setCell ⟨b,k,none⟩ (.slice (some ⟨z,0,none⟩) g.ms.length g.ms.length)) G g D b (fun j=>if j=k then z else H j) (k+1):=by
 obtain⟨Y,U,N⟩:=h.blk
 have O:W.heap[D]? =_:=h.x
 have E:D≠b:=fun e=>by
  rw[e,N] at O
  exact absurd (Option.some.inj O) (by simp)
 have J: ∀{q:Nat} {l:List Bool},OwnBl W w.heap.size q g.ms.length l→OwnBl (W.setCell ⟨b,k,none⟩ (.slice (some ⟨z,0,none⟩) g.ms.length g.ms.length)) w.heap.size q g.ms.length l:=fun {q l} hq=>by
  refine OwnR.keep hq fun j L=>?_
  have e:j=q:=by simpa [Rw.blk,Value.ownBlock] using L.symm
  rw[e]
  refine heap_setCell_other W ⟨b,k,none⟩ q _ fun I=>?_
  obtain⟨K,A⟩:=hq.block
  have I:q=b:=I
  rw[I,N] at A
  exact absurd (Option.some.inj A) (by simp)
 have M:=(h.row.stored k (.slice (some ⟨z,0,none⟩) g.ms.length g.ms.length)).1
 rw[zxp H V] at M
 refine⟨(heap_setCell_other W ⟨b,k,none⟩ D _ E).trans h.x,M,fun j L=>?_,h.bel.setCell (p:=⟨b,k,none⟩) Y _⟩
 by_cases e:j=k
 ·subst e
  simp only[if_true]
  exact J X
 ·simp only[e,if_false]
  exact J (h.bl j (by omega))
theorem ReW.cell {w W:World} {G:GS} {g:Gr} {A b k j:Nat} {q:Nat→Nat} (h:ReW w W G g A b q k) (z:j<g.ms.length):W.cell? ⟨b,j,none⟩=some (reV g.ms.length q k j):=by
 rw[h.row.cellAt j (by omega)]
 simp[reL,List.getElem?_range z]
theorem ReW.free {w W:World} {G:GS} {g:Gr} {z b k j:Nat} {q:Nat→Nat} (h:ReW w W G g z b q k):W.frozen? ⟨b,j,none⟩=false:=h.row.frozenAt j
def ReAt (W:World) (g:Gr) (b:Nat) (gs:Nat→Nat):Prop:=b<W.heap.size∧∀j,j<g.ms.length→W.cell? ⟨b,j,none⟩=some (.slice (some ⟨gs j,0,none⟩) g.ms.length g.ms.length)∧gs j<W.heap.size∧∀i,i<g.ms.length→W.cell? ⟨gs j,i,none⟩=some (.bool (zaT g j i))
theorem ReAt.later {W A:World} {g:Gr} {b:Nat} {w:Nat→Nat} (h:ReAt W g b w) (q:Below W.heap.size W A):ReAt A g b w:=
 ⟨Nat.lt_of_lt_of_le h.1 q.size,fun j D=>by
  obtain⟨E,z,H⟩:=h.2 j D
  exact⟨(q.cell (p:=⟨b,j,none⟩) h.1).trans E,Nat.lt_of_lt_of_le z q.size,fun i I=>(q.cell (p:=⟨w j,i,none⟩) z).trans (H i I)⟩⟩
theorem zxr (base:Nat) (G:GS) (g:Gr) (w:World) (ho:GrOwn w base G g) (ac:g.ms.length≤8) (hl:g.ls.length≤1048576) (hr: ∀l∈g.ls,0≤l.frm∧l.frm<(g.ms.length:Int)∧0≤l.to∧l.to<(g.ms.length:Int)):
  Calls Tryz.prog 42 #[grD G g] w fun e w'=>∃b N,e= .returned (.slice (some ⟨b,0,none⟩) g.ms.length g.ms.length)∧ReAt w' g b N∧Below w.heap.size w w':=by
 have HO:=zc ho
 have HC:=zc hr
 clear ho hr
 obtain⟨i0,H,Y,aa,ab⟩:=info_parts Tryz.infoBls
 unfold grD
 go_enter Tryz.func42,Tryz.ntmps42
 go_upto_region 1 with fail
 obtain⟨O,K⟩: ∃O,O=w.heap.size:=⟨_,rfl⟩
 rw[←K]
 refine zu (R:=fun W=>Bk W O (grC G g) 32∧Below w.heap.size w W) (by rw[K];exact⟨heap_alloc_new w _,zan w _⟩) ?_
 rintro X ⟨hx,hb⟩
 clear K
 have X0:=zc hx
 have E:=zc hb
 clear hx hb
 obtain⟨c0,c1,c2,cf⟩:=zo X0.out
 go_wp2_with (first|(at_make;refine wpList_make_full X rfl _ _ 71 rfl w.heap.size 58 i0 _ 1 Tryz.underlying71 H Y aa .i64 .i64 _ _ g.ms.length (by rfl) (by rfl) rfl rfl (by rw[ab];omega) (by unfold maxLen;omega) E.out.size ?_))
 intro w1 q D
 have J:Below X.heap.size X w1:=(Below.refl _ _).grown D (Nat.le_refl _) (fun k h=>by cases h)
 obtain⟨b,I⟩: ∃b,b=X.heap.size:=⟨_,rfl⟩
 have R1:Hid (ReW w w1 G g O b (fun _=>0) 0):=by
  refine zc ⟨X0.out.later J,?_,fun j L=>absurd L (Nat.not_lt_zero j),zZ E.out J⟩
  rw[toList_madeCells_one] at q
  rw[I]
  have e:reL g.ms.length (fun _=>0) 0=List.replicate g.ms.length (.slice none 0 0):=by
   apply List.ext_getElem?
   intro i
   rw[reL,List.getElem?_map,List.getElem?_replicate]
   by_cases H:i<g.ms.length
   ·rw[List.getElem?_range H,if_pos H];rfl
   ·rw[List.getElem?_eq_none (by simp;omega),if_neg H];rfl
  rw[e]
  exact q
 rw[←I]
 clear q D J I X0 E c0 c1 c2 cf
 go_wp2
 go_loopw [11,4] (fun i _ wr=>∃(k:Nat) (N:Nat→Nat),k≤g.ms.length∧i= .int .i64 k∧Hid (ReW w wr G g O b N k)) (fun i _ _=>(g.ms.length-intOf i).toNat)
 case atStart=>exact⟨0,_,Nat.zero_le _,rfl,R1⟩
 case round=>
  clear R1
  obtain⟨k,N,hk,rfl,z⟩:=hrel
  by_cases A:k<g.ms.length
  ·have V:(k:Int)<(g.ms.length:Int):=by omega
   obtain⟨c0,c1,c2,cf⟩:=zo z.out.x
   go_wp2_with fail
   refine (zxo base G g k A wr (HO.out.later z.out.bel) ac hl HC.out).mono ?_
   rintro e w2 ⟨g2,rfl,M,U⟩
   have Z:=zc (z.out.later U)
   have O2:Hid (OwnBl w2 w.heap.size g2 g.ms.length (zah g.ls g.ms.length (za0 g.ms.length k))):=zc (OwnR.low M z.out.bel.size)
   have q0:=Z.out.cell A
   have qf:=Z.out.free (j:=k)
   have R3:=zc (Z.out.put A O2.out)
   clear M U z c0 c1 c2 cf
   go_wp2
   go_roundw
   case rel=>exact⟨k+1,_,A,by go_num,R3⟩
   case measure=>simp[intOf];omega
  ·have V: ¬(k:Int)<(g.ms.length:Int):=by omega
   obtain rfl:k=g.ms.length:=by omega
   go_wp2
   go_ret
   obtain⟨_,ad,hc⟩:=z.out.blk
   refine⟨b,rfl,⟨N,(Array.getElem?_eq_some_iff.1 hc).1,fun j L=>⟨?_,(z.out.bl j L).at.2,fun i H=>(z.out.bl j L).cell (zna H)⟩⟩,z.out.bel⟩
   have:=z.out.cell L
   rw[reV,if_pos L] at this
   exact this
end Go.Proofs.YtgcbmogmniahjaaGreat
