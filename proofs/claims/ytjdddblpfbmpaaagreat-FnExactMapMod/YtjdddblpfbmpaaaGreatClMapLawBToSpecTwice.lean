/-
  What laws.FnExactMapMod holds on its way,in bundles. No program is spoken of but for the numbers of its types.
  What the laws' copiers answer: the walks.
  What the laws' toMod answers: the walk.
  What the laws' comparers of lists answer where both show the same: the walks.
  What the laws' eqMod answers of a program made twice: the walk.
  What is known of a row of rules that came in: as of files.
  What spec.l14Copy answers: the walk.
  A program whose requests are mapped in memory,beside the rules. No program is spoken of but for the numbers of its types.
  A request is laid behind those of a program in its box. No program is spoken of but for the numbers of its types.
  What spec.l14Str and spec.RulesOk answer: the walks.
  What spec.l2Begins and spec.Resolve answer: the walks.
  What spec.MapSpec answers: the walk.
  Texts that stand twice in a list,as plain functions. No program is spoken of.
  What spec's l6In and l6Twice answer: the walks.
-/
import Derived.Deep.DeepCutAuto
import Derived.Deep.RegionWith
import Derived.Test.YtjdddblpfbmpaaaGreatClTwoArgsToLawMarkR
namespace Go.Proofs.YtjdddblpfbmpaaaGreat
set_option maxRecDepth 100000
set_option maxHeartbeats 12800000
open Go.RowKit Go.PlainAid Go.Sort
theorem zpv {a b:Bool} (h:a=true↔b=true):a=b:=by cases a<;>cases b<;>simp_all
theorem zpw {w w':World} {g b:Nat} (h:w.grownBy w' (some g)) (A:b≤g) (j:b≤w.heap.size):Below b w w':=
 ⟨h.os,h.tape,h.output,h.size,fun k z=>h.block k (by omega) fun e=>by have:=Option.some.inj e;omega⟩
structure L1 (w:World) (gx:Nat) (A:MA) (m:Md) (b2 gw:Nat) (S2:Sv) (N:Md) (b4:Nat) (W:World):Prop where
 x:W.heap[gx]? =some (zh0 A m)
 wb:W.heap[gw]? =some (zcE S2 N)
 o:OwnMd W b2 S2 N
 bel:Below w.heap.size w W
 lx:gx<b4
 lw:gw<b4
 lo: ∀k,zdF S2 k→k<b4
 l4:b4≤W.heap.size
 lb:w.heap.size≤b4
section
variable {w W W':World} {gx b2 gw b4 b5 b7 gy gg g2 len:Nat} {A:MA} {m N:Md} {S2 S3 S4:Sv} {Pt Tx:Nat→ByteArray}
theorem L1.under (h:L1 w gx A m b2 gw S2 N b4 W) {c:Nat} (z:b4≤c) (j:Below c W W'):L1 w gx A m b2 gw S2 N b4 W':=
 ⟨(j.block gx (Nat.lt_of_lt_of_le h.lx z)).trans h.x,(j.block gw (Nat.lt_of_lt_of_le h.lw z)).trans h.wb,h.o.keepB fun k _ _ H=>j.block k (Nat.lt_of_lt_of_le (h.lo k H) z),h.bel.trans (j.mono (Nat.le_trans h.lb z)),h.lx,h.lw,h.lo,Nat.le_trans h.l4 j.size,h.lb⟩
theorem L1.later (h:L1 w gx A m b2 gw S2 N b4 W) (j:Below W.heap.size W W'):L1 w gx A m b2 gw S2 N b4 W':=h.under h.l4 j
theorem L1.of {F:ByteArray→ByteArray} {t:Bool} {j W:World} (H:j.heap[gx]? =some (zh0 A m)) (z:Below w.heap.size w j) (h:Res F m j gw S2 N t W):L1 w gx A m j.heap.size gw S2 N W.heap.size W:=
 ⟨zbd H h.bel,h.box,h.own,z.trans (h.bel.mono z.size),Nat.lt_of_lt_of_le (Array.getElem?_eq_some_iff.1 H).1 h.bel.size,(Array.getElem?_eq_some_iff.1 h.box).1,fun _ I=>(h.own.in I).2.1,Nat.le_refl _,Nat.le_trans z.size h.bel.size⟩
structure L3 (b5 gy:Nat) (S3:Sv) (m:Md) (b7 gg:Nat) (S4:Sv) (N:Md) (W:World):Prop where
 l5:b5≤W.heap.size
 l7:b7≤W.heap.size
 y:W.heap[gy]? =some (zcE S3 m)
 o3:OwnMd W b5 S3 m
 l3: ∀k,zdF S3 k→k<b7
 gb:W.heap[gg]? =some (zcE S4 N)
 o4:OwnMd W b7 S4 N
theorem L3.later (h:L3 b5 gy S3 m b7 gg S4 N W) (j:Below W.heap.size W W'):L3 b5 gy S3 m b7 gg S4 N W':=⟨Nat.le_trans h.l5 j.size,Nat.le_trans h.l7 j.size,zbd h.y j,h.o3.later j,h.l3,zbd h.gb j,h.o4.later j⟩
theorem L3.rule (h:L3 b5 gy S3 m b7 gg S4 N W) (L:OwnF W b4 57 g2 len len Pt Tx) (w:W.grownBy W' (some g2)):L3 b5 gy S3 m b7 gg S4 N W':=by
 obtain⟨O,M,_⟩:=L
 obtain⟨_,_,I,H⟩:=OwnR.typed (r:=⟨some ⟨g2,0,none⟩,len⟩) M (k:=g2) rfl
 have z: ∀{k:Nat} {S:Sv} {m:Md},W.heap[k]? =some (zcE S m)→W'.heap[k]? =some (zcE S m):=fun {k S m} j=>(w.block k (Array.getElem?_eq_some_iff.1 j).1 fun e=>by
  rw[Option.some.inj e,H] at j
  simp[zcE] at j).trans j
 have A: ∀{b:Nat} {S:Sv} {m:Md},OwnMd W b S m→OwnMd W' b S m:=fun {b S m} ho=>ho.keepB fun k _ J j=>w.block k J fun e=>ho.not H (by decide) (by rw[←Option.some.inj e];exact j)
 exact⟨Nat.le_trans h.l5 w.size,Nat.le_trans h.l7 w.size,z h.y,A h.o3,h.l3,z h.gb,A h.o4⟩
theorem L3.md (h:L3 b5 gy S3 m b7 gg S4 N W) (w: ∀j,j<W.heap.size→¬zdF S3 j→W'.heap[j]? =W.heap[j]?):W'.heap[gg]? =some (zcE S4 N)∧OwnMd W' b7 S4 N:=
 ⟨(w gg (Array.getElem?_eq_some_iff.1 h.gb).1 (h.o3.not h.gb (by decide))).trans h.gb,h.o4.keepB fun k I z H=>w k z fun A=>by have:=h.l3 k A;omega⟩
end
theorem Tryz.infoTStr:(Tryz.prog.info? 9).map (fun i=>(i.zero,i.size,i.bytes))=some (some (.string {data:=#[]}),1,16):=by kernel_rfl
theorem zpx (a:Option Addr) (Z:Nat) (l:List ByteArray) (w:World) (hr:RowAt w a (fun x=>[Value.string x]) 1 l) (hl:l.length≤1048576):
  Calls Tryz.prog 35 #[.slice a l.length Z] w fun e w'=>zfv w 9 1 l.length (l.flatMap (fun x=>[Value.string x])) e w':=by
 have HR:=zc hr
 clear hr
 obtain⟨i0,hi,X,aa,ab⟩:=info_parts Tryz.infoTStr
 go_enter Tryz.func35,Tryz.ntmps35
 go_wp2_with (first|(at_make;refine wpList_make_full w rfl _ _ 22 rfl w.heap.size 9 i0 _ 1 Tryz.underlying22 hi X aa .i64 .i64 _ _ l.length (by rfl) (by rfl) rfl rfl (by rw[ab];omega) (by unfold maxLen;omega) (Nat.le_refl _) ?_))
 intro U z A
 have ad:=zc ((Below.refl _ _).grown A (Nat.le_refl _) (fun k h=>by cases h):Below w.heap.size w U)
 have H:Hid (OwnC U w.heap.size 9 1 w.heap.size l.length (l.flatMap (fun x=>[Value.string x])) 0):=⟨_,z,fun j hj=>absurd hj (Nat.not_lt_zero j)⟩
 clear z A
 obtain⟨g,J⟩: ∃g,g=w.heap.size:=⟨_,rfl⟩
 have ac:=zc J
 rw[←J]
 rw[←J] at H
 have ae:Hid (OwnC U w.heap.size 9 1 g l.length (l.flatMap (fun x=>[Value.string x])) 0):=by rw[←J];exact H.out
 clear J H
 go_wp2
 go_loopg [4] l.length (fun k i wr=>∃j:Nat,i= .int .i64 j∧j+k=l.length∧OwnC wr w.heap.size 9 1 g l.length (l.flatMap (fun x=>[Value.string x])) (j*1)∧Below w.heap.size w wr)
 case atStart=>exact⟨0,rfl,by omega,ae.out,ad.out⟩
 case round=>
  obtain⟨j,rfl,hj,ho,hb⟩:=hrel
  have N:=zc ho
  have Y:=zc hb
  clear ho hb
  by_cases V:j<l.length
  ·have L:(j:Int)<(l.length:Int):=by omega
   obtain⟨x,hx⟩: ∃x,l[j]? =some x:=⟨_,List.getElem?_eq_getElem V⟩
   obtain⟨b,af,rfl,hc⟩:=(HR.out.later Y.out).get hx
   have HX:=zc hx
   clear hx
   have c0:=hc 0 _ rfl
   simp only[Nat.add_zero,Nat.mul_one] at c0
   clear hc
   obtain⟨M,I⟩: ∃M,M=j+1:=⟨_,rfl⟩
   have ej:(j:Int)+1=(M:Int):=by omega
   have HJ:=zc I
   clear I
   obtain⟨v0,g0⟩:=N.out.has (j*1) (by omega)
   have f0:=N.out.free (j*1)
   have HN:=zc (N.out.put (by omega) (zbP (f:=(fun x=>[Value.string x])) (m:=1) (fun _=>rfl) l j x 0 _ HX.out rfl))
   simp only[Nat.mul_one] at g0 f0
   have O:w.heap.size≤g:=by have:=ac.out;omega
   go_wp2
   go_roundg (gk-1)
   case rel=>exact⟨M,rfl,by have:=HJ.out;omega,by have:=HN.out;simp only[Nat.mul_one] at this;rw[HJ.out,Nat.mul_one];exact this,(Y.out.setCell O _)⟩
   case measure=>omega
  ·have L: ¬(j:Int)<(l.length:Int):=by omega
   obtain rfl:j=l.length:=by omega
   go_wp2
   go_ret
   exact⟨g,rfl,N.out.all (zfu (f:=(fun x=>[Value.string x])) (fun _=>rfl) l),Y.out⟩
theorem Tryz.infoTIm:(Tryz.prog.info? 84).map (fun i=>(i.zero,i.size,i.bytes))=some (some (.agg #[.string {data:=#[]},.string {data:=#[]},.string {data:=#[]}]),3,48):=by kernel_rfl
theorem zpy (x:Im) (w:World):
  Calls Tryz.prog 85 #[.agg #[.string x.spec,.string x.first,.string x.loc]] w fun e w'=>e= .returned (.agg #[.string x.spec,.string x.first,.string x.loc])∧Below w.heap.size w w':=by
 go_enter Tryz.func85,Tryz.ntmps85
 go_wp2
 refine bodyPost_ret (results_cell_row rfl _ _ (w.heap.size+1) 84 #[.string x.spec,.string x.first,.string x.loc] (0,0) _ rfl ?_ Tryz.underlying84 rfl (by kernel_rfl)) rfl ?_
 ·rw[heap_alloc_old _ _ (by show _<((w.heap.push _).push _).size;simp)]
  exact heap_alloc2_new w _ _
 ·exact⟨rfl,(((Below.refl _ _).alloc (Nat.le_refl _) _).alloc (by show _≤(w.heap.push _).size;simp) _).alloc (by show _≤((w.heap.push _).push _).size;simp;omega) _⟩
theorem zpz (a:Option Addr) (ab:Nat) (l:List Im) (w:World) (hr:RowAt w a imL 3 l) (hl:l.length≤1048576):
  Calls Tryz.prog 36 #[.slice a l.length ab] w fun e w'=>zfv w 84 3 l.length (l.flatMap imL) e w':=by
 have HR:=zc hr
 clear hr
 obtain⟨i0,hi,aa,ac,ad⟩:=info_parts Tryz.infoTIm
 go_enter Tryz.func36,Tryz.ntmps36
 go_wp2_with (first|(at_make;refine wpList_make_full w rfl _ _ 31 rfl w.heap.size 84 i0 _ 3 Tryz.underlying31 hi aa ac .i64 .i64 _ _ l.length (by rfl) (by rfl) rfl rfl (by rw[ad];omega) (by unfold maxLen;omega) (Nat.le_refl _) ?_))
 intro Y A H
 have af:=zc ((Below.refl _ _).grown H (Nat.le_refl _) (fun k h=>by cases h):Below w.heap.size w Y)
 have J:Hid (OwnC Y w.heap.size 84 3 w.heap.size l.length (l.flatMap imL) 0):=⟨_,A,fun j hj=>absurd hj (Nat.not_lt_zero j)⟩
 clear A H
 obtain⟨g,N⟩: ∃g,g=w.heap.size:=⟨_,rfl⟩
 have ae:=zc N
 rw[←N]
 rw[←N] at J
 have ag:Hid (OwnC Y w.heap.size 84 3 g l.length (l.flatMap imL) 0):=by rw[←N];exact J.out
 clear N J
 go_wp2
 go_loopg [4] l.length (fun k i wr=>∃j:Nat,i= .int .i64 j∧j+k=l.length∧OwnC wr w.heap.size 84 3 g l.length (l.flatMap imL) (j*3)∧Below w.heap.size w wr)
 case atStart=>exact⟨0,rfl,by omega,ag.out,af.out⟩
 case round=>
  obtain⟨j,rfl,hj,ho,hb⟩:=hrel
  have HO:=zc ho
  have V:=zc hb
  clear ho hb
  by_cases Z:j<l.length
  ·have O:(j:Int)<(l.length:Int):=by omega
   obtain⟨x,hx⟩: ∃x,l[j]? =some x:=⟨_,List.getElem?_eq_getElem Z⟩
   obtain⟨b,ai,rfl,X⟩:=(HR.out.later V.out).get hx
   have HX:=zc hx
   clear hx
   have c0:=X 0 _ rfl
   have c1:=X 1 _ rfl
   have c2:=X 2 _ rfl
   simp only[Nat.add_zero] at c0
   clear X
   obtain⟨U,M⟩: ∃U,U=j+1:=⟨_,rfl⟩
   have ej:(j:Int)+1=(U:Int):=by omega
   have HJ:=zc M
   clear M
   go_wp2_with fail
   refine (zpy x _).mono ?_
   rintro e w2 ⟨rfl,L⟩
   have z:=zc (HO.out.later L)
   have ah:=zc (V.out.trans (L.mono V.out.size))
   clear L c0 c1 c2
   obtain⟨v0,g0⟩:=z.out.has (j*3) (by omega)
   have f0:=z.out.free (j*3)
   obtain⟨v1,g1⟩:=z.out.has (j*3+1) (by omega)
   have f1:=z.out.free (j*3+1)
   obtain⟨v2,g2⟩:=z.out.has (j*3+2) (by omega)
   have f2:=z.out.free (j*3+2)
   have HN:=zc (((z.out.put (by omega) (zbP (f:=imL) (m:=3) (fun _=>rfl) l j x 0 _ HX.out rfl)).put (by omega) (zbP (f:=imL) (m:=3) (fun _=>rfl) l j x 1 _ HX.out rfl)).put (by omega) (zbP (f:=imL) (m:=3) (fun _=>rfl) l j x 2 _ HX.out rfl))
   have I:w.heap.size≤g:=by have:=ae.out;omega
   go_wp2
   go_roundg (gk-1)
   case rel=>exact⟨U,rfl,by have:=HJ.out;omega,by rw[HJ.out,Nat.succ_mul];exact HN.out,(((ah.out.setCell I _).setCell I _).setCell I _)⟩
   case measure=>omega
  ·have O: ¬(j:Int)<(l.length:Int):=by omega
   obtain rfl:j=l.length:=by omega
   go_wp2
   go_ret
   exact⟨g,rfl,HO.out.all (zfu (f:=imL) (fun _=>rfl) l),V.out⟩
theorem Tryz.infoTEp:(Tryz.prog.info? 86).map (fun i=>(i.zero,i.size,i.bytes))=some (some (.agg #[.int .i64 0,.string {data:=#[]},.string {data:=#[]},.string {data:=#[]}]),4,56):=by kernel_rfl
theorem zp0 (x:Ep) (w:World):
  Calls Tryz.prog 86 #[.agg #[.int .i64 x.kind,.string x.name,.string x.loc,.string x.spec]] w fun e w'=>e= .returned (.agg #[.int .i64 x.kind,.string x.name,.string x.loc,.string x.spec])∧Below w.heap.size w w':=by
 go_enter Tryz.func86,Tryz.ntmps86
 go_wp2
 refine bodyPost_ret (results_cell_row rfl _ _ (w.heap.size+1) 86 #[.int .i64 x.kind,.string x.name,.string x.loc,.string x.spec] (0,0) _ rfl ?_ Tryz.underlying86 rfl (by kernel_rfl)) rfl ?_
 ·rw[heap_alloc_old _ _ (by show _<((w.heap.push _).push _).size;simp)]
  exact heap_alloc2_new w _ _
 ·exact⟨rfl,(((Below.refl _ _).alloc (Nat.le_refl _) _).alloc (by show _≤(w.heap.push _).size;simp) _).alloc (by show _≤((w.heap.push _).push _).size;simp;omega) _⟩
theorem zp1 (a:Option Addr) (ac:Nat) (l:List Ep) (w:World) (hr:RowAt w a epL 4 l) (hl:l.length≤1048576):
  Calls Tryz.prog 37 #[.slice a l.length ac] w fun e w'=>zfv w 86 4 l.length (l.flatMap epL) e w':=by
 have HR:=zc hr
 clear hr
 obtain⟨i0,hi,ab,ad,ae⟩:=info_parts Tryz.infoTEp
 go_enter Tryz.func37,Tryz.ntmps37
 go_wp2_with (first|(at_make;refine wpList_make_full w rfl _ _ 32 rfl w.heap.size 86 i0 _ 4 Tryz.underlying32 hi ab ad .i64 .i64 _ _ l.length (by rfl) (by rfl) rfl rfl (by rw[ae];omega) (by unfold maxLen;omega) (Nat.le_refl _) ?_))
 intro Z A I
 have ag:=zc ((Below.refl _ _).grown I (Nat.le_refl _) (fun k h=>by cases h):Below w.heap.size w Z)
 have J:Hid (OwnC Z w.heap.size 86 4 w.heap.size l.length (l.flatMap epL) 0):=⟨_,A,fun j hj=>absurd hj (Nat.not_lt_zero j)⟩
 clear A I
 obtain⟨g,N⟩: ∃g,g=w.heap.size:=⟨_,rfl⟩
 have af:=zc N
 rw[←N]
 rw[←N] at J
 have ah:Hid (OwnC Z w.heap.size 86 4 g l.length (l.flatMap epL) 0):=by rw[←N];exact J.out
 clear N J
 go_wp2
 go_loopg [4] l.length (fun k i wr=>∃j:Nat,i= .int .i64 j∧j+k=l.length∧OwnC wr w.heap.size 86 4 g l.length (l.flatMap epL) (j*4)∧Below w.heap.size w wr)
 case atStart=>exact⟨0,rfl,by omega,ah.out,ag.out⟩
 case round=>
  obtain⟨j,rfl,hj,ho,hb⟩:=hrel
  have HO:=zc ho
  have X:=zc hb
  clear ho hb
  by_cases aa:j<l.length
  ·have O:(j:Int)<(l.length:Int):=by omega
   obtain⟨x,hx⟩: ∃x,l[j]? =some x:=⟨_,List.getElem?_eq_getElem aa⟩
   obtain⟨b,aj,rfl,U⟩:=(HR.out.later X.out).get hx
   have Y:=zc hx
   clear hx
   have c0:=U 0 _ rfl
   have c1:=U 1 _ rfl
   have c2:=U 2 _ rfl
   have c3:=U 3 _ rfl
   simp only[Nat.add_zero] at c0
   clear U
   obtain⟨V,M⟩: ∃V,V=j+1:=⟨_,rfl⟩
   have ej:(j:Int)+1=(V:Int):=by omega
   have HJ:=zc M
   clear M
   go_wp2_with fail
   refine (zp0 x _).mono ?_
   rintro e w2 ⟨rfl,L⟩
   have z:=zc (HO.out.later L)
   have ai:=zc (X.out.trans (L.mono X.out.size))
   clear L c0 c1 c2 c3
   obtain⟨v0,g0⟩:=z.out.has (j*4) (by omega)
   have f0:=z.out.free (j*4)
   obtain⟨v1,g1⟩:=z.out.has (j*4+1) (by omega)
   have f1:=z.out.free (j*4+1)
   obtain⟨v2,g2⟩:=z.out.has (j*4+2) (by omega)
   have f2:=z.out.free (j*4+2)
   obtain⟨v3,g3⟩:=z.out.has (j*4+3) (by omega)
   have f3:=z.out.free (j*4+3)
   have HN:=zc ((((z.out.put (by omega) (zbP (f:=epL) (m:=4) (fun _=>rfl) l j x 0 _ Y.out rfl)).put (by omega) (zbP (f:=epL) (m:=4) (fun _=>rfl) l j x 1 _ Y.out rfl)).put (by omega) (zbP (f:=epL) (m:=4) (fun _=>rfl) l j x 2 _ Y.out rfl)).put (by omega) (zbP (f:=epL) (m:=4) (fun _=>rfl) l j x 3 _ Y.out rfl))
   have H:w.heap.size≤g:=by have:=af.out;omega
   go_wp2
   go_roundg (gk-1)
   case rel=>exact⟨V,rfl,by have:=HJ.out;omega,by rw[HJ.out,Nat.succ_mul];exact HN.out,((((ai.out.setCell H _).setCell H _).setCell H _).setCell H _)⟩
   case measure=>omega
  ·have O: ¬(j:Int)<(l.length:Int):=by omega
   obtain rfl:j=l.length:=by omega
   go_wp2
   go_ret
   exact⟨g,rfl,HO.out.all (zfu (f:=epL) (fun _=>rfl) l),X.out⟩
theorem Tryz.infoTSm:(Tryz.prog.info? 107).map (fun i=>(i.zero,i.size,i.bytes))=some (some (.agg #[.int .i64 0,.string {data:=#[]},.int .i64 0]),3,32):=by kernel_rfl
theorem zp2 (x:Sm) (w:World):
  Calls Tryz.prog 87 #[.agg #[.int .i64 x.kind,.string x.name,.int .i64 x.expr]] w fun e w'=>e= .returned (.agg #[.int .i64 x.kind,.string x.name,.int .i64 x.expr])∧Below w.heap.size w w':=by
 go_enter Tryz.func87,Tryz.ntmps87
 go_wp2
 refine bodyPost_ret (results_cell_row rfl _ _ (w.heap.size+1) 107 #[.int .i64 x.kind,.string x.name,.int .i64 x.expr] (0,0) _ rfl ?_ Tryz.underlying107 rfl (by kernel_rfl)) rfl ?_
 ·rw[heap_alloc_old _ _ (by show _<((w.heap.push _).push _).size;simp)]
  exact heap_alloc2_new w _ _
 ·exact⟨rfl,(((Below.refl _ _).alloc (Nat.le_refl _) _).alloc (by show _≤(w.heap.push _).size;simp) _).alloc (by show _≤((w.heap.push _).push _).size;simp;omega) _⟩
theorem zp3 (a:Option Addr) (ab:Nat) (l:List Sm) (w:World) (hr:RowAt w a smL 3 l) (hl:l.length≤1048576):
  Calls Tryz.prog 38 #[.slice a l.length ab] w fun e w'=>zfv w 107 3 l.length (l.flatMap smL) e w':=by
 have HR:=zc hr
 clear hr
 obtain⟨i0,hi,aa,ac,ad⟩:=info_parts Tryz.infoTSm
 go_enter Tryz.func38,Tryz.ntmps38
 go_wp2_with (first|(at_make;refine wpList_make_full w rfl _ _ 33 rfl w.heap.size 107 i0 _ 3 Tryz.underlying33 hi aa ac .i64 .i64 _ _ l.length (by rfl) (by rfl) rfl rfl (by rw[ad];omega) (by unfold maxLen;omega) (Nat.le_refl _) ?_))
 intro Y A H
 have af:=zc ((Below.refl _ _).grown H (Nat.le_refl _) (fun k h=>by cases h):Below w.heap.size w Y)
 have J:Hid (OwnC Y w.heap.size 107 3 w.heap.size l.length (l.flatMap smL) 0):=⟨_,A,fun j hj=>absurd hj (Nat.not_lt_zero j)⟩
 clear A H
 obtain⟨g,N⟩: ∃g,g=w.heap.size:=⟨_,rfl⟩
 have ae:=zc N
 rw[←N]
 rw[←N] at J
 have ag:Hid (OwnC Y w.heap.size 107 3 g l.length (l.flatMap smL) 0):=by rw[←N];exact J.out
 clear N J
 go_wp2
 go_loopg [4] l.length (fun k i wr=>∃j:Nat,i= .int .i64 j∧j+k=l.length∧OwnC wr w.heap.size 107 3 g l.length (l.flatMap smL) (j*3)∧Below w.heap.size w wr)
 case atStart=>exact⟨0,rfl,by omega,ag.out,af.out⟩
 case round=>
  obtain⟨j,rfl,hj,ho,hb⟩:=hrel
  have HO:=zc ho
  have V:=zc hb
  clear ho hb
  by_cases Z:j<l.length
  ·have O:(j:Int)<(l.length:Int):=by omega
   obtain⟨x,hx⟩: ∃x,l[j]? =some x:=⟨_,List.getElem?_eq_getElem Z⟩
   obtain⟨b,ai,rfl,X⟩:=(HR.out.later V.out).get hx
   have HX:=zc hx
   clear hx
   have c0:=X 0 _ rfl
   have c1:=X 1 _ rfl
   have c2:=X 2 _ rfl
   simp only[Nat.add_zero] at c0
   clear X
   obtain⟨U,M⟩: ∃U,U=j+1:=⟨_,rfl⟩
   have ej:(j:Int)+1=(U:Int):=by omega
   have HJ:=zc M
   clear M
   go_wp2_with fail
   refine (zp2 x _).mono ?_
   rintro e w2 ⟨rfl,L⟩
   have z:=zc (HO.out.later L)
   have ah:=zc (V.out.trans (L.mono V.out.size))
   clear L c0 c1 c2
   obtain⟨v0,g0⟩:=z.out.has (j*3) (by omega)
   have f0:=z.out.free (j*3)
   obtain⟨v1,g1⟩:=z.out.has (j*3+1) (by omega)
   have f1:=z.out.free (j*3+1)
   obtain⟨v2,g2⟩:=z.out.has (j*3+2) (by omega)
   have f2:=z.out.free (j*3+2)
   have HN:=zc (((z.out.put (by omega) (zbP (f:=smL) (m:=3) (fun _=>rfl) l j x 0 _ HX.out rfl)).put (by omega) (zbP (f:=smL) (m:=3) (fun _=>rfl) l j x 1 _ HX.out rfl)).put (by omega) (zbP (f:=smL) (m:=3) (fun _=>rfl) l j x 2 _ HX.out rfl))
   have I:w.heap.size≤g:=by have:=ae.out;omega
   go_wp2
   go_roundg (gk-1)
   case rel=>exact⟨U,rfl,by have:=HJ.out;omega,by rw[HJ.out,Nat.succ_mul];exact HN.out,(((ah.out.setCell I _).setCell I _).setCell I _)⟩
   case measure=>omega
  ·have O: ¬(j:Int)<(l.length:Int):=by omega
   obtain rfl:j=l.length:=by omega
   go_wp2
   go_ret
   exact⟨g,rfl,HO.out.all (zfu (f:=smL) (fun _=>rfl) l),V.out⟩
theorem Tryz.infoTEx:(Tryz.prog.info? 109).map (fun i=>(i.zero,i.size,i.bytes))=some (some (.agg #[.int .i64 0,.int .i64 0,.string {data:=#[]},.string {data:=#[]},.int .i64 0,.int .i64 0]),6,64):=by kernel_rfl
theorem zp4 (x:Ex) (w:World):
  Calls Tryz.prog 88 #[.agg #[.int .i64 x.kind,.int .i64 x.num,.string x.name,.string x.field,.int .i64 x.l,.int .i64 x.r]] w fun e w'=>e= .returned (.agg #[.int .i64 x.kind,.int .i64 x.num,.string x.name,.string x.field,.int .i64 x.l,.int .i64 x.r])∧Below w.heap.size w w':=by
 go_enter Tryz.func88,Tryz.ntmps88
 go_wp2
 refine bodyPost_ret (results_cell_row rfl _ _ (w.heap.size+1) 109 #[.int .i64 x.kind,.int .i64 x.num,.string x.name,.string x.field,.int .i64 x.l,.int .i64 x.r] (0,0) _ rfl ?_ Tryz.underlying109 rfl (by kernel_rfl)) rfl ?_
 ·rw[heap_alloc_old _ _ (by show _<((w.heap.push _).push _).size;simp)]
  exact heap_alloc2_new w _ _
 ·exact⟨rfl,(((Below.refl _ _).alloc (Nat.le_refl _) _).alloc (by show _≤(w.heap.push _).size;simp) _).alloc (by show _≤((w.heap.push _).push _).size;simp;omega) _⟩
theorem zp5 (a:Option Addr) (ac:Nat) (l:List Ex) (w:World) (hr:RowAt w a exL 6 l) (hl:l.length≤1048576):
  Calls Tryz.prog 39 #[.slice a l.length ac] w fun e w'=>zfv w 109 6 l.length (l.flatMap exL) e w':=by
 have HR:=zc hr
 clear hr
 obtain⟨i0,hi,ab,ad,ae⟩:=info_parts Tryz.infoTEx
 go_enter Tryz.func39,Tryz.ntmps39
 go_wp2_with (first|(at_make;refine wpList_make_full w rfl _ _ 34 rfl w.heap.size 109 i0 _ 6 Tryz.underlying34 hi ab ad .i64 .i64 _ _ l.length (by rfl) (by rfl) rfl rfl (by rw[ae];omega) (by unfold maxLen;omega) (Nat.le_refl _) ?_))
 intro Z H I
 have ag:=zc ((Below.refl _ _).grown I (Nat.le_refl _) (fun k h=>by cases h):Below w.heap.size w Z)
 have J:Hid (OwnC Z w.heap.size 109 6 w.heap.size l.length (l.flatMap exL) 0):=⟨_,H,fun j hj=>absurd hj (Nat.not_lt_zero j)⟩
 clear H I
 obtain⟨g,U⟩: ∃g,g=w.heap.size:=⟨_,rfl⟩
 have af:=zc U
 rw[←U]
 rw[←U] at J
 have ah:Hid (OwnC Z w.heap.size 109 6 g l.length (l.flatMap exL) 0):=by rw[←U];exact J.out
 clear U J
 go_wp2
 go_loopg [4] l.length (fun k i wr=>∃j:Nat,i= .int .i64 j∧j+k=l.length∧OwnC wr w.heap.size 109 6 g l.length (l.flatMap exL) (j*6)∧Below w.heap.size w wr)
 case atStart=>exact⟨0,rfl,by omega,ah.out,ag.out⟩
 case round=>
  obtain⟨j,rfl,hj,ho,hb⟩:=hrel
  have HO:=zc ho
  have Y:=zc hb
  clear ho hb
  by_cases aa:j<l.length
  ·have V:(j:Int)<(l.length:Int):=by omega
   obtain⟨x,hx⟩: ∃x,l[j]? =some x:=⟨_,List.getElem?_eq_getElem aa⟩
   obtain⟨b,aj,rfl,M⟩:=(HR.out.later Y.out).get hx
   have N:=zc hx
   clear hx
   have c0:=M 0 _ rfl
   have c1:=M 1 _ rfl
   have c2:=M 2 _ rfl
   have c3:=M 3 _ rfl
   have c4:=M 4 _ rfl
   have c5:=M 5 _ rfl
   simp only[Nat.add_zero] at c0
   clear M
   obtain⟨X,O⟩: ∃X,X=j+1:=⟨_,rfl⟩
   have ej:(j:Int)+1=(X:Int):=by omega
   have HJ:=zc O
   clear O
   go_wp2_with fail
   refine (zp4 x _).mono ?_
   rintro e w2 ⟨rfl,L⟩
   have z:=zc (HO.out.later L)
   have ai:=zc (Y.out.trans (L.mono Y.out.size))
   clear L c0 c1 c2 c3 c4 c5
   obtain⟨v0,g0⟩:=z.out.has (j*6) (by omega)
   have f0:=z.out.free (j*6)
   obtain⟨v1,g1⟩:=z.out.has (j*6+1) (by omega)
   have f1:=z.out.free (j*6+1)
   obtain⟨v2,g2⟩:=z.out.has (j*6+2) (by omega)
   have f2:=z.out.free (j*6+2)
   obtain⟨v3,g3⟩:=z.out.has (j*6+3) (by omega)
   have f3:=z.out.free (j*6+3)
   obtain⟨v4,g4⟩:=z.out.has (j*6+4) (by omega)
   have f4:=z.out.free (j*6+4)
   obtain⟨v5,g5⟩:=z.out.has (j*6+5) (by omega)
   have f5:=z.out.free (j*6+5)
   have HN:=zc ((((((z.out.put (by omega) (zbP (f:=exL) (m:=6) (fun _=>rfl) l j x 0 _ N.out rfl)).put (by omega) (zbP (f:=exL) (m:=6) (fun _=>rfl) l j x 1 _ N.out rfl)).put (by omega) (zbP (f:=exL) (m:=6) (fun _=>rfl) l j x 2 _ N.out rfl)).put (by omega) (zbP (f:=exL) (m:=6) (fun _=>rfl) l j x 3 _ N.out rfl)).put (by omega) (zbP (f:=exL) (m:=6) (fun _=>rfl) l j x 4 _ N.out rfl)).put (by omega) (zbP (f:=exL) (m:=6) (fun _=>rfl) l j x 5 _ N.out rfl))
   have A:w.heap.size≤g:=by have:=af.out;omega
   go_wp2
   go_roundg (gk-1)
   case rel=>exact⟨X,rfl,by have:=HJ.out;omega,by rw[HJ.out,Nat.succ_mul];exact HN.out,((((((ai.out.setCell A _).setCell A _).setCell A _).setCell A _).setCell A _).setCell A _)⟩
   case measure=>omega
  ·have V: ¬(j:Int)<(l.length:Int):=by omega
   obtain rfl:j=l.length:=by omega
   go_wp2
   go_ret
   exact⟨g,rfl,HO.out.all (zfu (f:=exL) (fun _=>rfl) l),Y.out⟩
theorem zp6 (l:List ByteArray):l.map Value.string=l.flatMap (fun x=>[Value.string x]):=by
 induction l with
 |nil=>rfl
 |cons x l h=>rw[List.map_cons,List.flatMap_cons,h];rfl
def zp7 (w:World) (m:Md) (e:Ending) (w':World):Prop:=∃S,e= .returned (zh S m)∧OwnMd w' w.heap.size S m∧Below w.heap.size w w'
theorem zbv {w:World} {j size n c i:Nat} {e:TypeId} {r:Rw} {xs:List Value} {u:Value} {J:Array Value} (h:OwnR w j e size r n xs) (L:w.heap[c]? =some (.cells J 36 (0,0))) (I:e≠36):OwnR (w.setCell ⟨c,i,none⟩ u) j e size r n xs:=
 h.keep fun k g=>heap_setCell_other w ⟨c,i,none⟩ k u fun A=>by
  obtain⟨_,_,H,z⟩:=h.typed g
  simp only at A
  rw[A,L] at z
  simp only[Option.some.injEq,Obj.cells.injEq] at z
  exact I z.2.1.symm
abbrev zp8 (w:World) (b:Nat) (x0 x1 x2 x3 x4:Value):World:=((((w.setCell ⟨b,0,none⟩ x0).setCell ⟨b,1,none⟩ x1).setCell ⟨b,2,none⟩ x2).setCell ⟨b,3,none⟩ x3).setCell ⟨b,4,none⟩ x4
theorem zfx {w:World} {j size n c:Nat} {e:TypeId} {r:Rw} {xs:List Value} {v0 v1 v2 v3 v4 x0 x1 x2 x3 x4:Value} (h:OwnR w j e size r n xs) (J:w.heap[c]? =some (.cells #[v0,v1,v2,v3,v4] 36 (0,0))) (z:e≠36):OwnR (zp8 w c x0 x1 x2 x3 x4) j e size r n xs:=by
 have I:=zam (i:=0) (u:=x0) J
 have H:=zam (i:=1) (u:=x1) I
 have A:=zam (i:=2) (u:=x2) H
 have L:=zam (i:=3) (u:=x3) A
 exact zbv (zbv (zbv (zbv (zbv h J z) I z) H z) A z) L z
theorem zgs (A:MA) (m:Md) (w:World) (hr:ModIn w A m) (f1:m.rq.length≤1048576) (f2:m.im.length≤1048576) (f3:m.ep.length≤1048576) (f4:m.st.length≤1048576) (f5:m.ex.length≤1048576):
  Calls Tryz.prog 8 #[zaW A m] w fun e w'=>zp7 w m e w':=by
 have HR:=zc hr
 clear hr
 unfold zaW
 go_enter Tryz.func8,Tryz.ntmps8
 go_upto_region 2 with fail
 obtain⟨z,ac⟩: ∃z,z=w.heap.size:=⟨_,rfl⟩
 rw[←ac]
 refine zV (R:=(fun W=>W.heap[z]? =some (.cells #[.slice A.a0 m.rq.length A.c0,.slice A.a1 m.im.length A.c1,.slice A.a2 m.ep.length A.c2,.slice A.a3 m.st.length A.c3,.slice A.a4 m.ex.length A.c4] 28 (0,0))∧W.heap[z+1]? =some (.cells #[.slice none 0 0,.slice none 0 0,.slice none 0 0,.slice none 0 0,.slice none 0 0] 36 (0,0))∧W.heap[z+2]? =some (.cells #[.slice none 0 0,.slice none 0 0,.slice none 0 0,.slice none 0 0,.slice none 0 0] 36 (0,0))∧Below w.heap.size w W)) ?_ ?_
 ·rw[ac]
  refine⟨?_,?_,?_,?_⟩
  ·rw[heap_alloc_old _ _ (by show _<((w.heap.push _).push _).size;simp;omega),heap_alloc_old _ _ (by show _<(w.heap.push _).size;simp)]
   exact heap_alloc_new w _
  ·rw[heap_alloc_old _ _ (by show _<((w.heap.push _).push _).size;simp)]
   exact heap_alloc2_new w _ _
  ·have:=heap_alloc_new ((w.alloc (.cells #[.slice A.a0 m.rq.length A.c0,.slice A.a1 m.im.length A.c1,.slice A.a2 m.ep.length A.c2,.slice A.a3 m.st.length A.c3,.slice A.a4 m.ex.length A.c4] 28)).alloc (.cells #[.slice none 0 0,.slice none 0 0,.slice none 0 0,.slice none 0 0,.slice none 0 0] 36)) (.cells #[.slice none 0 0,.slice none 0 0,.slice none 0 0,.slice none 0 0,.slice none 0 0] 36)
   simp only[zn] at this
   exact this
  ·exact (((Below.refl _ _).alloc (Nat.le_refl _) _).alloc (by show _≤(w.heap.push _).size;simp) _).alloc (by show _≤((w.heap.push _).push _).size;simp;omega) _
 have ab:w.heap.size≤z+2:=by omega
 have aa:w.heap.size≤z+1:=by omega
 clear ac
 rintro W0 ⟨hx,hy,hz,h⟩
 have X:=zc hx
 have Y:=zc hy
 have Z:=zc hz
 have I:=zc h
 clear hx hy hz h
 obtain⟨V,L,M,O,U,N⟩:=zg X.out
 go_wp2_with fail
 refine (zpx A.a0 A.c0 m.rq W0 (HR.out.later I.out).1 f1).mono ?_
 rintro e V0 ⟨g0,rfl,j,h⟩
 have X2:=zc ((h.block _ (Array.getElem?_eq_some_iff.1 X.out).1).trans X.out)
 have Y2:=zc ((h.block _ (Array.getElem?_eq_some_iff.1 Y.out).1).trans Y.out)
 have H:=zc ((h.block _ (Array.getElem?_eq_some_iff.1 Z.out).1).trans Z.out)
 have J:=zc (I.out.trans (h.mono I.out.size))
 have P0:=zc (j.low I.out.size)
 clear j h V L M O U N X Y Z I
 obtain⟨V,L,M,O,U,N⟩:=zg H.out
 go_upto_region 3 with fail
 refine zV (R:=(fun W=>W.heap[z]? =some (.cells #[.slice A.a0 m.rq.length A.c0,.slice A.a1 m.im.length A.c1,.slice A.a2 m.ep.length A.c2,.slice A.a3 m.st.length A.c3,.slice A.a4 m.ex.length A.c4] 28 (0,0))∧W.heap[z+1]? =some (.cells #[.slice none 0 0,.slice none 0 0,.slice none 0 0,.slice none 0 0,.slice none 0 0] 36 (0,0))∧W.heap[z+2]? =some (.cells #[.slice (some ⟨g0,0,none⟩) m.rq.length m.rq.length,.slice none 0 0,.slice none 0 0,.slice none 0 0,.slice none 0 0] 36 (0,0))∧Below w.heap.size w W∧OwnR W w.heap.size 9 1 ⟨some ⟨g0,0,none⟩,m.rq.length⟩ m.rq.length (m.rq.flatMap (fun x=>[Value.string x])))) ⟨(heap_setCell_other _ _ _ _ (by show z≠z+2;omega)).trans X2.out,(heap_setCell_other _ _ _ _ (by show z+1≠z+2;omega)).trans Y2.out,(zam H.out).trans (by simp),J.out.setCell ab _,zbv P0.out H.out (by decide)⟩ ?_
 clear X2 Y2 H J V L M O U N P0
 rintro W1 ⟨hx,hy,hz,h,o0⟩
 have X:=zc hx
 have Y:=zc hy
 have Z:=zc hz
 have I:=zc h
 have O0:=zc o0
 clear hx hy hz h o0
 obtain⟨V,L,M,O,U,N⟩:=zg X.out
 go_wp2_with fail
 refine (zpz A.a1 A.c1 m.im W1 (HR.out.later I.out).2.1 f2).mono ?_
 rintro e V1 ⟨g1,rfl,j,h⟩
 have X2:=zc ((h.block _ (Array.getElem?_eq_some_iff.1 X.out).1).trans X.out)
 have Y2:=zc ((h.block _ (Array.getElem?_eq_some_iff.1 Y.out).1).trans Y.out)
 have H:=zc ((h.block _ (Array.getElem?_eq_some_iff.1 Z.out).1).trans Z.out)
 have J:=zc (I.out.trans (h.mono I.out.size))
 have P0:=zc (O0.out.keep fun k g=>h.block k (O0.out.typed g).2.1)
 have P1:=zc (j.low I.out.size)
 clear j h V L M O U N X Y Z I O0
 obtain⟨V,L,M,O,U,N⟩:=zg H.out
 go_upto_region 4 with fail
 refine zV (R:=(fun W=>W.heap[z]? =some (.cells #[.slice A.a0 m.rq.length A.c0,.slice A.a1 m.im.length A.c1,.slice A.a2 m.ep.length A.c2,.slice A.a3 m.st.length A.c3,.slice A.a4 m.ex.length A.c4] 28 (0,0))∧W.heap[z+1]? =some (.cells #[.slice none 0 0,.slice none 0 0,.slice none 0 0,.slice none 0 0,.slice none 0 0] 36 (0,0))∧W.heap[z+2]? =some (.cells #[.slice (some ⟨g0,0,none⟩) m.rq.length m.rq.length,.slice (some ⟨g1,0,none⟩) m.im.length m.im.length,.slice none 0 0,.slice none 0 0,.slice none 0 0] 36 (0,0))∧Below w.heap.size w W∧OwnR W w.heap.size 9 1 ⟨some ⟨g0,0,none⟩,m.rq.length⟩ m.rq.length (m.rq.flatMap (fun x=>[Value.string x]))∧OwnR W w.heap.size 84 3 ⟨some ⟨g1,0,none⟩,m.im.length⟩ m.im.length (m.im.flatMap imL))) ⟨(heap_setCell_other _ _ _ _ (by show z≠z+2;omega)).trans X2.out,(heap_setCell_other _ _ _ _ (by show z+1≠z+2;omega)).trans Y2.out,(zam H.out).trans (by simp),J.out.setCell ab _,zbv P0.out H.out (by decide),zbv P1.out H.out (by decide)⟩ ?_
 clear X2 Y2 H J V L M O U N P0 P1
 rintro W2 ⟨hx,hy,hz,h,o0,o1⟩
 have X:=zc hx
 have Y:=zc hy
 have Z:=zc hz
 have I:=zc h
 have O0:=zc o0
 have O1:=zc o1
 clear hx hy hz h o0 o1
 obtain⟨V,L,M,O,U,N⟩:=zg X.out
 go_wp2_with fail
 refine (zp1 A.a2 A.c2 m.ep W2 (HR.out.later I.out).2.2.1 f3).mono ?_
 rintro e V2 ⟨g2,rfl,j,h⟩
 have X2:=zc ((h.block _ (Array.getElem?_eq_some_iff.1 X.out).1).trans X.out)
 have Y2:=zc ((h.block _ (Array.getElem?_eq_some_iff.1 Y.out).1).trans Y.out)
 have H:=zc ((h.block _ (Array.getElem?_eq_some_iff.1 Z.out).1).trans Z.out)
 have J:=zc (I.out.trans (h.mono I.out.size))
 have P0:=zc (O0.out.keep fun k g=>h.block k (O0.out.typed g).2.1)
 have P1:=zc (O1.out.keep fun k g=>h.block k (O1.out.typed g).2.1)
 have P2:=zc (j.low I.out.size)
 clear j h V L M O U N X Y Z I O0 O1
 obtain⟨V,L,M,O,U,N⟩:=zg H.out
 go_upto_region 5 with fail
 refine zV (R:=(fun W=>W.heap[z]? =some (.cells #[.slice A.a0 m.rq.length A.c0,.slice A.a1 m.im.length A.c1,.slice A.a2 m.ep.length A.c2,.slice A.a3 m.st.length A.c3,.slice A.a4 m.ex.length A.c4] 28 (0,0))∧W.heap[z+1]? =some (.cells #[.slice none 0 0,.slice none 0 0,.slice none 0 0,.slice none 0 0,.slice none 0 0] 36 (0,0))∧W.heap[z+2]? =some (.cells #[.slice (some ⟨g0,0,none⟩) m.rq.length m.rq.length,.slice (some ⟨g1,0,none⟩) m.im.length m.im.length,.slice (some ⟨g2,0,none⟩) m.ep.length m.ep.length,.slice none 0 0,.slice none 0 0] 36 (0,0))∧Below w.heap.size w W∧OwnR W w.heap.size 9 1 ⟨some ⟨g0,0,none⟩,m.rq.length⟩ m.rq.length (m.rq.flatMap (fun x=>[Value.string x]))∧OwnR W w.heap.size 84 3 ⟨some ⟨g1,0,none⟩,m.im.length⟩ m.im.length (m.im.flatMap imL)∧OwnR W w.heap.size 86 4 ⟨some ⟨g2,0,none⟩,m.ep.length⟩ m.ep.length (m.ep.flatMap epL))) ⟨(heap_setCell_other _ _ _ _ (by show z≠z+2;omega)).trans X2.out,(heap_setCell_other _ _ _ _ (by show z+1≠z+2;omega)).trans Y2.out,(zam H.out).trans (by simp),J.out.setCell ab _,zbv P0.out H.out (by decide),zbv P1.out H.out (by decide),zbv P2.out H.out (by decide)⟩ ?_
 clear X2 Y2 H J V L M O U N P0 P1 P2
 rintro W3 ⟨hx,hy,hz,h,o0,o1,o2⟩
 have X:=zc hx
 have Y:=zc hy
 have Z:=zc hz
 have I:=zc h
 have O0:=zc o0
 have O1:=zc o1
 have O2:=zc o2
 clear hx hy hz h o0 o1 o2
 obtain⟨V,L,M,O,U,N⟩:=zg X.out
 go_wp2_with fail
 refine (zp3 A.a3 A.c3 m.st W3 (HR.out.later I.out).2.2.2.1 f4).mono ?_
 rintro e V3 ⟨g3,rfl,j,h⟩
 have X2:=zc ((h.block _ (Array.getElem?_eq_some_iff.1 X.out).1).trans X.out)
 have Y2:=zc ((h.block _ (Array.getElem?_eq_some_iff.1 Y.out).1).trans Y.out)
 have H:=zc ((h.block _ (Array.getElem?_eq_some_iff.1 Z.out).1).trans Z.out)
 have J:=zc (I.out.trans (h.mono I.out.size))
 have P0:=zc (O0.out.keep fun k g=>h.block k (O0.out.typed g).2.1)
 have P1:=zc (O1.out.keep fun k g=>h.block k (O1.out.typed g).2.1)
 have P2:=zc (O2.out.keep fun k g=>h.block k (O2.out.typed g).2.1)
 have P3:=zc (j.low I.out.size)
 clear j h V L M O U N X Y Z I O0 O1 O2
 obtain⟨V,L,M,O,U,N⟩:=zg H.out
 go_upto_region 6 with fail
 refine zV (R:=(fun W=>W.heap[z]? =some (.cells #[.slice A.a0 m.rq.length A.c0,.slice A.a1 m.im.length A.c1,.slice A.a2 m.ep.length A.c2,.slice A.a3 m.st.length A.c3,.slice A.a4 m.ex.length A.c4] 28 (0,0))∧W.heap[z+1]? =some (.cells #[.slice none 0 0,.slice none 0 0,.slice none 0 0,.slice none 0 0,.slice none 0 0] 36 (0,0))∧W.heap[z+2]? =some (.cells #[.slice (some ⟨g0,0,none⟩) m.rq.length m.rq.length,.slice (some ⟨g1,0,none⟩) m.im.length m.im.length,.slice (some ⟨g2,0,none⟩) m.ep.length m.ep.length,.slice (some ⟨g3,0,none⟩) m.st.length m.st.length,.slice none 0 0] 36 (0,0))∧Below w.heap.size w W∧OwnR W w.heap.size 9 1 ⟨some ⟨g0,0,none⟩,m.rq.length⟩ m.rq.length (m.rq.flatMap (fun x=>[Value.string x]))∧OwnR W w.heap.size 84 3 ⟨some ⟨g1,0,none⟩,m.im.length⟩ m.im.length (m.im.flatMap imL)∧OwnR W w.heap.size 86 4 ⟨some ⟨g2,0,none⟩,m.ep.length⟩ m.ep.length (m.ep.flatMap epL)∧OwnR W w.heap.size 107 3 ⟨some ⟨g3,0,none⟩,m.st.length⟩ m.st.length (m.st.flatMap smL))) ⟨(heap_setCell_other _ _ _ _ (by show z≠z+2;omega)).trans X2.out,(heap_setCell_other _ _ _ _ (by show z+1≠z+2;omega)).trans Y2.out,(zam H.out).trans (by simp),J.out.setCell ab _,zbv P0.out H.out (by decide),zbv P1.out H.out (by decide),zbv P2.out H.out (by decide),zbv P3.out H.out (by decide)⟩ ?_
 clear X2 Y2 H J V L M O U N P0 P1 P2 P3
 rintro W4 ⟨hx,hy,hz,h,o0,o1,o2,o3⟩
 have X:=zc hx
 have Y:=zc hy
 have Z:=zc hz
 have I:=zc h
 have O0:=zc o0
 have O1:=zc o1
 have O2:=zc o2
 have O3:=zc o3
 clear hx hy hz h o0 o1 o2 o3
 obtain⟨V,L,M,O,U,N⟩:=zg X.out
 go_wp2_with fail
 refine (zp5 A.a4 A.c4 m.ex W4 (HR.out.later I.out).2.2.2.2 f5).mono ?_
 rintro e V4 ⟨g4,rfl,j,h⟩
 have X2:=zc ((h.block _ (Array.getElem?_eq_some_iff.1 X.out).1).trans X.out)
 have Y2:=zc ((h.block _ (Array.getElem?_eq_some_iff.1 Y.out).1).trans Y.out)
 have H:=zc ((h.block _ (Array.getElem?_eq_some_iff.1 Z.out).1).trans Z.out)
 have J:=zc (I.out.trans (h.mono I.out.size))
 have P0:=zc (O0.out.keep fun k g=>h.block k (O0.out.typed g).2.1)
 have P1:=zc (O1.out.keep fun k g=>h.block k (O1.out.typed g).2.1)
 have P2:=zc (O2.out.keep fun k g=>h.block k (O2.out.typed g).2.1)
 have P3:=zc (O3.out.keep fun k g=>h.block k (O3.out.typed g).2.1)
 have P4:=zc (j.low I.out.size)
 clear j h V L M O U N X Y Z I O0 O1 O2 O3
 obtain⟨V,L,M,O,U,N⟩:=zg H.out
 go_upto_region 7 with fail
 refine zV (R:=(fun W=>W.heap[z]? =some (.cells #[.slice A.a0 m.rq.length A.c0,.slice A.a1 m.im.length A.c1,.slice A.a2 m.ep.length A.c2,.slice A.a3 m.st.length A.c3,.slice A.a4 m.ex.length A.c4] 28 (0,0))∧W.heap[z+1]? =some (.cells #[.slice none 0 0,.slice none 0 0,.slice none 0 0,.slice none 0 0,.slice none 0 0] 36 (0,0))∧W.heap[z+2]? =some (.cells #[.slice (some ⟨g0,0,none⟩) m.rq.length m.rq.length,.slice (some ⟨g1,0,none⟩) m.im.length m.im.length,.slice (some ⟨g2,0,none⟩) m.ep.length m.ep.length,.slice (some ⟨g3,0,none⟩) m.st.length m.st.length,.slice (some ⟨g4,0,none⟩) m.ex.length m.ex.length] 36 (0,0))∧Below w.heap.size w W∧OwnR W w.heap.size 9 1 ⟨some ⟨g0,0,none⟩,m.rq.length⟩ m.rq.length (m.rq.flatMap (fun x=>[Value.string x]))∧OwnR W w.heap.size 84 3 ⟨some ⟨g1,0,none⟩,m.im.length⟩ m.im.length (m.im.flatMap imL)∧OwnR W w.heap.size 86 4 ⟨some ⟨g2,0,none⟩,m.ep.length⟩ m.ep.length (m.ep.flatMap epL)∧OwnR W w.heap.size 107 3 ⟨some ⟨g3,0,none⟩,m.st.length⟩ m.st.length (m.st.flatMap smL)∧OwnR W w.heap.size 109 6 ⟨some ⟨g4,0,none⟩,m.ex.length⟩ m.ex.length (m.ex.flatMap exL))) ⟨(heap_setCell_other _ _ _ _ (by show z≠z+2;omega)).trans X2.out,(heap_setCell_other _ _ _ _ (by show z+1≠z+2;omega)).trans Y2.out,(zam H.out).trans (by simp),J.out.setCell ab _,zbv P0.out H.out (by decide),zbv P1.out H.out (by decide),zbv P2.out H.out (by decide),zbv P3.out H.out (by decide),zbv P4.out H.out (by decide)⟩ ?_
 clear X2 Y2 H J V L M O U N P0 P1 P2 P3 P4
 rintro W5 ⟨hx,hy,hz,h,o0,o1,o2,o3,o4⟩
 have Y:=zc hy
 have Z:=zc hz
 have I:=zc h
 have O0:=zc o0
 have O1:=zc o1
 have O2:=zc o2
 have O3:=zc o3
 have O4:=zc o4
 clear hx hy hz h o0 o1 o2 o3 o4
 obtain⟨V,L,M,O,U,N⟩:=zg Z.out
 obtain⟨d0,d1,d2,d3,d4,df⟩:=zg Y.out
 go_wp2
 refine bodyPost_ret (results_cell_row rfl _ _ (z+1) 36 #[.slice (some ⟨g0,0,none⟩) m.rq.length m.rq.length,.slice (some ⟨g1,0,none⟩) m.im.length m.im.length,.slice (some ⟨g2,0,none⟩) m.ep.length m.ep.length,.slice (some ⟨g3,0,none⟩) m.st.length m.st.length,.slice (some ⟨g4,0,none⟩) m.ex.length m.ex.length] (0,0) _ rfl ?_ Tryz.underlying36 rfl (by kernel_rfl)) rfl ?_
 ·exact zbH Y.out
 ·refine⟨⟨⟨some ⟨g0,0,none⟩,m.rq.length⟩,⟨some ⟨g1,0,none⟩,m.im.length⟩,⟨some ⟨g2,0,none⟩,m.ep.length⟩,⟨some ⟨g3,0,none⟩,m.st.length⟩,⟨some ⟨g4,0,none⟩,m.ex.length⟩,⟨none,0⟩⟩,rfl,⟨?_,?_,?_,?_,?_⟩,((((I.out.setCell aa _).setCell aa _).setCell aa _).setCell aa _).setCell aa _⟩
  ·rw[zp6]
   exact zfx O0.out Y.out (by decide)
  ·exact zfx O1.out Y.out (by decide)
  ·exact zfx O2.out Y.out (by decide)
  ·exact zfx O3.out Y.out (by decide)
  ·exact zfx O4.out Y.out (by decide)
theorem zp9 (j z:Option Addr) (A h:Nat) (w:World):Calls Tryz.prog 41 #[.slice j 0 A,.slice z 0 h] w fun e w'=>e= .returned (.bool true)∧Below w.heap.size w w':=by
 go_enter Tryz.func41,Tryz.ntmps41
 go_wp2
 go_loopg [5] 1 (fun k i wr=>k=1∧i= .int .i64 0∧wr=w)
 case atStart=>exact⟨rfl,rfl,rfl⟩
 case round=>
  obtain⟨rfl,rfl,rfl⟩:=hrel
  go_wp2
  go_ret
  exact⟨rfl,Below.refl _ _⟩
theorem zpA (b1 b2 Y V:Nat) (O r2:Rw) (l:List ByteArray) (w:World) (I:OwnR w b1 9 1 O l.length (l.flatMap (fun x=>[Value.string x]))) (z:OwnR w b2 9 1 r2 l.length (l.flatMap (fun x=>[Value.string x]))) (e1:O.a=some ⟨Y,0,none⟩) (e2:r2.a=some ⟨V,0,none⟩) (hl:l.length≤4294967296):
  Calls Tryz.prog 41 #[.slice (some ⟨Y,0,none⟩) l.length O.cap,.slice (some ⟨V,0,none⟩) l.length r2.cap] w fun e w'=>e= .returned (.bool true)∧Below w.heap.size w w':=by
 have H1:=zc I
 have H2:=zc z
 have E1:=zc e1
 have E2:=zc e2
 clear I z e1 e2
 go_enter Tryz.func41,Tryz.ntmps41
 go_wp2
 go_loopg [5] l.length (fun k i wr=>∃j:Nat,i= .int .i64 j∧j+k=l.length∧Below w.heap.size w wr)
 case atStart=>exact⟨0,rfl,by omega,Below.refl _ _⟩
 case round=>
  obtain⟨j,rfl,hj,hb⟩:=hrel
  have H:=zc hb
  clear hb
  by_cases N:j<l.length
  ·have J:(j:Int)<(l.length:Int):=by omega
   obtain⟨x,hx⟩:=zfq N
   obtain⟨X,ga,I⟩:=OwnR.elem (f:=(fun x=>[Value.string x])) (m:=1) (fun _=>rfl) (H1.out.keep fun k g=>H.out.block k (H1.out.typed g).2.1) hx
   obtain rfl:X=Y:=by have:=ga.symm.trans E1.out;simpa using this
   obtain⟨X,gb,z⟩:=OwnR.elem (f:=(fun x=>[Value.string x])) (m:=1) (fun _=>rfl) (H2.out.keep fun k g=>H.out.block k (H2.out.typed g).2.1) hx
   obtain rfl:X=V:=by have:=gb.symm.trans E2.out;simpa using this
   have C0:=zc (I 0 (by omega))
   have D0:=zc (z 0 (by omega))
   clear I z ga gb hx
   obtain⟨L,A⟩: ∃L,L=j+1:=⟨_,rfl⟩
   have ej:(j:Int)+1=(L:Int):=by omega
   have HJ:=zc A
   clear A
   go_wp2
   have k0:=cell_regrown C0.out
   have l0:=cell_regrown D0.out
   simp only[Nat.add_zero,Nat.mul_one] at k0 l0
   refine wp_region_quiet_below (by kernel_rfl) (by kernel_rfl) ?_
   repeat (go_big_quiet_step (fail))
   refine wpQuiet_nil ?_
   intro w2 M
   obtain⟨⟨dq,U⟩,h⟩:=M
   have Z:Hid (Below w.heap.size w w2):=by show Below _ _ _;rw[h];exact H.out.trans ((below_regrown wr dq U).mono H.out.size)
   clear h k0 l0 C0 D0
   go_wp2
   go_roundg (gk-1)
   case rel=>exact⟨L,rfl,by have:=HJ.out;omega,Z.out⟩
   case measure=>omega
  ·have J: ¬(j:Int)<(l.length:Int):=by omega
   go_wp2
   go_ret
   exact⟨rfl,H.out⟩
theorem zpB (A b2:Nat) (j h:Rw) (l:List ByteArray) (w:World) (J:OwnR w A 9 1 j l.length (l.flatMap (fun x=>[Value.string x]))) (I:OwnR w b2 9 1 h l.length (l.flatMap (fun x=>[Value.string x]))) (O:l.length≤4294967296):
  Calls Tryz.prog 41 #[.slice j.a l.length j.cap,.slice h.a l.length h.cap] w fun e w'=>e= .returned (.bool true)∧Below w.heap.size w w':=by
 by_cases z:l.length=0
 ·rw[z]
  exact zp9 _ _ _ _ w
 ·rcases J.nil_or with ⟨_,_,e⟩|⟨N,H⟩
  ·exact absurd e z
  ·rcases I.nil_or with ⟨_,_,e⟩|⟨M,L⟩
   ·exact absurd e z
   ·rw[H,L]
    exact zpA A b2 N M j h l w J I H L O
theorem zpC (x:Im) (w:World):Calls Tryz.prog 92 #[.agg #[.string x.spec,.string x.first,.string x.loc],.agg #[.string x.spec,.string x.first,.string x.loc]] w fun e w'=>e= .returned (.bool true)∧Below w.heap.size w w':=by
 go_enter Tryz.func92,Tryz.ntmps92
 go_wp2
 go_ret
 exact⟨rfl,((Below.refl _ _).alloc (Nat.le_refl _) _).alloc (by show _≤(w.heap.push _).size;simp) _⟩
theorem zpD (j z:Option Addr) (A h:Nat) (w:World):Calls Tryz.prog 42 #[.slice j 0 A,.slice z 0 h] w fun e w'=>e= .returned (.bool true)∧Below w.heap.size w w':=by
 go_enter Tryz.func42,Tryz.ntmps42
 go_wp2
 go_loopg [5] 1 (fun k i wr=>k=1∧i= .int .i64 0∧wr=w)
 case atStart=>exact⟨rfl,rfl,rfl⟩
 case round=>
  obtain⟨rfl,rfl,rfl⟩:=hrel
  go_wp2
  go_ret
  exact⟨rfl,Below.refl _ _⟩
theorem zpE (b1 b2 Y V:Nat) (O r2:Rw) (l:List Im) (w:World) (A:OwnR w b1 84 3 O l.length (l.flatMap imL)) (z:OwnR w b2 84 3 r2 l.length (l.flatMap imL)) (e1:O.a=some ⟨Y,0,none⟩) (e2:r2.a=some ⟨V,0,none⟩) (hl:l.length≤4294967296):
  Calls Tryz.prog 42 #[.slice (some ⟨Y,0,none⟩) l.length O.cap,.slice (some ⟨V,0,none⟩) l.length r2.cap] w fun e w'=>e= .returned (.bool true)∧Below w.heap.size w w':=by
 have H1:=zc A
 have H2:=zc z
 have E1:=zc e1
 have E2:=zc e2
 clear A z e1 e2
 go_enter Tryz.func42,Tryz.ntmps42
 go_wp2
 go_loopg [5] l.length (fun k i wr=>∃j:Nat,i= .int .i64 j∧j+k=l.length∧Below w.heap.size w wr)
 case atStart=>exact⟨0,rfl,by omega,Below.refl _ _⟩
 case round=>
  obtain⟨j,rfl,hj,hb⟩:=hrel
  have I:=zc hb
  clear hb
  by_cases N:j<l.length
  ·have J:(j:Int)<(l.length:Int):=by omega
   obtain⟨x,hx⟩:=zfq N
   obtain⟨X,ga,A⟩:=OwnR.elem (f:=imL) (m:=3) (fun _=>rfl) (H1.out.keep fun k g=>I.out.block k (H1.out.typed g).2.1) hx
   obtain rfl:X=Y:=by have:=ga.symm.trans E1.out;simpa using this
   obtain⟨X,gb,z⟩:=OwnR.elem (f:=imL) (m:=3) (fun _=>rfl) (H2.out.keep fun k g=>I.out.block k (H2.out.typed g).2.1) hx
   obtain rfl:X=V:=by have:=gb.symm.trans E2.out;simpa using this
   have C0:=zc (A 0 (by omega))
   have D0:=zc (z 0 (by omega))
   have C1:=zc (A 1 (by omega))
   have D1:=zc (z 1 (by omega))
   have C2:=zc (A 2 (by omega))
   have D2:=zc (z 2 (by omega))
   clear A z ga gb hx
   have cQ: ∀d os,Calls Tryz.prog 92 #[.agg #[.string x.spec,.string x.first,.string x.loc],.agg #[.string x.spec,.string x.first,.string x.loc]] (grow (redrawn wr d) os) fun e aa=>e= .returned (.bool true)∧∃p:Regrown,aa=grow (redrawn wr p.d) p.os:=fun d os=>Calls.regrown_of (zpC x _)
   obtain⟨L,H⟩: ∃L,L=j+1:=⟨_,rfl⟩
   have ej:(j:Int)+1=(L:Int):=by omega
   have HJ:=zc H
   clear H
   go_wp2
   have k0:=cell_regrown C0.out
   have l0:=cell_regrown D0.out
   have k1:=cell_regrown C1.out
   have l1:=cell_regrown D1.out
   have k2:=cell_regrown C2.out
   have l2:=cell_regrown D2.out
   simp only[Nat.add_zero] at k0 l0
   refine wp_region_quiet_below (by kernel_rfl) (by kernel_rfl) ?_
   repeat (go_big_quiet_step (exact cQ _ _))
   refine wpQuiet_nil ?_
   intro w2 M
   obtain⟨⟨dq,U⟩,h⟩:=M
   have Z:Hid (Below w.heap.size w w2):=by show Below _ _ _;rw[h];exact I.out.trans ((below_regrown wr dq U).mono I.out.size)
   clear h k0 l0 C0 D0 k1 l1 C1 D1 k2 l2 C2 D2 cQ
   go_wp2
   go_roundg (gk-1)
   case rel=>exact⟨L,rfl,by have:=HJ.out;omega,Z.out⟩
   case measure=>omega
  ·have J: ¬(j:Int)<(l.length:Int):=by omega
   go_wp2
   go_ret
   exact⟨rfl,I.out⟩
theorem zpF (A b2:Nat) (j h:Rw) (l:List Im) (w:World) (J:OwnR w A 84 3 j l.length (l.flatMap imL)) (I:OwnR w b2 84 3 h l.length (l.flatMap imL)) (O:l.length≤4294967296):
  Calls Tryz.prog 42 #[.slice j.a l.length j.cap,.slice h.a l.length h.cap] w fun e w'=>e= .returned (.bool true)∧Below w.heap.size w w':=by
 by_cases z:l.length=0
 ·rw[z]
  exact zpD _ _ _ _ w
 ·rcases J.nil_or with ⟨_,_,e⟩|⟨N,H⟩
  ·exact absurd e z
  ·rcases I.nil_or with ⟨_,_,e⟩|⟨M,L⟩
   ·exact absurd e z
   ·rw[H,L]
    exact zpE A b2 N M j h l w J I H L O
theorem zpG (x:Ep) (w:World):Calls Tryz.prog 93 #[.agg #[.int .i64 x.kind,.string x.name,.string x.loc,.string x.spec],.agg #[.int .i64 x.kind,.string x.name,.string x.loc,.string x.spec]] w fun e w'=>e= .returned (.bool true)∧Below w.heap.size w w':=by
 go_enter Tryz.func93,Tryz.ntmps93
 go_wp2
 go_ret
 exact⟨rfl,((Below.refl _ _).alloc (Nat.le_refl _) _).alloc (by show _≤(w.heap.push _).size;simp) _⟩
theorem zpH (j z:Option Addr) (A h:Nat) (w:World):Calls Tryz.prog 43 #[.slice j 0 A,.slice z 0 h] w fun e w'=>e= .returned (.bool true)∧Below w.heap.size w w':=by
 go_enter Tryz.func43,Tryz.ntmps43
 go_wp2
 go_loopg [5] 1 (fun k i wr=>k=1∧i= .int .i64 0∧wr=w)
 case atStart=>exact⟨rfl,rfl,rfl⟩
 case round=>
  obtain⟨rfl,rfl,rfl⟩:=hrel
  go_wp2
  go_ret
  exact⟨rfl,Below.refl _ _⟩
theorem zpI (b1 b2 Y V:Nat) (O r2:Rw) (l:List Ep) (w:World) (z:OwnR w b1 86 4 O l.length (l.flatMap epL)) (h:OwnR w b2 86 4 r2 l.length (l.flatMap epL)) (e1:O.a=some ⟨Y,0,none⟩) (e2:r2.a=some ⟨V,0,none⟩) (hl:l.length≤4294967296):
  Calls Tryz.prog 43 #[.slice (some ⟨Y,0,none⟩) l.length O.cap,.slice (some ⟨V,0,none⟩) l.length r2.cap] w fun e w'=>e= .returned (.bool true)∧Below w.heap.size w w':=by
 have H1:=zc z
 have H2:=zc h
 have E1:=zc e1
 have E2:=zc e2
 clear z h e1 e2
 go_enter Tryz.func43,Tryz.ntmps43
 go_wp2
 go_loopg [5] l.length (fun k i wr=>∃j:Nat,i= .int .i64 j∧j+k=l.length∧Below w.heap.size w wr)
 case atStart=>exact⟨0,rfl,by omega,Below.refl _ _⟩
 case round=>
  obtain⟨j,rfl,hj,hb⟩:=hrel
  have I:=zc hb
  clear hb
  by_cases N:j<l.length
  ·have J:(j:Int)<(l.length:Int):=by omega
   obtain⟨x,hx⟩:=zfq N
   obtain⟨X,ga,z⟩:=OwnR.elem (f:=epL) (m:=4) (fun _=>rfl) (H1.out.keep fun k g=>I.out.block k (H1.out.typed g).2.1) hx
   obtain rfl:X=Y:=by have:=ga.symm.trans E1.out;simpa using this
   obtain⟨X,gb,h⟩:=OwnR.elem (f:=epL) (m:=4) (fun _=>rfl) (H2.out.keep fun k g=>I.out.block k (H2.out.typed g).2.1) hx
   obtain rfl:X=V:=by have:=gb.symm.trans E2.out;simpa using this
   have C0:=zc (z 0 (by omega))
   have D0:=zc (h 0 (by omega))
   have C1:=zc (z 1 (by omega))
   have D1:=zc (h 1 (by omega))
   have C2:=zc (z 2 (by omega))
   have D2:=zc (h 2 (by omega))
   have C3:=zc (z 3 (by omega))
   have D3:=zc (h 3 (by omega))
   clear z h ga gb hx
   have cQ: ∀d os,Calls Tryz.prog 93 #[.agg #[.int .i64 x.kind,.string x.name,.string x.loc,.string x.spec],.agg #[.int .i64 x.kind,.string x.name,.string x.loc,.string x.spec]] (grow (redrawn wr d) os) fun e aa=>e= .returned (.bool true)∧∃p:Regrown,aa=grow (redrawn wr p.d) p.os:=fun d os=>Calls.regrown_of (zpG x _)
   obtain⟨L,H⟩: ∃L,L=j+1:=⟨_,rfl⟩
   have ej:(j:Int)+1=(L:Int):=by omega
   have HJ:=zc H
   clear H
   go_wp2
   have k0:=cell_regrown C0.out
   have l0:=cell_regrown D0.out
   have k1:=cell_regrown C1.out
   have l1:=cell_regrown D1.out
   have k2:=cell_regrown C2.out
   have l2:=cell_regrown D2.out
   have k3:=cell_regrown C3.out
   have l3:=cell_regrown D3.out
   simp only[Nat.add_zero] at k0 l0
   refine wp_region_quiet_below (by kernel_rfl) (by kernel_rfl) ?_
   repeat (go_big_quiet_step (exact cQ _ _))
   refine wpQuiet_nil ?_
   intro w2 M
   obtain⟨⟨dq,U⟩,A⟩:=M
   have Z:Hid (Below w.heap.size w w2):=by show Below _ _ _;rw[A];exact I.out.trans ((below_regrown wr dq U).mono I.out.size)
   clear A k0 l0 C0 D0 k1 l1 C1 D1 k2 l2 C2 D2 k3 l3 C3 D3 cQ
   go_wp2
   go_roundg (gk-1)
   case rel=>exact⟨L,rfl,by have:=HJ.out;omega,Z.out⟩
   case measure=>omega
  ·have J: ¬(j:Int)<(l.length:Int):=by omega
   go_wp2
   go_ret
   exact⟨rfl,I.out⟩
theorem zpJ (A b2:Nat) (j h:Rw) (l:List Ep) (w:World) (J:OwnR w A 86 4 j l.length (l.flatMap epL)) (I:OwnR w b2 86 4 h l.length (l.flatMap epL)) (O:l.length≤4294967296):
  Calls Tryz.prog 43 #[.slice j.a l.length j.cap,.slice h.a l.length h.cap] w fun e w'=>e= .returned (.bool true)∧Below w.heap.size w w':=by
 by_cases z:l.length=0
 ·rw[z]
  exact zpH _ _ _ _ w
 ·rcases J.nil_or with ⟨_,_,e⟩|⟨N,H⟩
  ·exact absurd e z
  ·rcases I.nil_or with ⟨_,_,e⟩|⟨M,L⟩
   ·exact absurd e z
   ·rw[H,L]
    exact zpI A b2 N M j h l w J I H L O
theorem zpK (x:Sm) (w:World):Calls Tryz.prog 94 #[.agg #[.int .i64 x.kind,.string x.name,.int .i64 x.expr],.agg #[.int .i64 x.kind,.string x.name,.int .i64 x.expr]] w fun e w'=>e= .returned (.bool true)∧Below w.heap.size w w':=by
 go_enter Tryz.func94,Tryz.ntmps94
 go_wp2
 go_ret
 exact⟨rfl,((Below.refl _ _).alloc (Nat.le_refl _) _).alloc (by show _≤(w.heap.push _).size;simp) _⟩
theorem zpL (j z:Option Addr) (A h:Nat) (w:World):Calls Tryz.prog 44 #[.slice j 0 A,.slice z 0 h] w fun e w'=>e= .returned (.bool true)∧Below w.heap.size w w':=by
 go_enter Tryz.func44,Tryz.ntmps44
 go_wp2
 go_loopg [5] 1 (fun k i wr=>k=1∧i= .int .i64 0∧wr=w)
 case atStart=>exact⟨rfl,rfl,rfl⟩
 case round=>
  obtain⟨rfl,rfl,rfl⟩:=hrel
  go_wp2
  go_ret
  exact⟨rfl,Below.refl _ _⟩
theorem zpM (b1 b2 Y V:Nat) (O r2:Rw) (l:List Sm) (w:World) (A:OwnR w b1 107 3 O l.length (l.flatMap smL)) (z:OwnR w b2 107 3 r2 l.length (l.flatMap smL)) (e1:O.a=some ⟨Y,0,none⟩) (e2:r2.a=some ⟨V,0,none⟩) (hl:l.length≤4294967296):
  Calls Tryz.prog 44 #[.slice (some ⟨Y,0,none⟩) l.length O.cap,.slice (some ⟨V,0,none⟩) l.length r2.cap] w fun e w'=>e= .returned (.bool true)∧Below w.heap.size w w':=by
 have H1:=zc A
 have H2:=zc z
 have E1:=zc e1
 have E2:=zc e2
 clear A z e1 e2
 go_enter Tryz.func44,Tryz.ntmps44
 go_wp2
 go_loopg [5] l.length (fun k i wr=>∃j:Nat,i= .int .i64 j∧j+k=l.length∧Below w.heap.size w wr)
 case atStart=>exact⟨0,rfl,by omega,Below.refl _ _⟩
 case round=>
  obtain⟨j,rfl,hj,hb⟩:=hrel
  have I:=zc hb
  clear hb
  by_cases N:j<l.length
  ·have J:(j:Int)<(l.length:Int):=by omega
   obtain⟨x,hx⟩:=zfq N
   obtain⟨X,ga,A⟩:=OwnR.elem (f:=smL) (m:=3) (fun _=>rfl) (H1.out.keep fun k g=>I.out.block k (H1.out.typed g).2.1) hx
   obtain rfl:X=Y:=by have:=ga.symm.trans E1.out;simpa using this
   obtain⟨X,gb,z⟩:=OwnR.elem (f:=smL) (m:=3) (fun _=>rfl) (H2.out.keep fun k g=>I.out.block k (H2.out.typed g).2.1) hx
   obtain rfl:X=V:=by have:=gb.symm.trans E2.out;simpa using this
   have C0:=zc (A 0 (by omega))
   have D0:=zc (z 0 (by omega))
   have C1:=zc (A 1 (by omega))
   have D1:=zc (z 1 (by omega))
   have C2:=zc (A 2 (by omega))
   have D2:=zc (z 2 (by omega))
   clear A z ga gb hx
   have cQ: ∀d os,Calls Tryz.prog 94 #[.agg #[.int .i64 x.kind,.string x.name,.int .i64 x.expr],.agg #[.int .i64 x.kind,.string x.name,.int .i64 x.expr]] (grow (redrawn wr d) os) fun e aa=>e= .returned (.bool true)∧∃p:Regrown,aa=grow (redrawn wr p.d) p.os:=fun d os=>Calls.regrown_of (zpK x _)
   obtain⟨L,H⟩: ∃L,L=j+1:=⟨_,rfl⟩
   have ej:(j:Int)+1=(L:Int):=by omega
   have HJ:=zc H
   clear H
   go_wp2
   have k0:=cell_regrown C0.out
   have l0:=cell_regrown D0.out
   have k1:=cell_regrown C1.out
   have l1:=cell_regrown D1.out
   have k2:=cell_regrown C2.out
   have l2:=cell_regrown D2.out
   simp only[Nat.add_zero] at k0 l0
   refine wp_region_quiet_below (by kernel_rfl) (by kernel_rfl) ?_
   repeat (go_big_quiet_step (exact cQ _ _))
   refine wpQuiet_nil ?_
   intro w2 M
   obtain⟨⟨dq,U⟩,h⟩:=M
   have Z:Hid (Below w.heap.size w w2):=by show Below _ _ _;rw[h];exact I.out.trans ((below_regrown wr dq U).mono I.out.size)
   clear h k0 l0 C0 D0 k1 l1 C1 D1 k2 l2 C2 D2 cQ
   go_wp2
   go_roundg (gk-1)
   case rel=>exact⟨L,rfl,by have:=HJ.out;omega,Z.out⟩
   case measure=>omega
  ·have J: ¬(j:Int)<(l.length:Int):=by omega
   go_wp2
   go_ret
   exact⟨rfl,I.out⟩
theorem zpN (A b2:Nat) (j h:Rw) (l:List Sm) (w:World) (J:OwnR w A 107 3 j l.length (l.flatMap smL)) (I:OwnR w b2 107 3 h l.length (l.flatMap smL)) (O:l.length≤4294967296):
  Calls Tryz.prog 44 #[.slice j.a l.length j.cap,.slice h.a l.length h.cap] w fun e w'=>e= .returned (.bool true)∧Below w.heap.size w w':=by
 by_cases z:l.length=0
 ·rw[z]
  exact zpL _ _ _ _ w
 ·rcases J.nil_or with ⟨_,_,e⟩|⟨N,H⟩
  ·exact absurd e z
  ·rcases I.nil_or with ⟨_,_,e⟩|⟨M,L⟩
   ·exact absurd e z
   ·rw[H,L]
    exact zpM A b2 N M j h l w J I H L O
theorem zpO (x:Ex) (w:World):Calls Tryz.prog 95 #[.agg #[.int .i64 x.kind,.int .i64 x.num,.string x.name,.string x.field,.int .i64 x.l,.int .i64 x.r],.agg #[.int .i64 x.kind,.int .i64 x.num,.string x.name,.string x.field,.int .i64 x.l,.int .i64 x.r]] w fun e w'=>e= .returned (.bool true)∧Below w.heap.size w w':=by
 go_enter Tryz.func95,Tryz.ntmps95
 go_wp2
 go_ret
 exact⟨rfl,((Below.refl _ _).alloc (Nat.le_refl _) _).alloc (by show _≤(w.heap.push _).size;simp) _⟩
theorem zpP (j z:Option Addr) (A h:Nat) (w:World):Calls Tryz.prog 45 #[.slice j 0 A,.slice z 0 h] w fun e w'=>e= .returned (.bool true)∧Below w.heap.size w w':=by
 go_enter Tryz.func45,Tryz.ntmps45
 go_wp2
 go_loopg [5] 1 (fun k i wr=>k=1∧i= .int .i64 0∧wr=w)
 case atStart=>exact⟨rfl,rfl,rfl⟩
 case round=>
  obtain⟨rfl,rfl,rfl⟩:=hrel
  go_wp2
  go_ret
  exact⟨rfl,Below.refl _ _⟩
theorem zpQ (b1 b2 Y V:Nat) (O r2:Rw) (l:List Ex) (w:World) (z:OwnR w b1 109 6 O l.length (l.flatMap exL)) (h:OwnR w b2 109 6 r2 l.length (l.flatMap exL)) (e1:O.a=some ⟨Y,0,none⟩) (e2:r2.a=some ⟨V,0,none⟩) (hl:l.length≤4294967296):
  Calls Tryz.prog 45 #[.slice (some ⟨Y,0,none⟩) l.length O.cap,.slice (some ⟨V,0,none⟩) l.length r2.cap] w fun e w'=>e= .returned (.bool true)∧Below w.heap.size w w':=by
 have H1:=zc z
 have H2:=zc h
 have E1:=zc e1
 have E2:=zc e2
 clear z h e1 e2
 go_enter Tryz.func45,Tryz.ntmps45
 go_wp2
 go_loopg [5] l.length (fun k i wr=>∃j:Nat,i= .int .i64 j∧j+k=l.length∧Below w.heap.size w wr)
 case atStart=>exact⟨0,rfl,by omega,Below.refl _ _⟩
 case round=>
  obtain⟨j,rfl,hj,hb⟩:=hrel
  have I:=zc hb
  clear hb
  by_cases N:j<l.length
  ·have J:(j:Int)<(l.length:Int):=by omega
   obtain⟨x,hx⟩:=zfq N
   obtain⟨X,ga,z⟩:=OwnR.elem (f:=exL) (m:=6) (fun _=>rfl) (H1.out.keep fun k g=>I.out.block k (H1.out.typed g).2.1) hx
   obtain rfl:X=Y:=by have:=ga.symm.trans E1.out;simpa using this
   obtain⟨X,gb,h⟩:=OwnR.elem (f:=exL) (m:=6) (fun _=>rfl) (H2.out.keep fun k g=>I.out.block k (H2.out.typed g).2.1) hx
   obtain rfl:X=V:=by have:=gb.symm.trans E2.out;simpa using this
   have C0:=zc (z 0 (by omega))
   have D0:=zc (h 0 (by omega))
   have C1:=zc (z 1 (by omega))
   have D1:=zc (h 1 (by omega))
   have C2:=zc (z 2 (by omega))
   have D2:=zc (h 2 (by omega))
   have C3:=zc (z 3 (by omega))
   have D3:=zc (h 3 (by omega))
   have C4:=zc (z 4 (by omega))
   have D4:=zc (h 4 (by omega))
   have C5:=zc (z 5 (by omega))
   have D5:=zc (h 5 (by omega))
   clear z h ga gb hx
   have cQ: ∀d os,Calls Tryz.prog 95 #[.agg #[.int .i64 x.kind,.int .i64 x.num,.string x.name,.string x.field,.int .i64 x.l,.int .i64 x.r],.agg #[.int .i64 x.kind,.int .i64 x.num,.string x.name,.string x.field,.int .i64 x.l,.int .i64 x.r]] (grow (redrawn wr d) os) fun e aa=>e= .returned (.bool true)∧∃p:Regrown,aa=grow (redrawn wr p.d) p.os:=fun d os=>Calls.regrown_of (zpO x _)
   obtain⟨L,H⟩: ∃L,L=j+1:=⟨_,rfl⟩
   have ej:(j:Int)+1=(L:Int):=by omega
   have HJ:=zc H
   clear H
   go_wp2
   have k0:=cell_regrown C0.out
   have l0:=cell_regrown D0.out
   have k1:=cell_regrown C1.out
   have l1:=cell_regrown D1.out
   have k2:=cell_regrown C2.out
   have l2:=cell_regrown D2.out
   have k3:=cell_regrown C3.out
   have l3:=cell_regrown D3.out
   have k4:=cell_regrown C4.out
   have l4:=cell_regrown D4.out
   have k5:=cell_regrown C5.out
   have l5:=cell_regrown D5.out
   simp only[Nat.add_zero] at k0 l0
   refine wp_region_quiet_below (by kernel_rfl) (by kernel_rfl) ?_
   repeat (go_big_quiet_step (exact cQ _ _))
   refine wpQuiet_nil ?_
   intro w2 M
   obtain⟨⟨dq,U⟩,A⟩:=M
   have Z:Hid (Below w.heap.size w w2):=by show Below _ _ _;rw[A];exact I.out.trans ((below_regrown wr dq U).mono I.out.size)
   clear A k0 l0 C0 D0 k1 l1 C1 D1 k2 l2 C2 D2 k3 l3 C3 D3 k4 l4 C4 D4 k5 l5 C5 D5 cQ
   go_wp2
   go_roundg (gk-1)
   case rel=>exact⟨L,rfl,by have:=HJ.out;omega,Z.out⟩
   case measure=>omega
  ·have J: ¬(j:Int)<(l.length:Int):=by omega
   go_wp2
   go_ret
   exact⟨rfl,I.out⟩
theorem zpR (A b2:Nat) (j h:Rw) (l:List Ex) (w:World) (J:OwnR w A 109 6 j l.length (l.flatMap exL)) (I:OwnR w b2 109 6 h l.length (l.flatMap exL)) (O:l.length≤4294967296):
  Calls Tryz.prog 45 #[.slice j.a l.length j.cap,.slice h.a l.length h.cap] w fun e w'=>e= .returned (.bool true)∧Below w.heap.size w w':=by
 by_cases z:l.length=0
 ·rw[z]
  exact zpP _ _ _ _ w
 ·rcases J.nil_or with ⟨_,_,e⟩|⟨N,H⟩
  ·exact absurd e z
  ·rcases I.nil_or with ⟨_,_,e⟩|⟨M,L⟩
   ·exact absurd e z
   ·rw[H,L]
    exact zpQ A b2 N M j h l w J I H L O
theorem zgt (b1 b2:Nat) (Z Y:Sv) (m:Md) (w:World) (h1:OwnMd w b1 Z m) (h2:OwnMd w b2 Y m) (hf:zdB m):
  Calls Tryz.prog 10 #[zh Z m,zh Y m] w fun e w'=>e= .returned (.bool true)∧Below w.heap.size w w':=by
 have H1:=zc h1
 have H2:=zc h2
 have HF:=zc hf
 clear h1 h2 hf
 unfold zh
 go_enter Tryz.func10,Tryz.ntmps10
 go_upto_region 1 with fail
 refine zV (R:=TwoM w b1 b2 Z Y m m) (zhn w b1 b2 Z Y m m H1.out H2.out) ?_
 clear H1 H2
 intro w0 h
 have T0:=zc h
 clear h
 obtain⟨X,J,M,U,L,O⟩:=zg T0.out.1
 obtain⟨N,I,z,H,V,A⟩:=zg T0.out.2.1
 go_wp2_with fail
 refine (zpB b1 b2 Z.rq Y.rq m.rq w0 (by rw[←ze5];exact T0.out.2.2.1.rq) (by rw[←ze5];exact T0.out.2.2.2.1.rq) HF.out.1).mono ?_
 rintro e w1 ⟨rfl,j⟩
 have T1:=zc (T0.out.later j)
 clear j X J M U L O N I z H V A
 obtain⟨X,J,M,U,L,O⟩:=zg T1.out.1
 obtain⟨N,I,z,H,V,A⟩:=zg T1.out.2.1
 go_wp2_with fail
 refine (zpF b1 b2 Z.im Y.im m.im w1 T1.out.2.2.1.im T1.out.2.2.2.1.im HF.out.2.1).mono ?_
 rintro e w2 ⟨rfl,j⟩
 have T2:=zc (T1.out.later j)
 clear j X J M U L O N I z H V A
 obtain⟨X,J,M,U,L,O⟩:=zg T2.out.1
 obtain⟨N,I,z,H,V,A⟩:=zg T2.out.2.1
 go_wp2_with fail
 refine (zpJ b1 b2 Z.ep Y.ep m.ep w2 T2.out.2.2.1.ep T2.out.2.2.2.1.ep HF.out.2.2.1).mono ?_
 rintro e w3 ⟨rfl,j⟩
 have T3:=zc (T2.out.later j)
 clear j X J M U L O N I z H V A
 obtain⟨X,J,M,U,L,O⟩:=zg T3.out.1
 obtain⟨N,I,z,H,V,A⟩:=zg T3.out.2.1
 go_wp2_with fail
 refine (zpN b1 b2 Z.st Y.st m.st w3 T3.out.2.2.1.st T3.out.2.2.2.1.st HF.out.2.2.2.1).mono ?_
 rintro e w4 ⟨rfl,j⟩
 have T4:=zc (T3.out.later j)
 clear j X J M U L O N I z H V A
 obtain⟨X,J,M,U,L,O⟩:=zg T4.out.1
 obtain⟨N,I,z,H,V,A⟩:=zg T4.out.2.1
 go_wp2_with fail
 refine (zpR b1 b2 Z.ex Y.ex m.ex w4 T4.out.2.2.1.ex T4.out.2.2.2.1.ex HF.out.2.2.2.2).mono ?_
 rintro e w5 ⟨rfl,j⟩
 have T5:=zc (T4.out.later j)
 clear j X J M U L O N I z H V A
 obtain⟨X,J,M,U,L,O⟩:=zg T5.out.1
 obtain⟨N,I,z,H,V,A⟩:=zg T5.out.2.1
 go_wp2
 go_ret
 exact⟨rfl,T5.out.2.2.2.2⟩
open Go.Deep
theorem zpS {H:Type} {enc:TypeId×Value→H} {w:World} {I M:Nat} {A:Nat→Bool} {J:Bool} {a:Option Addr} {len L:Nat} {x:DataW H×List MemPlace}
  (h:DataW.trod enc Tryz.prog w I A J M 40 [.slice a len L]=some x): ∃S:FSrc,a=S.a∧len=S.len∧L=S.cap∧zfw S w:=by
 rcases open_slice_pairs Tryz.underlying40 Tryz.underlying81 (by kernel_rfl) rfl rfl (by kernel_rfl) (by kernel_rfl) h with ⟨z,_⟩|⟨y,l,c,m,n,V0,V1,D0,D1,P0,P1,z,_,hl,hm,N,_,hx⟩
 ·simp at z
  obtain⟨rfl,rfl,rfl⟩:=z
  exact⟨_,rfl,rfl,rfl,zpl w⟩
 ·simp at z
  obtain⟨rfl,rfl,rfl⟩:=z
  have aa:len≤m:=by rw[N];split<;>omega
  have hc: ∀i,i<len→∃q:ByteArray×ByteArray,w.cell? (y.add (i*2))=some (.string q.1)∧w.cell? (y.add (i*2+1))=some (.string q.2)∧q.1.size≤maxLen∧q.2.size≤maxLen:=by
   intro i hi
   obtain⟨X,U,t0,t1⟩:=hx i (by omega)
   obtain⟨Z,O,_,z0⟩:=DataW.trod_string Tryz.underlying9 t0
   obtain⟨s1,V,_,Y⟩:=DataW.trod_string Tryz.underlying9 t1
   simp only[List.cons.injEq,and_true] at O V
   rw[O] at X
   rw[V] at U
   exact⟨(Z,s1),X,U,z0,Y⟩
  obtain⟨f,hf⟩:=choose_lt hc
  exact⟨_,rfl,rfl,rfl,zpm (Pt:=fun j=>(f j).1) (Tx:=fun j=>(f j).2) hl hm hf⟩
theorem zpT (l:List Sm): ∀u∈l.flatMap smL,u.oneCell'=true:=by
 intro u j
 obtain⟨x,_,h⟩:=List.mem_flatMap.1 j
 simp[smL] at h
 rcases h with rfl|rfl|rfl<;>rfl
theorem zpU (l:List Ex): ∀u∈l.flatMap exL,u.oneCell'=true:=by
 intro u j
 obtain⟨x,_,h⟩:=List.mem_flatMap.1 j
 simp[exL] at h
 rcases h with rfl|rfl|rfl|rfl|rfl|rfl<;>rfl
theorem zpV (l:List Im): ∀u∈l.flatMap imL,u.oneCell'=true:=by
 intro u j
 obtain⟨x,_,h⟩:=List.mem_flatMap.1 j
 simp[imL] at h
 rcases h with rfl|rfl|rfl<;>rfl
theorem zpW (l:List ByteArray): ∀u∈l.map Value.string,u.oneCell'=true:=by
 intro u h
 obtain⟨x,_,rfl⟩:=List.mem_map.1 h
 rfl
theorem zfy {P:Program} {o:Oper} {a:Act} {W:World} {K:Act→World→Prop} {Q:Exit→Act→World→Prop} (H:o.guard=none) (s x:Operand) (t:TypeId)
  (ho:o.op= .call {callee:=.builtin .append,args:=#[s,x],argTypes:=#[t,t]})
  (B:Nat) (e:TypeId) (size w:Nat) (ht:P.underlying t=some (.slice e)) (j:(P.info? e).map (fun i=>(i.zero.map fun z=>z.cells.size,i.size,i.bytes))=some (some size,size,w)) (Z:0<size) (L:w≤100)
  (g:Nat) (hs:a.eval s= .slice (some ⟨g,0,none⟩) 0 0) (A:OwnR W B e size ⟨some ⟨g,0,none⟩,0⟩ 0 [])
  (r:Rw) (n b2:Nat) (xs:List Value) (U:a.eval x= .slice r.a n r.cap) (V:OwnR W b2 e size r n xs) (h1: ∀u∈xs,u.oneCell'=true) (hn:n≤1000000) (hB:B≤W.heap.size)
  (h: ∀J w',OwnR w' B e size J n xs→W.grownBy w' (some g)→K (a.put o.dst (.slice J.a n J.cap)) w'):o.wp P a W K Q:=by
 have hw:Region.wanted o (yielded #[] a.tmps)=true:=by simp[Region.wanted,H]
 cases O:P.info? e with
 |none=>rw[O] at j;cases j
 |some i=>
  rw[O] at j
  simp only[Option.map_some,Option.some.injEq,Prod.mk.injEq] at j
  obtain⟨M,h2,h3⟩:=j
  cases I:i.zero with
  |none=>rw[I] at M;cases M
  |some z=>
   rw[I] at M
   simp only[Option.map_some,Option.some.injEq] at M
   rcases V.nil_or with ⟨N,hc,rfl⟩|⟨gx,N⟩
   ·have X:xs=[]:=List.eq_nil_of_length_eq_zero (by rw[V.1,Nat.zero_mul])
    rw[N,hc] at U
    have:=zh2 (ops:=#[]) (K:=K) (Q:=Q) (E:=True) H s x t ho e i ht O B size 0 ⟨some ⟨g,0,none⟩,0⟩ [] hs A U (h ⟨some ⟨g,0,none⟩,0⟩ W (by rw[X];exact A) ⟨rfl,rfl,rfl,Nat.le_refl _,fun _ _ _=>rfl⟩)
    rw[if_pos hw] at this
    exact this
   ·rw[N] at U
    have Y:OwnR W b2 e size ⟨some ⟨gx,0,none⟩,r.cap⟩ n xs:=by
     obtain⟨ra,rc⟩:=r
     simp only at N
     subst N
     exact V
    have:=zh1 (ops:=#[]) (K:=K) (Q:=Q) (E:=True) H s x t ho B e i z size w ht O I h2 h3 M Z L ⟨some ⟨g,0,none⟩,0⟩ 0 [] hs A gx n r.cap b2 xs U Y h1 (by omega) hB (fun J w' k1 k2 _=>by
     rw[Nat.zero_add] at k1
     rw[Nat.zero_add]
     exact h J w' k1 k2)
    rw[if_pos hw] at this
    exact this
theorem zcP {a:Act} {k:Nat} {v:Value} (h:a.tmps[k]? =some v):a.eval (.tmp k)=v:=by
 show a.tmps.getD k undef=v
 rw[Array.getD_eq_getD_getElem?,h]
 rfl
theorem zpX (M:Nat) (S:Sv) (m:Md) (w:World) (h:OwnMd w M S m) (hl:m.rq.length≤10000∧m.im.length≤10000∧m.ep.length≤10000∧m.st.length≤10000∧m.ex.length≤10000):
  Calls Tryz.prog 47 #[zh S m] w fun e w'=>∃S',e= .returned (zh S' m)∧OwnMd w' w.heap.size S' m∧Below w.heap.size w w':=by
 have HH:=zc h
 have HL:=zc hl
 clear h hl
 unfold zh
 go_enter Tryz.func47,Tryz.ntmps47
 go_upto_region 1 with fail
 have e1:(w.alloc (.cells #[.slice S.rq.a m.rq.length S.rq.cap,.slice S.im.a m.im.length S.im.cap,.slice S.ep.a m.ep.length S.ep.cap,.slice S.st.a m.st.length S.st.cap,.slice S.ex.a m.ex.length S.ex.cap] 36)).heap.size=w.heap.size+1:=zn _ _
 have HW:Hid (Below w.heap.size w ((w.alloc (.cells #[.slice S.rq.a m.rq.length S.rq.cap,.slice S.im.a m.im.length S.im.cap,.slice S.ep.a m.ep.length S.ep.cap,.slice S.st.a m.st.length S.st.cap,.slice S.ex.a m.ex.length S.ex.cap] 36)).alloc (.cells #[.slice none 0 0,.slice none 0 0,.slice none 0 0,.slice none 0 0,.slice none 0 0] 36))):=((Below.refl _ _).alloc (Nat.le_refl _) _).alloc (by rw[e1];omega) _
 refine zV (R:=fun W=>W.heap[w.heap.size]? =some (.cells #[.slice S.rq.a m.rq.length S.rq.cap,.slice S.im.a m.im.length S.im.cap,.slice S.ep.a m.ep.length S.ep.cap,.slice S.st.a m.st.length S.st.cap,.slice S.ex.a m.ex.length S.ex.cap] 36 (0,0))∧W.heap[w.heap.size+1]? =some (.cells #[.slice none 0 0,.slice none 0 0,.slice none 0 0,.slice none 0 0,.slice none 0 0] 36 (0,0))∧OwnMd W M S m∧Below w.heap.size w W) ⟨(heap_alloc_old _ _ (by rw[e1];omega)).trans (heap_alloc_new w _),heap_alloc2_new w _ _,HH.out.later HW.out,HW.out⟩ ?_
 obtain⟨Y,ab⟩: ∃Y,Y=w.heap.size:=⟨_,rfl⟩
 obtain⟨gz,ac⟩: ∃gz,gz=w.heap.size+1:=⟨_,rfl⟩
 rw[←ac,←ab]
 rintro w1 ⟨hx,hz,ho,hb⟩
 rw[ab] at hb
 have ae:Hid (w.heap.size≤gz):=by show _≤_;omega
 clear ab ac HW HH e1
 have X1:=zc hx
 have Z1:=zc hz
 have O1:=zc ho
 have aa:=zc hb
 clear hx hz ho hb
 have LX:Y<w1.heap.size:=(Array.getElem?_eq_some_iff.1 X1.out).1
 have LZ:gz<w1.heap.size:=(Array.getElem?_eq_some_iff.1 Z1.out).1
 have I: ∀{p:Prop},(false=true)→p:=fun k=>by cases k
 refine zgJ (by kernel_rfl) (CpI w1 Y gz S m []) (zgK (by kernel_rfl)) ⟨rfl,rfl,rfl,rfl,fun _=>(Below.refl _ _).drew,fun _=>⟨fun k=>I k,fun k=>I k,fun k=>I k,fun k=>I k,fun k=>I k,fun k=>I k⟩,fun _=>⟨fun k=>I k,fun k=>I k,fun k=>I k,fun k=>I k,fun k=>I k,fun k=>I k⟩,fun _=>⟨fun k=>I k,fun k=>I k,fun k=>I k,fun k=>I k,fun k=>I k,fun k=>I k⟩,fun _=>⟨fun k=>I k,fun k=>I k,fun k=>I k,fun k=>I k,fun k=>I k,fun k=>I k⟩,fun _=>⟨fun k=>I k,fun k=>I k,fun k=>I k,fun k=>I k,fun k=>I k,fun k=>I k⟩,fun k=>I k,fun k=>I k,fun k=>I k,fun k=>I k⟩ ?_ ?_
 ·intro D a O i o H N A j
  have af:i<22:=(Array.getElem?_eq_some_iff.1 N).1
  obtain rfl|rfl|rfl|rfl|rfl|rfl|rfl|rfl|rfl|rfl|rfl|rfl|rfl|rfl|rfl|rfl|rfl|rfl|rfl|rfl|rfl|rfl:i=0∨i=1∨i=2∨i=3∨i=4∨i=5∨i=6∨i=7∨i=8∨i=9∨i=10∨i=11∨i=12∨i=13∨i=14∨i=15∨i=16∨i=17∨i=18∨i=19∨i=20∨i=21:=by omega
  ·cases N
   exact zae rfl rfl (zaC (w':=O.alloc (.cells #[] 9)) (v:=.slice (some ⟨O.heap.size,0,none⟩) 0 0) (by go_simp) (H.s0 A))
  ·cases N
   have Z:=H.t1
   exact zae rfl rfl (zaC (w':=O) (v:=.pointer (some ⟨Y,0,none⟩)) (by go_simp) (H.s1 A))
  ·cases N
   have X:=j ⟨1,.data⟩ (by simp) rfl
   have z:=H.no21 (by decide) A
   have Z:a.tmps[4]? =_:=(H.c0 z).b1 X
   obtain⟨c0,c1,c2,c3,c4,cf⟩:=zg (((H.nb z).block Y LX).trans X1.out)
   exact zae rfl rfl (zaC (w':=O) (v:=.slice S.rq.a m.rq.length S.rq.cap) (by go_simp) (H.s2 A X))
  ·cases N
   have L:=j ⟨0,.data⟩ (by simp) rfl
   have J:=j ⟨2,.data⟩ (by simp) rfl
   have z:=H.no21 (by decide) A
   have V:=H.nb z
   obtain⟨g,h1,U⟩:=(H.c0 z).b0 L A
   have h3:=(H.c0 z).b2 J
   exact zae rfl rfl (zfy rfl (.tmp 3) (.tmp 5) 22 rfl w1.heap.size 9 1 16 Tryz.underlying22 zpg (by decide) (by decide) g (zcP h1) U S.rq m.rq.length M _ (zcP h3) ((O1.out.later V).rq) (zpW _) (by have:=HL.out;omega) V.size (fun r' w' k1 k2=>H.s3 A L J U k1 k2))
  ·cases N
   exact zae rfl rfl (zaC (w':=O.alloc (.cells #[] 84)) (v:=.slice (some ⟨O.heap.size,0,none⟩) 0 0) (by go_simp) (H.s4 A))
  ·cases N
   have Z:=H.t1
   exact zae rfl rfl (zaC (w':=O) (v:=.pointer (some ⟨Y,1,none⟩)) (by go_simp) (H.s5 A))
  ·cases N
   have X:=j ⟨5,.data⟩ (by simp) rfl
   have z:=H.no21 (by decide) A
   have Z:a.tmps[8]? =_:=(H.c1 z).b1 X
   obtain⟨c0,c1,c2,c3,c4,cf⟩:=zg (((H.nb z).block Y LX).trans X1.out)
   exact zae rfl rfl (zaC (w':=O) (v:=.slice S.im.a m.im.length S.im.cap) (by go_simp) (H.s6 A X))
  ·cases N
   have L:=j ⟨4,.data⟩ (by simp) rfl
   have J:=j ⟨6,.data⟩ (by simp) rfl
   have z:=H.no21 (by decide) A
   have V:=H.nb z
   obtain⟨g,h1,U⟩:=(H.c1 z).b0 L A
   have h3:=(H.c1 z).b2 J
   exact zae rfl rfl (zfy rfl (.tmp 7) (.tmp 9) 31 rfl w1.heap.size 84 3 48 Tryz.underlying31 zph (by decide) (by decide) g (zcP h1) U S.im m.im.length M _ (zcP h3) ((O1.out.later V).im) (zpV _) (by have:=HL.out;omega) V.size (fun r' w' k1 k2=>H.s7 A L J U k1 k2))
  ·cases N
   exact zae rfl rfl (zaC (w':=O.alloc (.cells #[] 86)) (v:=.slice (some ⟨O.heap.size,0,none⟩) 0 0) (by go_simp) (H.s8 A))
  ·cases N
   have Z:=H.t1
   exact zae rfl rfl (zaC (w':=O) (v:=.pointer (some ⟨Y,2,none⟩)) (by go_simp) (H.s9 A))
  ·cases N
   have X:=j ⟨9,.data⟩ (by simp) rfl
   have z:=H.no21 (by decide) A
   have Z:a.tmps[12]? =_:=(H.c2 z).b1 X
   obtain⟨c0,c1,c2,c3,c4,cf⟩:=zg (((H.nb z).block Y LX).trans X1.out)
   exact zae rfl rfl (zaC (w':=O) (v:=.slice S.ep.a m.ep.length S.ep.cap) (by go_simp) (H.s10 A X))
  ·cases N
   have L:=j ⟨8,.data⟩ (by simp) rfl
   have J:=j ⟨10,.data⟩ (by simp) rfl
   have z:=H.no21 (by decide) A
   have V:=H.nb z
   obtain⟨g,h1,U⟩:=(H.c2 z).b0 L A
   have h3:=(H.c2 z).b2 J
   exact zae rfl rfl (zfy rfl (.tmp 11) (.tmp 13) 32 rfl w1.heap.size 86 4 56 Tryz.underlying32 zpi (by decide) (by decide) g (zcP h1) U S.ep m.ep.length M _ (zcP h3) ((O1.out.later V).ep) (zfM _) (by have:=HL.out;omega) V.size (fun r' w' k1 k2=>H.s11 A L J U k1 k2))
  ·cases N
   exact zae rfl rfl (zaC (w':=O.alloc (.cells #[] 107)) (v:=.slice (some ⟨O.heap.size,0,none⟩) 0 0) (by go_simp) (H.s12 A))
  ·cases N
   have Z:=H.t1
   exact zae rfl rfl (zaC (w':=O) (v:=.pointer (some ⟨Y,3,none⟩)) (by go_simp) (H.s13 A))
  ·cases N
   have X:=j ⟨13,.data⟩ (by simp) rfl
   have z:=H.no21 (by decide) A
   have Z:a.tmps[16]? =_:=(H.c3 z).b1 X
   obtain⟨c0,c1,c2,c3,c4,cf⟩:=zg (((H.nb z).block Y LX).trans X1.out)
   exact zae rfl rfl (zaC (w':=O) (v:=.slice S.st.a m.st.length S.st.cap) (by go_simp) (H.s14 A X))
  ·cases N
   have L:=j ⟨12,.data⟩ (by simp) rfl
   have J:=j ⟨14,.data⟩ (by simp) rfl
   have z:=H.no21 (by decide) A
   have V:=H.nb z
   obtain⟨g,h1,U⟩:=(H.c3 z).b0 L A
   have h3:=(H.c3 z).b2 J
   exact zae rfl rfl (zfy rfl (.tmp 15) (.tmp 17) 33 rfl w1.heap.size 107 3 32 Tryz.underlying33 zpj (by decide) (by decide) g (zcP h1) U S.st m.st.length M _ (zcP h3) ((O1.out.later V).st) (zpT _) (by have:=HL.out;omega) V.size (fun r' w' k1 k2=>H.s15 A L J U k1 k2))
  ·cases N
   exact zae rfl rfl (zaC (w':=O.alloc (.cells #[] 109)) (v:=.slice (some ⟨O.heap.size,0,none⟩) 0 0) (by go_simp) (H.s16 A))
  ·cases N
   have Z:=H.t1
   exact zae rfl rfl (zaC (w':=O) (v:=.pointer (some ⟨Y,4,none⟩)) (by go_simp) (H.s17 A))
  ·cases N
   have X:=j ⟨17,.data⟩ (by simp) rfl
   have z:=H.no21 (by decide) A
   have Z:a.tmps[20]? =_:=(H.c4 z).b1 X
   obtain⟨c0,c1,c2,c3,c4,cf⟩:=zg (((H.nb z).block Y LX).trans X1.out)
   exact zae rfl rfl (zaC (w':=O) (v:=.slice S.ex.a m.ex.length S.ex.cap) (by go_simp) (H.s18 A X))
  ·cases N
   have L:=j ⟨16,.data⟩ (by simp) rfl
   have J:=j ⟨18,.data⟩ (by simp) rfl
   have z:=H.no21 (by decide) A
   have V:=H.nb z
   obtain⟨g,h1,U⟩:=(H.c4 z).b0 L A
   have h3:=(H.c4 z).b2 J
   exact zae rfl rfl (zfy rfl (.tmp 19) (.tmp 21) 34 rfl w1.heap.size 109 6 64 Tryz.underlying34 zpk (by decide) (by decide) g (zcP h1) U S.ex m.ex.length M _ (zcP h3) ((O1.out.later V).ex) (zpU _) (by have:=HL.out;omega) V.size (fun r' w' k1 k2=>H.s19 A L J U k1 k2))
  ·cases N
   have p0:=j ⟨3,.data⟩ (by simp) rfl
   have p1:=j ⟨7,.data⟩ (by simp) rfl
   have p2:=j ⟨11,.data⟩ (by simp) rfl
   have p3:=j ⟨15,.data⟩ (by simp) rfl
   have p4:=j ⟨19,.data⟩ (by simp) rfl
   have z:D 21=false:=by
    cases U:D 21 with
    |false=>rfl
    |true=>exact absurd (H.lt21 U) (by rw[A];decide)
   obtain⟨r0,t0,o0⟩:=(H.c0 z).b3 p0
   obtain⟨r1,Z,o1⟩:=(H.c1 z).b3 p1
   obtain⟨r2,t2,o2⟩:=(H.c2 z).b3 p2
   obtain⟨r3,t3,o3⟩:=(H.c3 z).b3 p3
   obtain⟨r4,t4,o4⟩:=(H.c4 z).b3 p4
   have u0:a.tmps[6]? =_:=t0
   have u1:a.tmps[10]? =_:=Z
   have u2:a.tmps[14]? =_:=t2
   have u3:a.tmps[18]? =_:=t3
   have u4:a.tmps[22]? =_:=t4
   clear t0 Z t2 t3 t4
   exact zae rfl rfl (zaC (w':=O) (v:=zh ⟨r0,r1,r2,r3,r4,R0⟩ m) (by unfold zh;go_simp) (H.s20 A p0 p1 p2 p3 p4 (S':=⟨r0,r1,r2,r3,r4,R0⟩) ⟨o0,o1,o2,o3,o4⟩))
  ·cases N
   have p:=j ⟨20,.data⟩ (by simp) rfl
   obtain⟨S',h1,U⟩:=H.b20 p A
   have h3:=H.t2
   unfold zh at h1
   have V:=H.nb A
   obtain⟨c0,c1,c2,c3,c4,cf⟩:=zg ((V.block gz LZ).trans Z1.out)
   refine zae rfl rfl ?_
   have hs:=H.s21 p U V
   go_simp
 ·intro D a O H ad
  obtain⟨S',w3,rfl,ho,hb⟩:=H.fin (ad 21 (by decide))
  rename_i Q' K hK
  refine hK _ _ (wp_ret ?_)
  have hz:=(hb.block gz LZ).trans Z1.out
  show bodyPost Tryz.prog Tryz.f47 _ .ret _ _
  refine bodyPost_ret (results_cell_row rfl _ _ gz 36 _ (0,0) _ (zcP H.t2) (zbH hz) Tryz.underlying36 rfl (by kernel_rfl)) H.df ?_
  exact⟨S',rfl,(zdZ (o:=0) ho ⟨_,hz⟩).low aa.out.size,zbN (aa.out.trans (hb.mono aa.out.size)) ae.out _ _ _ _ _⟩
structure MW (base gx:Nat) (a:Option Addr) (g len:Nat) (Pt Tx:Nat→ByteArray) (w0 W:World) (S:Sv) (n:Md) (li le:Nat):Prop where
 box:W.heap[gx]? =some (.cells #[.slice S.rq.a n.rq.length S.rq.cap,.slice S.im.a li S.im.cap,.slice S.ep.a le S.ep.cap,.slice S.st.a n.st.length S.st.cap,.slice S.ex.a n.ex.length S.ex.cap] 36 (0,0))
 own:OwnMd W base S n
 rules:FilesAt W a g 0 len Pt Tx
 low:0<len→g<base
 bel:Below base w0 W
 at':base≤gx
 hli:n.im.length=li
 hle:n.ep.length=le
variable {base gx g len li le:Nat} {a:Option Addr} {Pt Tx:Nat→ByteArray} {w0 W W':World} {S:Sv} {n:Md}
theorem MW.size (h:MW base gx a g len Pt Tx w0 W S n li le):base≤W.heap.size:=by
 have:=(Array.getElem?_eq_some_iff.1 h.box).1
 have:=h.at'
 omega
theorem FilesAt.kept {w w':World} {a:Option Addr} {b z len:Nat} {Pt Tx:Nat→ByteArray} (h:FilesAt w a b z len Pt Tx) (L:w.heap.size≤w'.heap.size) (J:0<len→w'.heap[b]? =w.heap[b]?):FilesAt w' a b z len Pt Tx:=by
 have H: ∀o,0<len→w'.cell? ⟨b,o,none⟩=w.cell? ⟨b,o,none⟩:=fun o I=>by simp only[World.cell?,J I]
 exact⟨h.addr,fun k=>Nat.lt_of_lt_of_le (h.lt k) L,fun j A=>by rw[H _ (by omega)];exact h.path j A,fun j A=>by rw[H _ (by omega)];exact h.text j A⟩
theorem MW.later (h:MW base gx a g len Pt Tx w0 W S n li le) (j:Below W.heap.size W W'):MW base gx a g len Pt Tx w0 W' S n li le:=
 ⟨(j.block _ (Array.getElem?_eq_some_iff.1 h.box).1).trans h.box,h.own.later j,h.rules.later j,h.low,h.bel.trans (j.mono h.size),h.at',h.hli,h.hle⟩
theorem zgu (w:World) (c:Addr) (u:Value):(w.setCell c u).heap.size=w.heap.size:=by simp[World.setCell]
theorem MW.im (h:MW base gx a g len Pt Tx w0 W S n li le) {i:Nat} {x:Im} (A:n.im[i]? =some x):
  ∃j,S.im.a=some ⟨j,0,none⟩∧W.cell? ⟨j,i*3,none⟩=some (.string x.spec)∧W.cell? ⟨j,i*3+1,none⟩=some (.string x.first)∧W.cell? ⟨j,i*3+2,none⟩=some (.string x.loc)∧W.frozen? ⟨j,i*3,none⟩=false:=by
 obtain⟨j,z,w⟩:=OwnR.elem (f:=imL) (m:=3) (fun _=>rfl) h.own.im A
 exact⟨j,z,w 0 (by decide),w 1 (by decide),w 2 (by decide),h.own.im.free z _⟩
theorem MW.set_im (h:MW base gx a g len Pt Tx w0 W S n li le) {i j:Nat} {x:Im} (L:n.im[i]? =some x) (z:S.im.a=some ⟨j,0,none⟩) (s:ByteArray):
  MW base gx a g len Pt Tx w0 (W.setCell ⟨j,i*3,none⟩ (.string s)) S {n with im:=n.im.set i ⟨s,x.first,x.loc⟩} li le:=by
 obtain⟨J,_,A,H⟩:=h.own.im.typed (OwnR.blkOf z)
 refine⟨?_,h.own.put_im L z s,h.rules.kept (by rw[zgu];exact Nat.le_refl _) fun I=>heap_setCell_other W ⟨j,i*3,none⟩ g _ ?_,h.low,h.bel.setCell J _,h.at',by rw[←h.hli];exact List.length_set,h.hle⟩
 ·have e:=h.box
  rw[heap_setCell_other W ⟨j,i*3,none⟩ gx _ (fun w=>by simp only at w;rw[w,H] at e;exact absurd e (by simp))]
  exact e
 ·have:=h.low I
  show g≠j
  omega
theorem MW.ep (h:MW base gx a g len Pt Tx w0 W S n li le) {i:Nat} {x:Ep} (A:n.ep[i]? =some x):
  ∃j,S.ep.a=some ⟨j,0,none⟩∧W.cell? ⟨j,i*4,none⟩=some (.int .i64 x.kind)∧W.cell? ⟨j,i*4+1,none⟩=some (.string x.name)∧W.cell? ⟨j,i*4+2,none⟩=some (.string x.loc)∧W.cell? ⟨j,i*4+3,none⟩=some (.string x.spec)∧W.frozen? ⟨j,i*4+3,none⟩=false:=by
 obtain⟨j,z,w⟩:=OwnR.elem (f:=epL) (m:=4) (fun _=>rfl) h.own.ep A
 exact⟨j,z,w 0 (by decide),w 1 (by decide),w 2 (by decide),w 3 (by decide),h.own.ep.free z _⟩
theorem MW.set_ep (h:MW base gx a g len Pt Tx w0 W S n li le) {i j:Nat} {x:Ep} (L:n.ep[i]? =some x) (z:S.ep.a=some ⟨j,0,none⟩) (s:ByteArray):
  MW base gx a g len Pt Tx w0 (W.setCell ⟨j,i*4+3,none⟩ (.string s)) S {n with ep:=n.ep.set i ⟨x.kind,x.name,x.loc,s⟩} li le:=by
 obtain⟨J,_,A,H⟩:=h.own.ep.typed (OwnR.blkOf z)
 refine⟨?_,h.own.put_ep L z s,h.rules.kept (by rw[zgu];exact Nat.le_refl _) fun I=>heap_setCell_other W ⟨j,i*4+3,none⟩ g _ ?_,h.low,h.bel.setCell J _,h.at',h.hli,by rw[←h.hle];exact List.length_set⟩
 ·have e:=h.box
  rw[heap_setCell_other W ⟨j,i*4+3,none⟩ gx _ (fun w=>by simp only at w;rw[w,H] at e;exact absurd e (by simp))]
  exact e
 ·have:=h.low I
  show g≠j
  omega
theorem MW.set_rq (h:MW base gx a g len Pt Tx w0 W S n li le) {r:Rw} {l:List ByteArray} (A:OwnR W base 9 1 r l.length (l.map .string)):
  MW base gx a g len Pt Tx w0 (W.setCell ⟨gx,0,none⟩ (.slice r.a l.length r.cap)) {S with rq:=r} {n with rq:=l} li le:=by
 have w:(36:TypeId)≠9∧(36:TypeId)≠84∧(36:TypeId)≠86∧(36:TypeId)≠107∧(36:TypeId)≠109:=by decide
 have j:=h.own.aside (i:=0) (u:=.slice r.a l.length r.cap) h.box w
 refine⟨?_,⟨A.aside h.box w.1.symm,j.im,j.ep,j.st,j.ex⟩,h.rules.kept (by rw[zgu];exact Nat.le_refl _) fun z=>heap_setCell_other W ⟨gx,0,none⟩ g _ ?_,h.low,h.bel.setCell h.at' _,h.at',h.hli,h.hle⟩
 ·have e:=zam (i:=0) (u:=.slice r.a l.length r.cap) h.box
  rw[e]
  rfl
 ·have:=h.low z
  have:=h.at'
  show g≠gx
  omega
theorem MW.grown (h:MW base gx a g len Pt Tx w0 W S n li le) {b:Option Nat} (k:W.grownBy W' b) (z: ∀j,b=some j→w0.heap.size≤j∧base≤j∧j≠gx∧S.im.blk≠some j∧S.ep.blk≠some j∧S.st.blk≠some j∧S.ex.blk≠some j∧S.rq.blk≠some j):MW base gx a g len Pt Tx w0 W' S n li le:=by
 have A: ∀j,j<W.heap.size→(b=some j→False)→W'.heap[j]? =W.heap[j]?:=fun j J I=>k.block j J fun e=>I e.symm
 refine⟨(A gx (Array.getElem?_eq_some_iff.1 h.box).1 fun e=>(z gx e).2.2.1 rfl).trans h.box,?_,h.rules.kept k.size fun H=>A g (h.rules.lt H) fun e=>?_,h.low,h.bel.grown k h.size fun j e=>(z j e).2.1,h.at',h.hli,h.hle⟩
 ·refine⟨h.own.rq.keep fun j e=>A j (h.own.rq.typed e).2.1 fun w=>(z j w).2.2.2.2.2.2.2 e,h.own.im.keep fun j e=>A j (h.own.im.typed e).2.1 fun w=>(z j w).2.2.2.1 e,h.own.ep.keep fun j e=>A j (h.own.ep.typed e).2.1 fun w=>(z j w).2.2.2.2.1 e,h.own.st.keep fun j e=>A j (h.own.st.typed e).2.1 fun w=>(z j w).2.2.2.2.2.1 e,h.own.ex.keep fun j e=>A j (h.own.ex.typed e).2.1 fun w=>(z j w).2.2.2.2.2.2.1 e⟩
 ·have:=h.low H
  have:=(z g e).2.1
  omega
theorem MW.more (w:MW base gx a g len Pt Tx w0 w0 S n li le) (h:MW base gx a g len Pt Tx w0 W S n li le) {r:Rw} {k size:Nat} {e:TypeId} {xs:List Value} (A:OwnR W w0.heap.size e size r k xs) (I:W.grownBy W' r.blk):MW base gx a g len Pt Tx w0 W' S n li le:=by
 refine h.grown I fun j z=>?_
 have H:=(A.typed z).1
 have J:=(Array.getElem?_eq_some_iff.1 w.box).1
 have L:=w.size
 refine⟨H,by omega,by omega,fun e=>?_,fun e=>?_,fun e=>?_,fun e=>?_,fun e=>?_⟩
 ·have:=(w.own.im.typed e).2.1;omega
 ·have:=(w.own.ep.typed e).2.1;omega
 ·have:=(w.own.st.typed e).2.1;omega
 ·have:=(w.own.ex.typed e).2.1;omega
 ·have:=(w.own.rq.typed e).2.1;omega
theorem MW.rqAt (h:MW base gx a g len Pt Tx w0 W S n li le) {i:Nat} {x:ByteArray} (z:n.rq[i]? =some x): ∃j,S.rq.a=some ⟨j,0,none⟩∧W.cell? ⟨j,i,none⟩=some (.string x):=by
 obtain⟨H,A⟩:=List.getElem?_eq_some_iff.1 z
 obtain⟨j,w⟩:=h.own.rq.addrA (by omega)
 refine⟨j,w,?_⟩
 have:=World.ownsRow.cellAt (h.own.rq.at w) i (by omega)
 rw[this,List.getElem?_map,z]
 rfl
variable {base gx g len li le:Nat} {a:Option Addr} {Pt Tx:Nat→ByteArray} {w0 W W1 W':World} {S:Sv} {n:Md}
theorem MW.push_rq (h:MW base gx a g len Pt Tx w0 W S n li le) (L:W.grownBy W' S.rq.blk) {r:Rw} {y:ByteArray} (X:OwnR W' base 9 1 r (n.rq.length+1) (n.rq.map .string++[.string y])):
  MW base gx a g len Pt Tx w0 (W'.setCell ⟨gx,0,none⟩ (.slice r.a (n.rq.length+1:Nat) r.cap)) {S with rq:=r} {n with rq:=n.rq++[y]} li le:=by
 have z: ∀j,j<W.heap.size→S.rq.blk≠some j→W'.heap[j]? =W.heap[j]?:=fun j O N=>L.block j O fun e=>N e.symm
 have w:W'.heap[gx]? =_:=(z gx (Array.getElem?_eq_some_iff.1 h.box).1 fun e=>by
  obtain⟨_,_,V,U⟩:=h.own.rq.typed e
  rw[h.box] at U
  exact absurd U (by simp)).trans h.box
 have H:=h.own.im.keep fun k e=>z k (h.own.im.typed e).2.1 (OwnR.ne h.own.im h.own.rq (by decide) e)
 have I:=h.own.ep.keep fun k e=>z k (h.own.ep.typed e).2.1 (OwnR.ne h.own.ep h.own.rq (by decide) e)
 have A:=h.own.st.keep fun k e=>z k (h.own.st.typed e).2.1 (OwnR.ne h.own.st h.own.rq (by decide) e)
 have J:=h.own.ex.keep fun k e=>z k (h.own.ex.typed e).2.1 (OwnR.ne h.own.ex h.own.rq (by decide) e)
 refine⟨?_,⟨?_,H.aside w (by decide),I.aside w (by decide),A.aside w (by decide),J.aside w (by decide)⟩,?_,h.low,(h.bel.grown L h.size fun j e=>(h.own.rq.typed e).1).setCell h.at' _,h.at',h.hli,h.hle⟩
 ·have e:=zam (i:=0) (u:=.slice r.a (n.rq.length+1:Nat) r.cap) w
  rw[e]
  show _=some (Obj.cells #[.slice r.a (n.rq++[y]).length r.cap,_,_,_,_] _ _)
  rw[List.length_append]
  rfl
 ·show OwnR _ _ _ _ _ (n.rq++[y]).length ((n.rq++[y]).map .string)
  rw[List.length_append,List.map_append]
  exact X.aside w (by decide)
 ·refine h.rules.kept (by rw[zgu];exact L.size) fun M=>?_
  have O:=h.low M
  have N:=h.at'
  rw[heap_setCell_other W' ⟨gx,0,none⟩ g _ (by show g≠gx;omega)]
  exact z g (h.rules.lt M) fun e=>by have:=(h.own.rq.typed e).1;omega
theorem OwnR.under {w w':World} {b B size n:Nat} {e:TypeId} {r:Rw} {xs:List Value} (h:OwnR w b e size r n xs) (z:w.heap.size≤B) {W:World} (A:Below w.heap.size w W) (j:Below B W w'):OwnR w' b e size r n xs:=
 h.keep fun k e=>(j.block k (Nat.lt_of_lt_of_le (h.typed e).2.1 z)).trans (A.block k (h.typed e).2.1)
theorem zjF (s:ByteArray) (w:World) (_:s.size≤1048576):
  Calls Tryz.prog 70 #[.string s] w fun e w'=>e= .returned (.bool (zcz s))∧Below w.heap.size w w':=by
 have hb:=get_bt s
 by_cases U:s.size≤40
 ·go_enter Tryz.func70,Tryz.ntmps70
  go_wp2
  go_loop [3] (fun i=>∃k:Nat,k≤s.size∧i= .int .i64 k∧∀j,j<k→zb8 (bt s j)) (fun i=>(s.size-intOf i).toNat)
  case atStart=>exact⟨0,by omega,rfl,fun j X=>by omega⟩
  case round=>
   obtain⟨k,hk,rfl,I⟩:=hrel
   have H:=zY I
   clear I
   by_cases L:k<s.size
   ·have Y:=bt_nonneg s k
    have aa:=bt_le s k
    by_cases z:zb8 (bt s k)
    ·have A:Hid (∀j,j<k+1→zb8 (bt s j)):=fun j X=>by
      by_cases e:j=k
      ·rw[e];exact z
      ·exact H.out j (by omega)
     obtain⟨h1,h2,V,M⟩:=z
     have q1:decide (bt s k<32)=false:=decide_eq_false (by omega)
     have q2:decide (126<bt s k)=false:=decide_eq_false (by omega)
     have N:(bt s k==34)=false:=beq_eq_false_iff_ne.2 V
     have Z:(bt s k==92)=false:=beq_eq_false_iff_ne.2 M
     clear V M
     go_wp2
     go_round
     case rel=>exact⟨k+1,by omega,by go_num,A.out⟩
     case measure=>simp[intOf];omega
    ·have A:Hid (¬zd3 s):=fun h=>z (h.2 k L)
     by_cases g1:bt s k<32
     ·clear z
      go_wp2
      go_ret
      exact⟨zk (zdX A.out).symm,Below.refl _ _⟩
     ·by_cases g2:126<bt s k
      ·clear z
       go_wp2
       go_ret
       exact⟨zk (zdX A.out).symm,Below.refl _ _⟩
      ·by_cases J:bt s k=34
       ·have N:(bt s k==34)=true:=by rw[J];rfl
        clear z J
        go_wp2
        go_ret
        exact⟨zk (zdX A.out).symm,Below.refl _ _⟩
       ·have O:bt s k=92:=by
         rcases Classical.em (bt s k=92) with e|e
         ·exact e
         ·exact absurd ⟨by omega,by omega,J,e⟩ z
        have N:(bt s k==34)=false:=beq_eq_false_iff_ne.2 J
        have Z:(bt s k==92)=true:=by rw[O];rfl
        clear z J O
        go_wp2
        go_ret
        exact⟨zk (zdX A.out).symm,Below.refl _ _⟩
   ·have HY:Hid (zd3 s):=⟨U,fun j X=>H.out j (by omega)⟩
    go_wp2
    go_ret
    exact⟨zk (zjv HY.out).symm,Below.refl _ _⟩
 ·have A:Hid (¬zd3 s):=fun h=>U h.1
  go_enter Tryz.func70,Tryz.ntmps70
  go_wp2
  go_ret
  exact⟨zk (zdX A.out).symm,Below.refl _ _⟩
theorem zd5 (g len af:Nat) (Pt Tx:Nat→ByteArray) (w:World) (hf:FilesAt w (some ⟨g,0,none⟩) g 0 len Pt Tx) (hl:len≤1048576) (hp: ∀j,j<len→(Pt j).size≤1048576) (ht: ∀j,j<len→(Tx j).size≤1048576):
  Calls Tryz.prog 23 #[.slice (some ⟨g,0,none⟩) len af] w fun e w'=>e= .returned (.bool (zbs len Pt Tx))∧Below w.heap.size w w':=by
 by_cases aa:len≤8
 ·go_enter Tryz.func23,Tryz.ntmps23
  go_wp2
  go_loopw [3] (fun i wr=>∃k:Nat,k≤len∧i= .int .i64 k∧zd4 k Pt Tx∧Below w.heap.size w wr) (fun i _=>(len-intOf i).toNat)
  case atStart=>exact⟨0,by omega,rfl,fun j hj=>absurd hj (Nat.not_lt_zero j),Below.refl _ _⟩
  case round=>
   obtain⟨k,hk,rfl,ab,L⟩:=hrel
   have O:=zY ab
   clear ab
   by_cases J:k<len
   ·have U:=hf.later L
    have c0:=U.path k J
    have c1:=U.text k J
    rw[Nat.zero_add] at c0 c1
    have ag:=hp k J
    have ah:=ht k J
    have Y:=zY c0
    have Z:=zY c1
    have X: ∀d os,Calls Tryz.prog 70 #[.string (Pt k)] (grow (redrawn wr d) os) fun e V=>e= .returned (.bool (zcz (Pt k)))∧∃p:Regrown,V=grow (redrawn wr p.d) p.os:=fun d os=>Calls.regrown_of (zjF _ _ (by omega))
    have cT: ∀d os,Calls Tryz.prog 70 #[.string (Tx k)] (grow (redrawn wr d) os) fun e V=>e= .returned (.bool (zcz (Tx k)))∧∃p:Regrown,V=grow (redrawn wr p.d) p.os:=fun d os=>Calls.regrown_of (zjF _ _ (by omega))
    clear c0 c1
    cases h1:(Pt k).toList.isEmpty with
    |true=>
     have N:Hid (¬zcm len Pt Tx):=fun h=>by have:=(h.2 (k) J).1;rw[zbI,h1] at this;cases this
     go_wp2
     have k0:=cell_regrown Y.out
     have k1:=cell_regrown Z.out
     refine wp_region_quiet_below (by kernel_rfl) (by kernel_rfl) ?_
     repeat (go_big_quiet_step (first|with_reducible exact X _ _|with_reducible exact cT _ _))
     refine wpQuiet_nil ?_
     intro _ A
     obtain⟨⟨M,H⟩,z⟩:=A
     subst z
     have I:=L.trans ((below_regrown wr M H).mono L.size)
     go_wp2
     go_ret
     exact⟨zk (zdD N.out).symm,I⟩
    |false=>
     cases h2:zcz (Pt k) with
     |false=>
      have N:Hid (¬zcm len Pt Tx):=fun h=>by have:=(h.2 (k) J).1;rw[zbI,h1,h2] at this;cases this
      go_wp2
      have k0:=cell_regrown Y.out
      have k1:=cell_regrown Z.out
      refine wp_region_quiet_below (by kernel_rfl) (by kernel_rfl) ?_
      repeat (go_big_quiet_step (first|with_reducible exact X _ _|with_reducible exact cT _ _))
      refine wpQuiet_nil ?_
      intro _ A
      obtain⟨⟨M,H⟩,z⟩:=A
      subst z
      have I:=L.trans ((below_regrown wr M H).mono L.size)
      go_wp2
      go_ret
      exact⟨zk (zdD N.out).symm,I⟩
     |true=>
      cases h3:zcz (Tx k) with
      |false=>
       have N:Hid (¬zcm len Pt Tx):=fun h=>by have:=(h.2 (k) J).1;rw[zbI,h1,h2,h3] at this;cases this
       go_wp2
       have k0:=cell_regrown Y.out
       have k1:=cell_regrown Z.out
       refine wp_region_quiet_below (by kernel_rfl) (by kernel_rfl) ?_
       repeat (go_big_quiet_step (first|with_reducible exact X _ _|with_reducible exact cT _ _))
       refine wpQuiet_nil ?_
       intro _ A
       obtain⟨⟨M,H⟩,z⟩:=A
       subst z
       have I:=L.trans ((below_regrown wr M H).mono L.size)
       go_wp2
       go_ret
       exact⟨zk (zdD N.out).symm,I⟩
      |true=>
       have ac:zbI (Pt k) (Tx k)=true:=by rw[zbI,h1,h2,h3];rfl
       by_cases ae:k=0
       ·subst ae
        have HX:Hid (zd4 (0+1) Pt Tx):=zgh O.out ac (fun h=>absurd h (Nat.lt_irrefl _))
        go_wp2
        have k0:=cell_regrown Y.out
        have k1:=cell_regrown Z.out
        refine wp_region_quiet_below (by kernel_rfl) (by kernel_rfl) ?_
        repeat (go_big_quiet_step (first|with_reducible exact X _ _|with_reducible exact cT _ _))
        refine wpQuiet_nil ?_
        intro _ A
        obtain⟨⟨M,H⟩,z⟩:=A
        subst z
        have I:=L.trans ((below_regrown wr M H).mono L.size)
        go_wp2
        go_roundw
        case rel=>exact⟨0+1,by omega,by go_num,HX.out,I⟩
        case measure=>simp[intOf];omega
       ·obtain⟨m,rfl⟩: ∃m,k=m+1:=⟨k-1,by omega⟩
        have ez:((m+1:Nat):Int)=(m:Int)+1:=by omega
        have ai:decide ((0:Int)<((m+1:Nat):Int))=true:=decide_eq_true (by omega)
        have p0:=U.path m (by omega)
        rw[Nat.zero_add] at p0
        have P0:=zY p0
        clear p0
        cases ad:Op.bytesLess (Pt m).toList (Pt (m+1)).toList with
        |true=>
         have HX:Hid (zd4 (m+1+1) Pt Tx):=zgh O.out ac (fun _=>ad)
         go_wp2
         have k0:=cell_regrown Y.out
         have k1:=cell_regrown Z.out
         have k2:=cell_regrown P0.out
         refine wp_region_quiet_below (by kernel_rfl) (by kernel_rfl) ?_
         repeat (go_big_quiet_step (first|with_reducible exact X _ _|with_reducible exact cT _ _))
         refine wpQuiet_nil ?_
         intro _ A
         obtain⟨⟨M,H⟩,z⟩:=A
         subst z
         have I:=L.trans ((below_regrown wr M H).mono L.size)
         go_wp2
         go_roundw
         case rel=>exact⟨m+1+1,by omega,by go_num,HX.out,I⟩
         case measure=>simp[intOf];omega
        |false=>
         have N:Hid (¬zcm len Pt Tx):=fun h=>by have:=(h.2 (m+1) J).2 (by omega);rw[Nat.add_sub_cancel,ad] at this;cases this
         go_wp2
         have k0:=cell_regrown Y.out
         have k1:=cell_regrown Z.out
         have k2:=cell_regrown P0.out
         refine wp_region_quiet_below (by kernel_rfl) (by kernel_rfl) ?_
         repeat (go_big_quiet_step (first|with_reducible exact X _ _|with_reducible exact cT _ _))
         refine wpQuiet_nil ?_
         intro _ A
         obtain⟨⟨M,H⟩,z⟩:=A
         subst z
         have I:=L.trans ((below_regrown wr M H).mono L.size)
         go_wp2
         go_ret
         exact⟨zk (zdD N.out).symm,I⟩
   ·have HY:Hid (zcm len Pt Tx):=⟨aa,fun j hj=>O.out j (by omega)⟩
    go_wp2
    go_ret
    exact⟨zk (zjw HY.out).symm,L⟩
 ·have N:Hid (¬zcm len Pt Tx):=fun h=>aa h.1
  go_enter Tryz.func23,Tryz.ntmps23
  go_wp2
  go_ret
  exact⟨zk (zdD N.out).symm,Below.refl _ _⟩
theorem zgv (a s:ByteArray) (w:World) (_:s.size≤9223372036854775807) (_:a.size≤9223372036854775807):
  Calls Tryz.prog 69 #[.string a,.string s] w fun e w'=>e= .returned (.bool (zb7 a s))∧w'=w:=by
 by_cases h:a.size≤s.size
 ·have j:Hid (zb7 a s=((s.extract 0 a.size).toList==a.toList)):=by show zb7 a s=_;rw[zb7,decide_eq_true h,Bool.true_and]
  go_enter Tryz.func69,Tryz.ntmps69
  go_wp2
  go_ret
  exact⟨zk j.out.symm,rfl⟩
 ·have j:Hid (zb7 a s=false):=by show zb7 a s=_;rw[zb7,decide_eq_false h,Bool.false_and]
  go_enter Tryz.func69,Tryz.ntmps69
  go_wp2
  go_ret
  exact⟨zk j.out.symm,rfl⟩
def zjG (s:ByteArray):Nat→Nat
 |0=>0
 |k+1=>if bt s k=47 then k+1 else zjG s k
def zuK (f sp:ByteArray):ByteArray:=
 if zhq f=false then {data:=#[]} else if zb7 {data:=#[47]} sp=true then zfn sp
 else if zb7 {data:=#[46,47]} sp=false∧zb7 {data:=#[46,46,47]} sp=false then zfn ({data:=#[47,108,105,98,47]}++sp)
 else zfn (f.extract 0 (zjG f f.size)++sp)
theorem zeD {w w':World} {n d:Nat} (h:Below n w w'):Below n w (redrawn w' d):=⟨h.os,h.tape,h.output,h.size,h.block⟩
theorem zh4 (g len L:Nat) (Pt Tx:Nat→ByteArray) (s:ByteArray) (w:World) (hf:FilesAt w (some ⟨g,0,none⟩) g 0 len Pt Tx) (hl:len≤1048576) (U: ∀j,j<len→(Pt j).size≤1048576) (Z: ∀j,j<len→(Tx j).size≤1048576) (hs:s.size≤1048576):
  Calls Tryz.prog 22 #[.slice (some ⟨g,0,none⟩) len L,.string s] w fun e w'=>e= .returned (.string (zZ len Pt Tx s))∧Below w.heap.size w w':=by
 go_enter Tryz.func22,Tryz.ntmps22
 go_wp2
 go_loopw [5,6,7] (fun b i _ wr=>∃k:Nat,k≤len∧i= .int .i64 k∧b= .int .i64 (zdE (zac Pt s k))∧(k=0∨zbs len Pt Tx=true)∧Below w.heap.size w wr) (fun _ i _ _=>(len-intOf i).toNat)
 case atStart=>exact⟨0,Nat.zero_le _,rfl,rfl,.inl rfl,Below.refl _ _⟩
 case round=>
  obtain⟨k,hk,rfl,rfl,ae,J⟩:=hrel
  have ac:=zY ae
  clear ae
  by_cases I:k<len
  ·have z:=hf.later J
   cases H:zbs len Pt Tx with
   |false=>
    have HN:Hid (zZ len Pt Tx s=s):=zgm H
    obtain rfl:k=0:=by
     rcases ac.out with e|e
     ·exact e
     ·rw[H] at e;cases e
    rw[show zdE (zac Pt s 0)= -1 from rfl]
    go_wp2_with (go_at_call 23;refine (zd5 g len L Pt Tx _ z hl U Z).mono ?_;rintro e w2 ⟨rfl,h⟩;rw[H])
    have HE:=zY (J.trans (h.mono J.size))
    go_quiet (fail)
    go_wp2
    go_ret
    exact⟨za1 HN.out.symm,zeD HE.out⟩
   |true=>
    have af:=zhw H I
    have M:=z.path k I
    rw[Nat.zero_add] at M
    have ag:=U k I
    have gb:=get_bt (Pt k) ((Pt k).size-1)
    have ez:((Pt k).size:Int)-1=((Pt k).size-1:Nat):=by omega
    cases e1:((Pt k).toList==s.toList) with
    |true=>
     have HH:Hid (zaU (Pt k) s=true):=by show _=_;rw[zaU,e1];rfl
     cases A:zac Pt s k with
     |none=>
      have O:Hid (zac Pt s (k+1)=some k):=zgj HH.out A
      rw[show zdE none= -1 from rfl]
      go_wp2_with (go_at_call 23;refine (zd5 g len L Pt Tx _ z hl U Z).mono ?_;rintro e w2 ⟨rfl,h⟩;rw[H];replace M:=(h.cell (z.lt (by omega))).trans M;have N:=zY (J.trans (h.mono J.size));clear h)
      go_roundw
      case rel=>exact⟨k+1,I,by go_num,by rw[O.out];rfl,.inr trivial,N.out⟩
      case measure=>simp[intOf];omega
     |some b=>
      have V:=(zdY A).1
      have X:=z.path b (by omega)
      rw[Nat.zero_add] at X
      have ad:=U b (by omega)
      rw[show zdE (some b)=(b:Int) from rfl]
      have hm:decide ((b:Int)<0)=false:=decide_eq_false (by omega)
      by_cases Y:(Pt b).size<(Pt k).size
      ·have O:Hid (zac Pt s (k+1)=some k):=zgk HH.out A Y
       go_wp2_with (go_at_call 23;refine (zd5 g len L Pt Tx _ z hl U Z).mono ?_;rintro e w2 ⟨rfl,h⟩;rw[H];replace M:=(h.cell (z.lt (by omega))).trans M;replace X:=(h.cell (z.lt (by omega))).trans X;have N:=zY (J.trans (h.mono J.size));clear h)
       go_roundw
       case rel=>exact⟨k+1,I,by go_num,by rw[O.out];rfl,.inr trivial,N.out⟩
       case measure=>simp[intOf];omega
      ·have O:Hid (zac Pt s (k+1)=some b):=zht HH.out A Y
       go_wp2_with (go_at_call 23;refine (zd5 g len L Pt Tx _ z hl U Z).mono ?_;rintro e w2 ⟨rfl,h⟩;rw[H];replace M:=(h.cell (z.lt (by omega))).trans M;replace X:=(h.cell (z.lt (by omega))).trans X;have N:=zY (J.trans (h.mono J.size));clear h)
       go_roundw
       case rel=>exact⟨k+1,I,by go_num,by rw[O.out];rfl,.inr trivial,N.out⟩
       case measure=>simp[intOf];omega
    |false=>
     cases e2:(bt (Pt k) ((Pt k).size-1)==47) with
     |false=>
      have O:Hid (zac Pt s (k+1)=zac Pt s k):=zgi (by rw[zaU,e1,e2];rfl)
      go_wp2_with (go_at_call 23;refine (zd5 g len L Pt Tx _ z hl U Z).mono ?_;rintro e w2 ⟨rfl,h⟩;rw[H];replace M:=(h.cell (z.lt (by omega))).trans M;have N:=zY (J.trans (h.mono J.size));clear h)
      go_roundw
      case rel=>exact⟨k+1,I,by go_num,by rw[O.out],.inr trivial,N.out⟩
      case measure=>simp[intOf];omega
     |true=>
      cases e3:zb7 (Pt k) s with
      |false=>
       have O:Hid (zac Pt s (k+1)=zac Pt s k):=zgi (by rw[zaU,e1,e2,e3];rfl)
       go_wp2_with (first|(go_at_call 23;refine (zd5 g len L Pt Tx _ z hl U Z).mono ?_;rintro e w2 ⟨rfl,h⟩;rw[H];replace M:=(h.cell (z.lt (by omega))).trans M;have N:=zY (J.trans (h.mono J.size));clear h)|(go_at_call 69;refine (zgv (Pt k) s _ (by omega) (by omega)).mono ?_;rintro e w' ⟨rfl,rfl⟩;rw[e3]))
       go_roundw
       case rel=>exact⟨k+1,I,by go_num,by rw[O.out],.inr trivial,N.out⟩
       case measure=>simp[intOf];omega
      |true=>
       have HH:Hid (zaU (Pt k) s=true):=by show _=_;rw[zaU,e1,e2,e3];rfl
       cases A:zac Pt s k with
       |none=>
        have O:Hid (zac Pt s (k+1)=some k):=zgj HH.out A
        rw[show zdE none= -1 from rfl]
        go_wp2_with (first|(go_at_call 23;refine (zd5 g len L Pt Tx _ z hl U Z).mono ?_;rintro e w2 ⟨rfl,h⟩;rw[H];replace M:=(h.cell (z.lt (by omega))).trans M;have N:=zY (J.trans (h.mono J.size));clear h)|(go_at_call 69;refine (zgv (Pt k) s _ (by omega) (by omega)).mono ?_;rintro e w' ⟨rfl,rfl⟩;rw[e3]))
        go_roundw
        case rel=>exact⟨k+1,I,by go_num,by rw[O.out];rfl,.inr trivial,N.out⟩
        case measure=>simp[intOf];omega
       |some b=>
        have V:=(zdY A).1
        have X:=z.path b (by omega)
        rw[Nat.zero_add] at X
        have ad:=U b (by omega)
        rw[show zdE (some b)=(b:Int) from rfl]
        have hm:decide ((b:Int)<0)=false:=decide_eq_false (by omega)
        by_cases Y:(Pt b).size<(Pt k).size
        ·have O:Hid (zac Pt s (k+1)=some k):=zgk HH.out A Y
         go_wp2_with (first|(go_at_call 23;refine (zd5 g len L Pt Tx _ z hl U Z).mono ?_;rintro e w2 ⟨rfl,h⟩;rw[H];replace M:=(h.cell (z.lt (by omega))).trans M;replace X:=(h.cell (z.lt (by omega))).trans X;have N:=zY (J.trans (h.mono J.size));clear h)|(go_at_call 69;refine (zgv (Pt k) s _ (by omega) (by omega)).mono ?_;rintro e w' ⟨rfl,rfl⟩;rw[e3]))
         go_roundw
         case rel=>exact⟨k+1,I,by go_num,by rw[O.out];rfl,.inr trivial,N.out⟩
         case measure=>simp[intOf];omega
        ·have O:Hid (zac Pt s (k+1)=some b):=zht HH.out A Y
         go_wp2_with (first|(go_at_call 23;refine (zd5 g len L Pt Tx _ z hl U Z).mono ?_;rintro e w2 ⟨rfl,h⟩;rw[H];replace M:=(h.cell (z.lt (by omega))).trans M;replace X:=(h.cell (z.lt (by omega))).trans X;have N:=zY (J.trans (h.mono J.size));clear h)|(go_at_call 69;refine (zgv (Pt k) s _ (by omega) (by omega)).mono ?_;rintro e w' ⟨rfl,rfl⟩;rw[e3]))
         go_roundw
         case rel=>exact⟨k+1,I,by go_num,by rw[O.out];rfl,.inr trivial,N.out⟩
         case measure=>simp[intOf];omega
  ·obtain rfl:k=len:=by omega
   cases A:zac Pt s k with
   |none=>
    have HN:Hid (zZ k Pt Tx s=s):=zgn A
    rw[show zdE none= -1 from rfl]
    go_wp2
    go_quiet (fail)
    go_wp2
    go_ret
    exact⟨za1 HN.out.symm,zeD J⟩
   |some b=>
    have z:=hf.later J
    have aa:=zdY A
    have ah:=zgl aa.2
    have V:=aa.1
    have X:=z.path b V
    have p1:=z.text b V
    rw[Nat.zero_add] at X p1
    have ad:=U b V
    have ai:=Z b V
    have H:zbs k Pt Tx=true:=by
     rcases ac.out with e|e
     ·omega
     ·exact e
    rw[show zdE (some b)=(b:Int) from rfl]
    have hm:decide ((b:Int)<0)=false:=decide_eq_false (by omega)
    by_cases ab:40<((Tx b).size:Int)+s.size-(Pt b).size
    ·have HN:Hid (zZ k Pt Tx s=s):=zhu A ab
     clear H aa A
     go_wp2
     go_quiet (fail)
     go_wp2
     go_ret
     exact⟨za1 HN.out.symm,zeD J⟩
    ·have HN:Hid (zZ k Pt Tx s=Tx b++s.extract (Pt b).size s.size):=zhv H A ab
     clear H aa A
     go_wp2
     go_quiet (fail)
     go_wp2
     go_quiet (fail)
     go_wp2
     go_ret
     exact⟨za1 HN.out.symm,zeD (zeD J)⟩
def inL (l:List ByteArray) (s:ByteArray):Bool:=l.any fun x=>x.toList==s.toList
def twB (l:List ByteArray):Bool:=(List.range l.length).any fun i=>inL (l.take i) (l.getD i sNone)
theorem zpY {l:List ByteArray} {s:ByteArray} {k:Nat} (j:k<l.length) (h:((l.getD k sNone).toList==s.toList)=true):inL l s=true:=by
 rw[inL,List.any_eq_true]
 exact⟨l[k],List.getElem_mem j,by simpa [List.getD,List.getElem?_eq_getElem j] using h⟩
theorem zpZ {l:List ByteArray} {s:ByteArray} (h: ∀j,j<l.length→((l.getD j sNone).toList==s.toList)=false):inL l s=false:=by
 rw[inL,List.any_eq_false]
 intro x z
 obtain⟨j,w,rfl⟩:=List.mem_iff_getElem.1 z
 have:=h j w
 simpa [List.getD,List.getElem?_eq_getElem w] using this
abbrev zjH (w:World) (a:Option Addr) (l:List ByteArray):Prop:=RowAt w a (fun x=>[Value.string x]) 1 l
theorem RowAt.take {α:Type} {f:α→List Value} {m:Nat} {w:World} {a:Option Addr} {l:List α} (h:RowAt w a f m l) (k:Nat):RowAt w a f m (l.take k):=by
 rcases h with rfl|⟨b,H,I,A,J⟩
 ·exact .inl (List.take_nil)
 ·refine .inr ⟨b,H,I,A,fun j x z=>?_⟩
  rw[List.getElem?_take] at z
  split at z
  ·exact J j x z
  ·cases z
theorem zqa (a:Option Addr) (I n:Nat) (l:List ByteArray) (s:ByteArray) (w:World) (V:n=l.length) (O:zjH w a l) (hl:n≤1048576):
  Calls Tryz.prog 48 #[.slice a n I,.string s] w fun e w'=>e= .returned (.bool (inL l s))∧w'=w:=by
 have Z:=zc O
 have U:=zc V
 clear O V
 go_enter Tryz.func48,Tryz.ntmps48
 go_wp2
 go_loop [5] (fun i=>∃k:Nat,k≤n∧i= .int .i64 k∧(∀j,j<k→((l.getD j sNone).toList==s.toList)=false)) (fun i=>(n-intOf i).toNat)
 case atStart=>exact⟨0,by omega,rfl,fun j L=>absurd L (Nat.not_lt_zero j)⟩
 case round=>
  obtain⟨k,hk,rfl,A⟩:=hrel
  have H:=zc A
  clear A
  by_cases Y:k<n
  ·have z:k<l.length:=by have:=U.out;omega
   obtain⟨x,J⟩: ∃x,l[k]? =some x:=⟨_,List.getElem?_eq_getElem z⟩
   obtain⟨b,aa,rfl,X⟩:=Z.out.get J
   have h:l.getD k sNone=x:=by simp[List.getD,J]
   have c0:=X 0 _ rfl
   simp only[Nat.add_zero,Nat.mul_one] at c0
   clear X J
   cases N:(x.toList==s.toList) with
   |true=>
    have M:Hid (inL l s=true):=zpY (k:=k) z (by rw[h];exact N)
    clear h z
    go_wp2
    go_ret
    exact⟨zk M.out.symm,rfl⟩
   |false=>
    have HX:Hid (∀j,j<k+1→((l.getD j sNone).toList==s.toList)=false):=fun j L=>by
     by_cases e:j=k
     ·rw[e,h];exact N
     ·exact H.out j (by omega)
    clear h z
    go_wp2
    go_round
    case rel=>exact⟨k+1,by omega,by go_num,HX.out⟩
    case measure=>simp[intOf];omega
  ·have M:Hid (inL l s=false):=zpZ fun j L=>H.out j (by have:=U.out;omega)
   go_wp2
   go_ret
   exact⟨zk M.out.symm,rfl⟩
end Go.Proofs.YtjdddblpfbmpaaaGreat
