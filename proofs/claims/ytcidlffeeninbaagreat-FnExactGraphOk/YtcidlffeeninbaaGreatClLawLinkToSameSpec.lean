/-
  The laws' size counters,makers and comparers of Links: the walks; and what is known of a Link that came in.
  What the laws' toMod answers: the walk.
  What importedName and importList of impl's parser answer: the walks.
  The laws' size counters and makers of graphs: the walks.
  The laws' makers of graphs: the walks.
  The laws' maker of a graph: the walk.
  A program that is small has a text that is small. No program is spoken of.
  When a graph is right,by the specification's words and by the program's; both are the same.
  What l4Same of the specification answers,the model's != handed in: the walk.
-/
import Derived.Test.YtcidlffeeninbaaGreatClLawBaseToLawModEq
import Derived.Test.YtcidlffeeninbaaGreatClSrcMod
import Derived.Test.YtcidlffeeninbaaGreatClTwoModToFileMath
namespace Go.Proofs.YtcidlffeeninbaaGreat
set_option maxHeartbeats 12800000
set_option maxRecDepth 100000
open Go.RowKit Go.PlainAid Go.Sort Go.Deep
def lkL (l:Lk):List Value:=[.int .i64 l.frm,.string l.spec,.int .i64 l.to]
def zem (x:Lk):Nat:=x.spec.size
def zen (x:Lk):Prop:=x.spec.size≤9223372036854775807
theorem zpC (x:Lk) (left:Int) (w:World) (z:zen x) (D:0≤left) (A:left≤1048576):
  Calls Tryz.prog 29 #[.agg #[.int .i64 x.frm,.string x.spec,.int .i64 x.to],.int .i64 left] w fun e q=>zcn left (zem x) e∧Below w.heap.size w q:=by
 unfold zen at z
 go_enter Tryz.func29,Tryz.ntmps29
 go_wp2
 ·go_ret
  exact⟨⟨-1,rfl,by omega,by omega,fun h=>by omega⟩,(Below.refl _ _).alloc (Nat.le_refl _) _⟩
 ·go_ret
  exact⟨⟨_,rfl,by omega,by omega,fun _=>by unfold zem;omega⟩,(Below.refl _ _).alloc (Nat.le_refl _) _⟩
theorem zpD (a:Option Addr) (aa:Nat) (l:List Lk) (left:Int) (w:World) (hr:RowAt w a lkL 3 l) (hl:l.length≤9223372036854775807) (A: ∀x∈l,zen x) (h0:0≤left) (h1:left≤1048576):
  Calls Tryz.prog 11 #[.slice a l.length aa,.int .i64 left] w fun e w'=>zcn left (l.length+zE zem l) e∧Below w.heap.size w w':=by
 have HR:=zc hr
 have HG:=zc A
 clear hr A
 by_cases ad:(l.length:Int)≤left
 case neg=>
  go_enter Tryz.func11,Tryz.ntmps11
  go_wp2
  go_ret
  exact⟨⟨-1,rfl,by omega,by omega,fun h=>by omega⟩,Below.refl _ _⟩
 go_enter Tryz.func11,Tryz.ntmps11
 go_wp2
 go_loopg [1,5] l.length (fun k s1 s5 wr=>∃(j:Nat) (z:Int),s5= .int .i64 j∧s1= .int .i64 z∧j+k=l.length∧0≤z∧z≤left∧z+((l.length+zE zem (l.take j):Nat):Int)=left∧Below w.heap.size w wr)
 case atStart=>exact⟨0,_,rfl,rfl,by omega,by omega,by omega,by simp[zE],Below.refl _ _⟩
 case round=>
  obtain⟨j,z,rfl,rfl,hj,Z,Y,D,A⟩:=hrel
  have HZ:=zc D
  have M:=zc A
  clear D A
  by_cases V:j<l.length
  ·have H:(j:Int)<(l.length:Int):=by omega
   obtain⟨x,N⟩: ∃x,l[j]? =some x:=⟨_,List.getElem?_eq_getElem V⟩
   obtain⟨b,ae,rfl,O⟩:=(HR.out.later M.out).get N
   have q:=HG.out x (List.mem_of_getElem? N)
   have HC:=zc (zeg zem N)
   have c0:=O 0 _ rfl
   have c1:=O 1 _ rfl
   have c2:=O 2 _ rfl
   simp only[Nat.add_zero] at c0
   clear O N
   obtain⟨U,E⟩: ∃U,U=j+1:=⟨_,rfl⟩
   have ej:(j:Int)+1=(U:Int):=by omega
   have HJ:=zc E
   clear E
   go_wp2_with fail
   refine (zpC x z _ q Z (by omega)).mono ?_
   rintro e w1 ⟨⟨z1,rfl,ab,ac,L⟩,K⟩
   have J:=zc (M.out.trans (K.mono M.out.size))
   have X:=zc L
   clear K L q c0 c1 c2
   by_cases I:0≤z1
   ·go_wp2
    go_roundg (gk-1)
    case rel=>exact⟨U,z1,rfl,rfl,by have:=HJ.out;omega,I,by omega,by have:=HZ.out;have:=X.out I;rw[HJ.out,HC.out];omega,J.out⟩
    case measure=>omega
   ·go_wp2
    go_ret
    exact⟨⟨-1,rfl,by omega,by omega,fun h=>by omega⟩,J.out⟩
  ·have H: ¬(j:Int)<(l.length:Int):=by omega
   obtain rfl:j=l.length:=by omega
   go_wp2
   go_ret
   exact⟨⟨z,rfl,by omega,Y,fun _=>by have:=HZ.out;rw[List.take_length] at this;exact this⟩,M.out⟩
theorem Tryz.infoTLk:(Tryz.prog.info? 51).map (fun i=>(i.zero,i.size,i.bytes))=some (some (.agg #[.int .i64 0,.string {data:=#[]},.int .i64 0]),3,32):=by kernel_rfl
theorem zpE (x:Lk) (w:World):
  Calls Tryz.prog 38 #[.agg #[.int .i64 x.frm,.string x.spec,.int .i64 x.to]] w fun e h=>e= .returned (.agg #[.int .i64 x.frm,.string x.spec,.int .i64 x.to])∧Below w.heap.size w h:=by
 go_enter Tryz.func38,Tryz.ntmps38
 go_wp2
 refine bodyPost_ret (results_cell_row rfl _ _ (w.heap.size+1) 51 #[.int .i64 x.frm,.string x.spec,.int .i64 x.to] (0,0) _ rfl ?_ Tryz.underlying51 rfl (by kernel_rfl)) rfl ?_
 ·rw[heap_alloc_old _ _ (by show _<((w.heap.push _).push _).size;simp)]
  exact heap_alloc2_new w _ _
 ·exact⟨rfl,(((Below.refl _ _).alloc (Nat.le_refl _) _).alloc (by show _≤(w.heap.push _).size;simp) _).alloc (by show _≤((w.heap.push _).push _).size;simp;omega) _⟩
theorem zpF (a:Option Addr) (ad:Nat) (l:List Lk) (w:World) (hr:RowAt w a lkL 3 l) (hl:l.length≤1048576):
  Calls Tryz.prog 20 #[.slice a l.length ad] w fun e w'=>zeJ w 51 3 l.length (l.flatMap lkL) e w':=by
 have HR:=zc hr
 clear hr
 obtain⟨i0,hi,Z,X,V⟩:=info_parts Tryz.infoTLk
 go_enter Tryz.func20,Tryz.ntmps20
 go_wp2_with (first|(at_make;refine wpList_make_full w rfl _ _ 30 rfl w.heap.size 51 i0 _ 3 Tryz.underlying30 hi Z X .i64 .i64 _ _ l.length (by rfl) (by rfl) rfl rfl (by rw[V];omega) (by unfold maxLen;omega) (Nat.le_refl _) ?_))
 intro w1 z A
 have ab:=zc ((Below.refl _ _).grown A (Nat.le_refl _) (fun k h=>by cases h):Below w.heap.size w w1)
 have E:Hid (OwnC w1 w.heap.size 51 3 w.heap.size l.length (l.flatMap lkL) 0):=⟨_,z,fun j hj=>absurd hj (Nat.not_lt_zero j)⟩
 clear z A
 obtain⟨g,I⟩: ∃g,g=w.heap.size:=⟨_,rfl⟩
 have ae:=zc I
 rw[←I]
 rw[←I] at E
 have ac:Hid (OwnC w1 w.heap.size 51 3 g l.length (l.flatMap lkL) 0):=by rw[←I];exact E.out
 clear I E
 go_wp2
 go_loopg [4] l.length (fun k i wr=>∃j:Nat,i= .int .i64 j∧j+k=l.length∧OwnC wr w.heap.size 51 3 g l.length (l.flatMap lkL) (j*3)∧Below w.heap.size w wr)
 case atStart=>exact⟨0,rfl,by omega,ac.out,ab.out⟩
 case round=>
  obtain⟨j,rfl,hj,ho,hb⟩:=hrel
  have HO:=zc ho
  have L:=zc hb
  clear ho hb
  by_cases O:j<l.length
  ·have J:(j:Int)<(l.length:Int):=by omega
   obtain⟨x,U⟩: ∃x,l[j]? =some x:=⟨_,List.getElem?_eq_getElem O⟩
   obtain⟨b,af,rfl,M⟩:=(HR.out.later L.out).get U
   have Y:=zc U
   clear U
   have c0:=M 0 _ rfl
   have c1:=M 1 _ rfl
   have c2:=M 2 _ rfl
   simp only[Nat.add_zero] at c0
   clear M
   obtain⟨N,K⟩: ∃N,N=j+1:=⟨_,rfl⟩
   have ej:(j:Int)+1=(N:Int):=by omega
   have HJ:=zc K
   clear K
   go_wp2_with fail
   refine (zpE x _).mono ?_
   rintro e w2 ⟨rfl,H⟩
   have q:=zc (HO.out.later H)
   have aa:=zc (L.out.trans (H.mono L.out.size))
   clear H c0 c1 c2
   obtain⟨v0,g0⟩:=q.out.has (j*3) (by omega)
   have f0:=q.out.free (j*3)
   obtain⟨v1,g1⟩:=q.out.has (j*3+1) (by omega)
   have f1:=q.out.free (j*3+1)
   obtain⟨v2,g2⟩:=q.out.has (j*3+2) (by omega)
   have f2:=q.out.free (j*3+2)
   have HN:=zc (((q.out.put (by omega) (zbr (f:=lkL) (m:=3) (fun _=>rfl) l j x 0 _ Y.out rfl)).put (by omega) (zbr (f:=lkL) (m:=3) (fun _=>rfl) l j x 1 _ Y.out rfl)).put (by omega) (zbr (f:=lkL) (m:=3) (fun _=>rfl) l j x 2 _ Y.out rfl))
   have D:w.heap.size≤g:=by have:=ae.out;omega
   go_wp2
   go_roundg (gk-1)
   case rel=>exact⟨N,rfl,by have:=HJ.out;omega,by rw[HJ.out,Nat.succ_mul];exact HN.out,(((aa.out.setCell D _).setCell D _).setCell D _)⟩
   case measure=>omega
  ·have J: ¬(j:Int)<(l.length:Int):=by omega
   obtain rfl:j=l.length:=by omega
   go_wp2
   go_ret
   exact⟨g,rfl,HO.out.all (zdF (f:=lkL) (fun _=>rfl) l),L.out⟩
theorem zpG (x:Lk) (w:World):Calls Tryz.prog 47 #[.agg #[.int .i64 x.frm,.string x.spec,.int .i64 x.to],.agg #[.int .i64 x.frm,.string x.spec,.int .i64 x.to]] w fun e h=>e= .returned (.bool true)∧Below w.heap.size w h:=by
 go_enter Tryz.func47,Tryz.ntmps47
 go_wp2
 go_ret
 exact⟨rfl,((Below.refl _ _).alloc (Nat.le_refl _) _).alloc (by show _≤(w.heap.push _).size;simp) _⟩
theorem zpH (D A:Option Addr) (z h:Nat) (w:World):Calls Tryz.prog 27 #[.slice D 0 z,.slice A 0 h] w fun e q=>e= .returned (.bool true)∧Below w.heap.size w q:=by
 go_enter Tryz.func27,Tryz.ntmps27
 go_wp2
 go_loopg [5] 1 (fun k i wr=>k=1∧i= .int .i64 0∧wr=w)
 case atStart=>exact⟨rfl,rfl,rfl⟩
 case round=>
  obtain⟨rfl,rfl,rfl⟩:=hrel
  go_wp2
  go_ret
  exact⟨rfl,Below.refl _ _⟩
theorem zpI (b1 b2 X J:Nat) (V U:Rw) (l:List Lk) (w:World) (z:OwnR w b1 51 3 V l.length (l.flatMap lkL)) (q:OwnR w b2 51 3 U l.length (l.flatMap lkL)) (e1:V.a=some ⟨X,0,none⟩) (e2:U.a=some ⟨J,0,none⟩) (hl:l.length≤4294967296):
  Calls Tryz.prog 27 #[.slice (some ⟨X,0,none⟩) l.length V.cap,.slice (some ⟨J,0,none⟩) l.length U.cap] w fun e w'=>e= .returned (.bool true)∧Below w.heap.size w w':=by
 have H1:=zc z
 have H2:=zc q
 have E1:=zc e1
 have E2:=zc e2
 clear z q e1 e2
 go_enter Tryz.func27,Tryz.ntmps27
 go_wp2
 go_loopg [5] l.length (fun k i wr=>∃j:Nat,i= .int .i64 j∧j+k=l.length∧Below w.heap.size w wr)
 case atStart=>exact⟨0,rfl,by omega,Below.refl _ _⟩
 case round=>
  obtain⟨j,rfl,hj,hb⟩:=hrel
  have A:=zc hb
  clear hb
  by_cases K:j<l.length
  ·have D:(j:Int)<(l.length:Int):=by omega
   obtain⟨x,L⟩:=zel K
   obtain⟨I,ga,z⟩:=OwnR.elem (f:=lkL) (m:=3) (fun _=>rfl) (H1.out.keep fun k g=>A.out.block k (H1.out.typed g).2.1) L
   obtain rfl:I=X:=by have:=ga.symm.trans E1.out;simpa using this
   obtain⟨I,gb,q⟩:=OwnR.elem (f:=lkL) (m:=3) (fun _=>rfl) (H2.out.keep fun k g=>A.out.block k (H2.out.typed g).2.1) L
   obtain rfl:I=J:=by have:=gb.symm.trans E2.out;simpa using this
   have C0:=zc (z 0 (by omega))
   have D0:=zc (q 0 (by omega))
   have C1:=zc (z 1 (by omega))
   have D1:=zc (q 1 (by omega))
   have C2:=zc (z 2 (by omega))
   have D2:=zc (q 2 (by omega))
   clear z q ga gb L
   have cQ: ∀d os,Calls Tryz.prog 47 #[.agg #[.int .i64 x.frm,.string x.spec,.int .i64 x.to],.agg #[.int .i64 x.frm,.string x.spec,.int .i64 x.to]] (grow (redrawn wr d) os) fun e O=>e= .returned (.bool true)∧∃p:Regrown,O=grow (redrawn wr p.d) p.os:=fun d os=>Calls.regrown_of (zpG x _)
   obtain⟨H,E⟩: ∃H,H=j+1:=⟨_,rfl⟩
   have ej:(j:Int)+1=(H:Int):=by omega
   have HJ:=zc E
   clear E
   go_wp2
   have k0:=cell_regrown C0.out
   have Z:=cell_regrown D0.out
   have k1:=cell_regrown C1.out
   have l1:=cell_regrown D1.out
   have k2:=cell_regrown C2.out
   have l2:=cell_regrown D2.out
   simp only[Nat.add_zero] at k0 Z
   refine wp_region_quiet_below (by kernel_rfl) (by kernel_rfl) ?_
   repeat (go_big_quiet_step (exact cQ _ _))
   refine wpQuiet_nil ?_
   intro w2 M
   obtain⟨⟨dq,Y⟩,h⟩:=M
   have N:Hid (Below w.heap.size w w2):=by show Below _ _ _;rw[h];exact A.out.trans ((below_regrown wr dq Y).mono A.out.size)
   clear h k0 Z C0 D0 k1 l1 C1 D1 k2 l2 C2 D2 cQ
   go_wp2
   go_roundg (gk-1)
   case rel=>exact⟨H,rfl,by have:=HJ.out;omega,N.out⟩
   case measure=>omega
  ·have D: ¬(j:Int)<(l.length:Int):=by omega
   go_wp2
   go_ret
   exact⟨rfl,A.out⟩
theorem zpJ (H b2:Nat) (q h:Rw) (l:List Lk) (w:World) (A:OwnR w H 51 3 q l.length (l.flatMap lkL)) (D:OwnR w b2 51 3 h l.length (l.flatMap lkL)) (J:l.length≤4294967296):
  Calls Tryz.prog 27 #[.slice q.a l.length q.cap,.slice h.a l.length h.cap] w fun e K=>e= .returned (.bool true)∧Below w.heap.size w K:=by
 by_cases z:l.length=0
 ·rw[z]
  exact zpH _ _ _ _ w
 ·rcases A.nil_or with ⟨_,_,e⟩|⟨M,I⟩
  ·exact absurd e z
  ·rcases D.nil_or with ⟨_,_,e⟩|⟨L,E⟩
   ·exact absurd e z
   ·rw[I,E]
    exact zpI H b2 M L q h l w A D I E J
theorem zpK {H:Type} {enc:TypeId×Value→H} {w:World} {z:Nat} {q:Nat→Bool} {A:Bool} {n:Nat} {N:List Value} {y:DataW H×List MemPlace} (h:DataW.trod enc Tryz.prog w z q A n 72 N=some y) (hl:N.length=3): ∃x:Lk,N=lkL x∧zen x:=by
 obtain⟨xs,k,_,_,_,M,O⟩:=DataW.trod_struct Tryz.underlying72 h
 have cS:Tryz.prog.cellsOf 9=1:=by kernel_rfl
 have V:Tryz.prog.cellsOf 3=1:=by kernel_rfl
 obtain⟨D,I,K,rfl⟩:=list3 hl
 obtain⟨U,y1,y2,rfl⟩:=list3 (M.trans rfl)
 have J:DataW.trod enc Tryz.prog w z q A k 3 (List.take (Tryz.prog.cellsOf 3) (List.drop 0 [D,I,K]))=some U:=O 0 _ rfl
 rw[V] at J
 replace J:DataW.trod enc Tryz.prog w z q A k 3 [D]=some U:=J
 have L:DataW.trod enc Tryz.prog w z q A k 9 (List.take (Tryz.prog.cellsOf 9) (List.drop 1 [D,I,K]))=some y1:=O 1 _ rfl
 rw[cS] at L
 replace L:DataW.trod enc Tryz.prog w z q A k 9 [I]=some y1:=L
 have E:DataW.trod enc Tryz.prog w z q A k 3 (List.take (Tryz.prog.cellsOf 3) (List.drop 2 [D,I,K]))=some y2:=O 2 _ rfl
 rw[V] at E
 replace E:DataW.trod enc Tryz.prog w z q A k 3 [K]=some y2:=E
 obtain⟨s0,X,_,z0⟩:=DataW.trod_int Tryz.underlying3 J
 simp only[List.cons.injEq,and_true] at X
 subst X
 obtain⟨s1,Z,_,z1⟩:=DataW.trod_string Tryz.underlying9 L
 simp only[List.cons.injEq,and_true] at Z
 subst Z
 obtain⟨s2,Y,_,z2⟩:=DataW.trod_int Tryz.underlying3 E
 simp only[List.cons.injEq,and_true] at Y
 subst Y
 refine⟨⟨s0,s1,s2⟩,rfl,?_⟩
 unfold zen
 unfold maxLen at z1
 show _≤_
 omega
theorem zka (l:List ByteArray):l.map Value.string=l.flatMap (fun x=>[Value.string x]):=by
 induction l with
 |nil=>rfl
 |cons x l h=>rw[List.map_cons,List.flatMap_cons,h];rfl
def zpL (w:World) (m:Md) (e:Ending) (w':World):Prop:=∃S,e= .returned (zn S m)∧OwnMd w' w.heap.size S m∧Below w.heap.size w w'
theorem zbs {w:World} {q size n c i:Nat} {e:TypeId} {r:Rw} {xs:List Value} {u:Value} {H:Array Value} (h:OwnR w q e size r n xs) (D:w.heap[c]? =some (.cells H 48 (0,0))) (I:e≠48):OwnR (w.setCell ⟨c,i,none⟩ u) q e size r n xs:=
 h.keep fun k g=>heap_setCell_other w ⟨c,i,none⟩ k u fun A=>by
  obtain⟨_,_,E,z⟩:=h.typed g
  simp only at A
  rw[A,D] at z
  simp only[Option.some.injEq,Obj.cells.injEq] at z
  exact I z.2.1.symm
abbrev zpM (w:World) (b:Nat) (x0 x1 x2 x3 x4:Value):World:=((((w.setCell ⟨b,0,none⟩ x0).setCell ⟨b,1,none⟩ x1).setCell ⟨b,2,none⟩ x2).setCell ⟨b,3,none⟩ x3).setCell ⟨b,4,none⟩ x4
theorem zf1 {w:World} {q size n c:Nat} {e:TypeId} {r:Rw} {xs:List Value} {N V O U X I L J K Y:Value} (h:OwnR w q e size r n xs) (A:w.heap[c]? =some (.cells #[N,V,O,U,X] 48 (0,0))) (z:e≠48):OwnR (zpM w c I L J K Y) q e size r n xs:=by
 have H:=zag (i:=0) (u:=I) A
 have D:=zag (i:=1) (u:=L) H
 have E:=zag (i:=2) (u:=J) D
 have M:=zag (i:=3) (u:=K) E
 exact zbs (zbs (zbs (zbs (zbs h A z) H z) D z) E z) M z
theorem zpN (A:MA) (m:Md) (w:World) (hr:ModIn w A m) (f1:m.rq.length≤1048576) (f2:m.im.length≤1048576) (f3:m.ep.length≤1048576) (f4:m.st.length≤1048576) (f5:m.ex.length≤1048576):
  Calls Tryz.prog 37 #[zfz A m] w fun e w'=>zpL w m e w':=by
 have HR:=zc hr
 clear hr
 unfold zfz
 go_enter Tryz.func37,Tryz.ntmps37
 go_upto_region 2 with fail
 obtain⟨z,ab⟩: ∃z,z=w.heap.size:=⟨_,rfl⟩
 rw[←ab]
 refine zx (R:=(fun W=>W.heap[z]? =some (.cells #[.slice A.a0 m.rq.length A.c0,.slice A.a1 m.im.length A.c1,.slice A.a2 m.ep.length A.c2,.slice A.a3 m.st.length A.c3,.slice A.a4 m.ex.length A.c4] 70 (0,0))∧W.heap[z+1]? =some (.cells #[.slice none 0 0,.slice none 0 0,.slice none 0 0,.slice none 0 0,.slice none 0 0] 48 (0,0))∧W.heap[z+2]? =some (.cells #[.slice none 0 0,.slice none 0 0,.slice none 0 0,.slice none 0 0,.slice none 0 0] 48 (0,0))∧Below w.heap.size w W)) ?_ ?_
 ·rw[ab]
  refine⟨?_,?_,?_,?_⟩
  ·rw[heap_alloc_old _ _ (by show _<((w.heap.push _).push _).size;simp;omega),heap_alloc_old _ _ (by show _<(w.heap.push _).size;simp)]
   exact heap_alloc_new w _
  ·rw[heap_alloc_old _ _ (by show _<((w.heap.push _).push _).size;simp)]
   exact heap_alloc2_new w _ _
  ·have:=heap_alloc_new ((w.alloc (.cells #[.slice A.a0 m.rq.length A.c0,.slice A.a1 m.im.length A.c1,.slice A.a2 m.ep.length A.c2,.slice A.a3 m.st.length A.c3,.slice A.a4 m.ex.length A.c4] 70)).alloc (.cells #[.slice none 0 0,.slice none 0 0,.slice none 0 0,.slice none 0 0,.slice none 0 0] 48)) (.cells #[.slice none 0 0,.slice none 0 0,.slice none 0 0,.slice none 0 0,.slice none 0 0] 48)
   simp only[zg] at this
   exact this
  ·exact (((Below.refl _ _).alloc (Nat.le_refl _) _).alloc (by show _≤(w.heap.push _).size;simp) _).alloc (by show _≤((w.heap.push _).push _).size;simp;omega) _
 have aa:w.heap.size≤z+2:=by omega
 have U:w.heap.size≤z+1:=by omega
 clear ab
 rintro W0 ⟨hx,V,O,h⟩
 have X:=zc hx
 have Y:=zc V
 have Z:=zc O
 have E:=zc h
 clear hx V O h
 obtain⟨N,M,J,L,K,I⟩:=zk X.out
 go_wp2_with fail
 refine (zjU A.a0 A.c0 m.rq W0 (HR.out.later E.out).1 f1).mono ?_
 rintro e V0 ⟨g0,rfl,q,h⟩
 have X2:=zc ((h.block _ (Array.getElem?_eq_some_iff.1 X.out).1).trans X.out)
 have Y2:=zc ((h.block _ (Array.getElem?_eq_some_iff.1 Y.out).1).trans Y.out)
 have D:=zc ((h.block _ (Array.getElem?_eq_some_iff.1 Z.out).1).trans Z.out)
 have H:=zc (E.out.trans (h.mono E.out.size))
 have P0:=zc (q.low E.out.size)
 clear q h N M J L K I X Y Z E
 obtain⟨N,M,J,L,K,I⟩:=zk D.out
 go_upto_region 3 with fail
 refine zx (R:=(fun W=>W.heap[z]? =some (.cells #[.slice A.a0 m.rq.length A.c0,.slice A.a1 m.im.length A.c1,.slice A.a2 m.ep.length A.c2,.slice A.a3 m.st.length A.c3,.slice A.a4 m.ex.length A.c4] 70 (0,0))∧W.heap[z+1]? =some (.cells #[.slice none 0 0,.slice none 0 0,.slice none 0 0,.slice none 0 0,.slice none 0 0] 48 (0,0))∧W.heap[z+2]? =some (.cells #[.slice (some ⟨g0,0,none⟩) m.rq.length m.rq.length,.slice none 0 0,.slice none 0 0,.slice none 0 0,.slice none 0 0] 48 (0,0))∧Below w.heap.size w W∧OwnR W w.heap.size 9 1 ⟨some ⟨g0,0,none⟩,m.rq.length⟩ m.rq.length (m.rq.flatMap (fun x=>[Value.string x])))) ⟨(heap_setCell_other _ _ _ _ (by show z≠z+2;omega)).trans X2.out,(heap_setCell_other _ _ _ _ (by show z+1≠z+2;omega)).trans Y2.out,(zag D.out).trans (by simp),H.out.setCell aa _,zbs P0.out D.out (by decide)⟩ ?_
 clear X2 Y2 D H N M J L K I P0
 rintro W1 ⟨hx,V,O,h,o0⟩
 have X:=zc hx
 have Y:=zc V
 have Z:=zc O
 have E:=zc h
 have O0:=zc o0
 clear hx V O h o0
 obtain⟨N,M,J,L,K,I⟩:=zk X.out
 go_wp2_with fail
 refine (zph A.a1 A.c1 m.im W1 (HR.out.later E.out).2.1 f2).mono ?_
 rintro e V1 ⟨g1,rfl,q,h⟩
 have X2:=zc ((h.block _ (Array.getElem?_eq_some_iff.1 X.out).1).trans X.out)
 have Y2:=zc ((h.block _ (Array.getElem?_eq_some_iff.1 Y.out).1).trans Y.out)
 have D:=zc ((h.block _ (Array.getElem?_eq_some_iff.1 Z.out).1).trans Z.out)
 have H:=zc (E.out.trans (h.mono E.out.size))
 have P0:=zc (O0.out.keep fun k g=>h.block k (O0.out.typed g).2.1)
 have P1:=zc (q.low E.out.size)
 clear q h N M J L K I X Y Z E O0
 obtain⟨N,M,J,L,K,I⟩:=zk D.out
 go_upto_region 4 with fail
 refine zx (R:=(fun W=>W.heap[z]? =some (.cells #[.slice A.a0 m.rq.length A.c0,.slice A.a1 m.im.length A.c1,.slice A.a2 m.ep.length A.c2,.slice A.a3 m.st.length A.c3,.slice A.a4 m.ex.length A.c4] 70 (0,0))∧W.heap[z+1]? =some (.cells #[.slice none 0 0,.slice none 0 0,.slice none 0 0,.slice none 0 0,.slice none 0 0] 48 (0,0))∧W.heap[z+2]? =some (.cells #[.slice (some ⟨g0,0,none⟩) m.rq.length m.rq.length,.slice (some ⟨g1,0,none⟩) m.im.length m.im.length,.slice none 0 0,.slice none 0 0,.slice none 0 0] 48 (0,0))∧Below w.heap.size w W∧OwnR W w.heap.size 9 1 ⟨some ⟨g0,0,none⟩,m.rq.length⟩ m.rq.length (m.rq.flatMap (fun x=>[Value.string x]))∧OwnR W w.heap.size 80 3 ⟨some ⟨g1,0,none⟩,m.im.length⟩ m.im.length (m.im.flatMap imL))) ⟨(heap_setCell_other _ _ _ _ (by show z≠z+2;omega)).trans X2.out,(heap_setCell_other _ _ _ _ (by show z+1≠z+2;omega)).trans Y2.out,(zag D.out).trans (by simp),H.out.setCell aa _,zbs P0.out D.out (by decide),zbs P1.out D.out (by decide)⟩ ?_
 clear X2 Y2 D H N M J L K I P0 P1
 rintro W2 ⟨hx,V,O,h,o0,o1⟩
 have X:=zc hx
 have Y:=zc V
 have Z:=zc O
 have E:=zc h
 have O0:=zc o0
 have O1:=zc o1
 clear hx V O h o0 o1
 obtain⟨N,M,J,L,K,I⟩:=zk X.out
 go_wp2_with fail
 refine (zpj A.a2 A.c2 m.ep W2 (HR.out.later E.out).2.2.1 f3).mono ?_
 rintro e V2 ⟨g2,rfl,q,h⟩
 have X2:=zc ((h.block _ (Array.getElem?_eq_some_iff.1 X.out).1).trans X.out)
 have Y2:=zc ((h.block _ (Array.getElem?_eq_some_iff.1 Y.out).1).trans Y.out)
 have D:=zc ((h.block _ (Array.getElem?_eq_some_iff.1 Z.out).1).trans Z.out)
 have H:=zc (E.out.trans (h.mono E.out.size))
 have P0:=zc (O0.out.keep fun k g=>h.block k (O0.out.typed g).2.1)
 have P1:=zc (O1.out.keep fun k g=>h.block k (O1.out.typed g).2.1)
 have P2:=zc (q.low E.out.size)
 clear q h N M J L K I X Y Z E O0 O1
 obtain⟨N,M,J,L,K,I⟩:=zk D.out
 go_upto_region 5 with fail
 refine zx (R:=(fun W=>W.heap[z]? =some (.cells #[.slice A.a0 m.rq.length A.c0,.slice A.a1 m.im.length A.c1,.slice A.a2 m.ep.length A.c2,.slice A.a3 m.st.length A.c3,.slice A.a4 m.ex.length A.c4] 70 (0,0))∧W.heap[z+1]? =some (.cells #[.slice none 0 0,.slice none 0 0,.slice none 0 0,.slice none 0 0,.slice none 0 0] 48 (0,0))∧W.heap[z+2]? =some (.cells #[.slice (some ⟨g0,0,none⟩) m.rq.length m.rq.length,.slice (some ⟨g1,0,none⟩) m.im.length m.im.length,.slice (some ⟨g2,0,none⟩) m.ep.length m.ep.length,.slice none 0 0,.slice none 0 0] 48 (0,0))∧Below w.heap.size w W∧OwnR W w.heap.size 9 1 ⟨some ⟨g0,0,none⟩,m.rq.length⟩ m.rq.length (m.rq.flatMap (fun x=>[Value.string x]))∧OwnR W w.heap.size 80 3 ⟨some ⟨g1,0,none⟩,m.im.length⟩ m.im.length (m.im.flatMap imL)∧OwnR W w.heap.size 82 4 ⟨some ⟨g2,0,none⟩,m.ep.length⟩ m.ep.length (m.ep.flatMap epL))) ⟨(heap_setCell_other _ _ _ _ (by show z≠z+2;omega)).trans X2.out,(heap_setCell_other _ _ _ _ (by show z+1≠z+2;omega)).trans Y2.out,(zag D.out).trans (by simp),H.out.setCell aa _,zbs P0.out D.out (by decide),zbs P1.out D.out (by decide),zbs P2.out D.out (by decide)⟩ ?_
 clear X2 Y2 D H N M J L K I P0 P1 P2
 rintro W3 ⟨hx,V,O,h,o0,o1,o2⟩
 have X:=zc hx
 have Y:=zc V
 have Z:=zc O
 have E:=zc h
 have O0:=zc o0
 have O1:=zc o1
 have O2:=zc o2
 clear hx V O h o0 o1 o2
 obtain⟨N,M,J,L,K,I⟩:=zk X.out
 go_wp2_with fail
 refine (zpl A.a3 A.c3 m.st W3 (HR.out.later E.out).2.2.2.1 f4).mono ?_
 rintro e V3 ⟨g3,rfl,q,h⟩
 have X2:=zc ((h.block _ (Array.getElem?_eq_some_iff.1 X.out).1).trans X.out)
 have Y2:=zc ((h.block _ (Array.getElem?_eq_some_iff.1 Y.out).1).trans Y.out)
 have D:=zc ((h.block _ (Array.getElem?_eq_some_iff.1 Z.out).1).trans Z.out)
 have H:=zc (E.out.trans (h.mono E.out.size))
 have P0:=zc (O0.out.keep fun k g=>h.block k (O0.out.typed g).2.1)
 have P1:=zc (O1.out.keep fun k g=>h.block k (O1.out.typed g).2.1)
 have P2:=zc (O2.out.keep fun k g=>h.block k (O2.out.typed g).2.1)
 have P3:=zc (q.low E.out.size)
 clear q h N M J L K I X Y Z E O0 O1 O2
 obtain⟨N,M,J,L,K,I⟩:=zk D.out
 go_upto_region 6 with fail
 refine zx (R:=(fun W=>W.heap[z]? =some (.cells #[.slice A.a0 m.rq.length A.c0,.slice A.a1 m.im.length A.c1,.slice A.a2 m.ep.length A.c2,.slice A.a3 m.st.length A.c3,.slice A.a4 m.ex.length A.c4] 70 (0,0))∧W.heap[z+1]? =some (.cells #[.slice none 0 0,.slice none 0 0,.slice none 0 0,.slice none 0 0,.slice none 0 0] 48 (0,0))∧W.heap[z+2]? =some (.cells #[.slice (some ⟨g0,0,none⟩) m.rq.length m.rq.length,.slice (some ⟨g1,0,none⟩) m.im.length m.im.length,.slice (some ⟨g2,0,none⟩) m.ep.length m.ep.length,.slice (some ⟨g3,0,none⟩) m.st.length m.st.length,.slice none 0 0] 48 (0,0))∧Below w.heap.size w W∧OwnR W w.heap.size 9 1 ⟨some ⟨g0,0,none⟩,m.rq.length⟩ m.rq.length (m.rq.flatMap (fun x=>[Value.string x]))∧OwnR W w.heap.size 80 3 ⟨some ⟨g1,0,none⟩,m.im.length⟩ m.im.length (m.im.flatMap imL)∧OwnR W w.heap.size 82 4 ⟨some ⟨g2,0,none⟩,m.ep.length⟩ m.ep.length (m.ep.flatMap epL)∧OwnR W w.heap.size 87 3 ⟨some ⟨g3,0,none⟩,m.st.length⟩ m.st.length (m.st.flatMap smL))) ⟨(heap_setCell_other _ _ _ _ (by show z≠z+2;omega)).trans X2.out,(heap_setCell_other _ _ _ _ (by show z+1≠z+2;omega)).trans Y2.out,(zag D.out).trans (by simp),H.out.setCell aa _,zbs P0.out D.out (by decide),zbs P1.out D.out (by decide),zbs P2.out D.out (by decide),zbs P3.out D.out (by decide)⟩ ?_
 clear X2 Y2 D H N M J L K I P0 P1 P2 P3
 rintro W4 ⟨hx,V,O,h,o0,o1,o2,o3⟩
 have X:=zc hx
 have Y:=zc V
 have Z:=zc O
 have E:=zc h
 have O0:=zc o0
 have O1:=zc o1
 have O2:=zc o2
 have O3:=zc o3
 clear hx V O h o0 o1 o2 o3
 obtain⟨N,M,J,L,K,I⟩:=zk X.out
 go_wp2_with fail
 refine (zpn A.a4 A.c4 m.ex W4 (HR.out.later E.out).2.2.2.2 f5).mono ?_
 rintro e V4 ⟨g4,rfl,q,h⟩
 have X2:=zc ((h.block _ (Array.getElem?_eq_some_iff.1 X.out).1).trans X.out)
 have Y2:=zc ((h.block _ (Array.getElem?_eq_some_iff.1 Y.out).1).trans Y.out)
 have D:=zc ((h.block _ (Array.getElem?_eq_some_iff.1 Z.out).1).trans Z.out)
 have H:=zc (E.out.trans (h.mono E.out.size))
 have P0:=zc (O0.out.keep fun k g=>h.block k (O0.out.typed g).2.1)
 have P1:=zc (O1.out.keep fun k g=>h.block k (O1.out.typed g).2.1)
 have P2:=zc (O2.out.keep fun k g=>h.block k (O2.out.typed g).2.1)
 have P3:=zc (O3.out.keep fun k g=>h.block k (O3.out.typed g).2.1)
 have P4:=zc (q.low E.out.size)
 clear q h N M J L K I X Y Z E O0 O1 O2 O3
 obtain⟨N,M,J,L,K,I⟩:=zk D.out
 go_upto_region 7 with fail
 refine zx (R:=(fun W=>W.heap[z]? =some (.cells #[.slice A.a0 m.rq.length A.c0,.slice A.a1 m.im.length A.c1,.slice A.a2 m.ep.length A.c2,.slice A.a3 m.st.length A.c3,.slice A.a4 m.ex.length A.c4] 70 (0,0))∧W.heap[z+1]? =some (.cells #[.slice none 0 0,.slice none 0 0,.slice none 0 0,.slice none 0 0,.slice none 0 0] 48 (0,0))∧W.heap[z+2]? =some (.cells #[.slice (some ⟨g0,0,none⟩) m.rq.length m.rq.length,.slice (some ⟨g1,0,none⟩) m.im.length m.im.length,.slice (some ⟨g2,0,none⟩) m.ep.length m.ep.length,.slice (some ⟨g3,0,none⟩) m.st.length m.st.length,.slice (some ⟨g4,0,none⟩) m.ex.length m.ex.length] 48 (0,0))∧Below w.heap.size w W∧OwnR W w.heap.size 9 1 ⟨some ⟨g0,0,none⟩,m.rq.length⟩ m.rq.length (m.rq.flatMap (fun x=>[Value.string x]))∧OwnR W w.heap.size 80 3 ⟨some ⟨g1,0,none⟩,m.im.length⟩ m.im.length (m.im.flatMap imL)∧OwnR W w.heap.size 82 4 ⟨some ⟨g2,0,none⟩,m.ep.length⟩ m.ep.length (m.ep.flatMap epL)∧OwnR W w.heap.size 87 3 ⟨some ⟨g3,0,none⟩,m.st.length⟩ m.st.length (m.st.flatMap smL)∧OwnR W w.heap.size 85 6 ⟨some ⟨g4,0,none⟩,m.ex.length⟩ m.ex.length (m.ex.flatMap exL))) ⟨(heap_setCell_other _ _ _ _ (by show z≠z+2;omega)).trans X2.out,(heap_setCell_other _ _ _ _ (by show z+1≠z+2;omega)).trans Y2.out,(zag D.out).trans (by simp),H.out.setCell aa _,zbs P0.out D.out (by decide),zbs P1.out D.out (by decide),zbs P2.out D.out (by decide),zbs P3.out D.out (by decide),zbs P4.out D.out (by decide)⟩ ?_
 clear X2 Y2 D H N M J L K I P0 P1 P2 P3 P4
 rintro W5 ⟨hx,V,O,h,o0,o1,o2,o3,o4⟩
 have Y:=zc V
 have Z:=zc O
 have E:=zc h
 have O0:=zc o0
 have O1:=zc o1
 have O2:=zc o2
 have O3:=zc o3
 have O4:=zc o4
 clear hx V O h o0 o1 o2 o3 o4
 obtain⟨N,M,J,L,K,I⟩:=zk Z.out
 obtain⟨d0,d1,d2,d3,d4,df⟩:=zk Y.out
 go_wp2
 refine bodyPost_ret (results_cell_row rfl _ _ (z+1) 48 #[.slice (some ⟨g0,0,none⟩) m.rq.length m.rq.length,.slice (some ⟨g1,0,none⟩) m.im.length m.im.length,.slice (some ⟨g2,0,none⟩) m.ep.length m.ep.length,.slice (some ⟨g3,0,none⟩) m.st.length m.st.length,.slice (some ⟨g4,0,none⟩) m.ex.length m.ex.length] (0,0) _ rfl ?_ Tryz.underlying48 rfl (by kernel_rfl)) rfl ?_
 ·exact zd9 Y.out
 ·refine⟨⟨⟨some ⟨g0,0,none⟩,m.rq.length⟩,⟨some ⟨g1,0,none⟩,m.im.length⟩,⟨some ⟨g2,0,none⟩,m.ep.length⟩,⟨some ⟨g3,0,none⟩,m.st.length⟩,⟨some ⟨g4,0,none⟩,m.ex.length⟩,⟨none,0⟩⟩,rfl,⟨?_,?_,?_,?_,?_⟩,((((E.out.setCell U _).setCell U _).setCell U _).setCell U _).setCell U _⟩
  ·rw[zka]
   exact zf1 O0.out Y.out (by decide)
  ·exact zf1 O1.out Y.out (by decide)
  ·exact zf1 O2.out Y.out (by decide)
  ·exact zf1 O3.out Y.out (by decide)
  ·exact zf1 O4.out Y.out (by decide)
def zbd (e:Ep):Im:=⟨sNone,e.loc,e.name⟩
def zb5 (C:Cx) (exp:Bool) (q:PS):Except Nat (PS×Ep):=bd (zl C true q) fun a=>bd (asP C exp a) fun b=>.ok (b.1,⟨0,b.2,a.2,sNone⟩)
theorem zkb (C:Cx) (h:Bool) (q:PS) (acc:List Ep):za3 C h q acc=bd (zb5 C h q) fun x=>
  if isT C x.1.pos 4 zbA then za3 C h (adv x.1) (acc++[x.2]) else bd (zd C 4 zbx x.1) fun q'=>.ok (q',acc++[x.2]):=by
 rw[zfU,zb5,zO]
 refine zaf fun a _=>?_
 rw[zO]
 rfl
theorem zpO {C:Cx} {q:PS} {a:PS×ByteArray} (w:zl C true q= .ok a) (h:isT C a.1.pos 1 sAs=true):zb5 C false q=bd (zl C false (adv a.1)) fun b=>.ok (b.1,⟨0,b.2,a.2,sNone⟩):=by
 rw[zb5,w,zA,asP,if_pos h]
theorem zpP {C:Cx} {q:PS} {a:PS×ByteArray} (w:zl C true q= .ok a) (h:isT C a.1.pos 1 sAs=false) (z:(a.2.toList==[100,101,102,97,117,108,116])=true):zb5 C false q= .error (zs C a.1.pos):=by
 rw[zb5,w,zA,asP,if_neg (by rw[h];decide),if_pos (by rw[z];rfl)]
 rfl
theorem zpQ {C:Cx} {q:PS} {a:PS×ByteArray} (w:zl C true q= .ok a) (h:isT C a.1.pos 1 sAs=false) (z:(a.2.toList==[100,101,102,97,117,108,116])=false):zb5 C false q= .ok (a.1,⟨0,a.2,a.2,sNone⟩):=by
 rw[zb5,w,zA,asP,if_neg (by rw[h];decide),if_neg (by rw[z];decide)]
 rfl
theorem zq {w:World} {b:Nat} {t:TypeId} {A q z:Value} (h:w.heap[b]? =some (.cells #[A,q,z] t (0,0))):
  w.cell? ⟨b,0,none⟩=some A∧w.cell? ⟨b,1,none⟩=some q∧w.cell? ⟨b,2,none⟩=some z∧∀i,w.frozen? ⟨b,i,none⟩=false:=by
 refine⟨?_,?_,?_,fun i=>?_⟩<;>simp[World.cell?,World.frozen?,h]
theorem put3 {w:World} {b:Nat} {D H E z A q:Value} {t:TypeId} (h:w.heap[b]? =some (.cells #[D,H,E] t (0,0))):
  (((w.setCell ⟨b,0,none⟩ z).setCell ⟨b,1,none⟩ A).setCell ⟨b,2,none⟩ q).heap[b]? =some (.cells #[z,A,q] t (0,0)):=by
 have e:=zag (i:=2) (u:=q) (zag (i:=1) (u:=A) (zag (i:=0) (u:=z) h))
 rw[e]
 simp
theorem zpR (C:Cx) (M D z E:Nat) (S:Sv) (q:PS) (w:World) (h:IM C M D z E S q w):
  Calls Tryz.prog 215 #[.pointer (some ⟨E,0,none⟩)] w (zT C M D z E (zb5 C false q) (·.1) (fun a=>imV (zbd a.2)) S w):=by
 have N:=zc h
 have H:w.heap.size≠E:=by have:=h.lt;omega
 have I:w.heap.size≠M:=by have:=(zau h.mem.tok).1;omega
 clear h
 go_enter Tryz.func215,Tryz.ntmps215
 go_wp2_with fail
 refine (zfo C M D z E S q _ (N.out.alloc _)).mono ?_
 cases L:zl C true q with
 |error p=>
  rintro e w1 ⟨rfl,hb⟩
  have HB:Hid (Below z w w1):=(N.out.back ((IS.refl _ _ _).alloc _)).trans hb
  have U:Hid (zb5 C false q= .error p):=by show _=_;rw[zb5,L];rfl
  unfold Pan
  go_wp2
  refine⟨rfl,?_⟩
  rw[U.out]
  exact⟨rfl,HB.out⟩
 |ok a=>
  rintro e w1 ⟨rfl,K,m,s⟩
  have O:=zc m
  have X:=zc s
  clear m s
  cases hi:isT C a.1.pos 1 sAs with
  |true=>
   have HY:=zc (zpO L hi)
   go_wp2_with fail
   refine (zN C M D z E K a.1 1 sAs _ O.out (by decide)).mono ?_
   rintro e w2 ⟨rfl,m,s⟩
   rw[hi] at m ⊢
   have J:=zc m
   have A:Hid (IS E S (w.alloc (.cells #[.string sNone,.string sNone,.string sNone] 80)) K w2):=X.out.trans s
   clear m s
   go_wp2_with fail
   refine (zd0 C M D z E K (adv a.1) _ J.out).mono ?_
   cases aa:zl C false (adv a.1) with
   |error p=>
    rintro e Z ⟨rfl,hb⟩
    have HB:Hid (Below z w Z):=(N.out.back A.out.from).trans hb
    have U:Hid (zb5 C false q= .error p):=bdE HY.out aa
    unfold Pan
    go_wp2
    refine⟨rfl,?_⟩
    rw[U.out]
    exact⟨rfl,HB.out⟩
   |ok c=>
    rintro e Z ⟨rfl,S3,m,s⟩
    have ab:=zc m
    have V:Hid (IS E S (w.alloc (.cells #[.string sNone,.string sNone,.string sNone] 80)) S3 Z):=A.out.trans s
    clear m s
    have U:=zc (bdO HY.out aa)
    have HG:Hid (Z.heap[w.heap.size]? =some (.cells #[.string sNone,.string sNone,.string sNone] 80 (0,0))):=IS.kept N.out V.out rfl
    have Y:Hid (¬S3.has w.heap.size):=IS.free N.out V.out
    obtain⟨b0,b1,b2,bf⟩:=zq HG.out
    go_wp2
    refine bodyPost_ret (results_cell_row rfl _ _ w.heap.size 80 _ (0,0) _ rfl (put3 HG.out) Tryz.underlying80 rfl (by kernel_rfl)) rfl ?_
    rw[U.out]
    exact⟨rfl,S3,((ab.out.set H I Y.out _ _).set H I Y.out _ _).set H I Y.out _ _,((V.out.from.new (Nat.le_refl _) _ _).new (Nat.le_refl _) _ _).new (Nat.le_refl _) _ _⟩
  |false=>
   cases hd:(a.2.toList==[100,101,102,97,117,108,116]) with
   |true=>
    have HY:=zc (zpP L hi hd)
    go_wp2_with fail
    refine (zN C M D z E K a.1 1 sAs _ O.out (by decide)).mono ?_
    rintro e w2 ⟨rfl,m,s⟩
    rw[hi] at m ⊢
    have J:=zc m
    have A:Hid (IS E S (w.alloc (.cells #[.string sNone,.string sNone,.string sNone] 80)) K w2):=X.out.trans s
    clear m s
    go_wp2_with fail
    refine (zeC C M D z E K a.1 _ J.out).mono ?_
    rintro e Z ⟨rfl,hb⟩
    have HB:Hid (Below z w Z):=(N.out.back A.out.from).trans (hb.mono J.out.mem.base)
    unfold Pan
    go_wp2
    refine⟨rfl,?_⟩
    rw[HY.out]
    exact⟨rfl,HB.out⟩
   |false=>
    have U:=zc (zpQ L hi hd)
    go_wp2_with fail
    refine (zN C M D z E K a.1 1 sAs _ O.out (by decide)).mono ?_
    rintro e w2 ⟨rfl,m,s⟩
    rw[hi] at m ⊢
    have J:=zc m
    have A:Hid (IS E S (w.alloc (.cells #[.string sNone,.string sNone,.string sNone] 80)) K w2):=X.out.trans s
    clear m s
    have HG:Hid (w2.heap[w.heap.size]? =some (.cells #[.string sNone,.string sNone,.string sNone] 80 (0,0))):=IS.kept N.out A.out rfl
    have Y:Hid (¬K.has w.heap.size):=IS.free N.out A.out
    obtain⟨b0,b1,b2,bf⟩:=zq HG.out
    go_wp2
    refine bodyPost_ret (results_cell_row rfl _ _ w.heap.size 80 _ (0,0) _ rfl (put3 HG.out) Tryz.underlying80 rfl (by kernel_rfl)) rfl ?_
    rw[U.out]
    exact⟨rfl,K,((J.out.set H I Y.out _ _).set H I Y.out _ _).set H I Y.out _ _,((A.out.from.new (Nat.le_refl _) _ _).new (Nat.le_refl _) _ _).new (Nat.le_refl _) _ _⟩
abbrev Bk (w:World) (b:Nat) (cs:Array Value) (t:TypeId):Prop:=w.heap[b]? =some (.cells cs t (0,0))
theorem Bk.later {w z:World} {b:Nat} {q:Array Value} {t:TypeId} (h:Bk w b q t) (A:Below w.heap.size w z):Bk z b q t:=(A.block _ (Array.getElem?_eq_some_iff.1 h).1).trans h
theorem zar {w z q:World} (h:Below w.heap.size w z) (A:Below z.heap.size z q):Below w.heap.size w q:=h.trans (A.mono h.size)
def maL (x:MA×Md):List Value:=[.slice x.1.a0 x.2.rq.length x.1.c0,.slice x.1.a1 x.2.im.length x.1.c1,.slice x.1.a2 x.2.ep.length x.1.c2,.slice x.1.a3 x.2.st.length x.1.c3,.slice x.1.a4 x.2.ex.length x.1.c4]
def mdL (x:Sv×Md):List Value:=[.slice x.1.rq.a x.2.rq.length x.1.rq.cap,.slice x.1.im.a x.2.im.length x.1.im.cap,.slice x.1.ep.a x.2.ep.length x.1.ep.cap,.slice x.1.st.a x.2.st.length x.1.st.cap,.slice x.1.ex.a x.2.ex.length x.1.ex.cap]
def zdn (x:MA×Md):Nat:=zb4 x.2
theorem zpS (a:Option Addr) (aa:Nat) (l:List (MA×Md)) (left:Int) (w:World) (hr:RowAt w a maL 5 l) (hi: ∀x∈l,ModIn w x.1 x.2) (hl:l.length≤9223372036854775807) (A: ∀x∈l,zf0 x.2) (h0:0≤left) (h1:left≤1048576):
  Calls Tryz.prog 10 #[.slice a l.length aa,.int .i64 left] w fun e w'=>zcn left (l.length+zE zdn l) e∧Below w.heap.size w w':=by
 have HR:=zc hr
 have HI:=zc hi
 have HG:=zc A
 clear hr A hi
 by_cases ae:(l.length:Int)≤left
 case neg=>
  go_enter Tryz.func10,Tryz.ntmps10
  go_wp2
  go_ret
  exact⟨⟨-1,rfl,by omega,by omega,fun h=>by omega⟩,Below.refl _ _⟩
 go_enter Tryz.func10,Tryz.ntmps10
 go_wp2
 go_loopg [1,5] l.length (fun k s1 s5 wr=>∃(j:Nat) (z:Int),s5= .int .i64 j∧s1= .int .i64 z∧j+k=l.length∧0≤z∧z≤left∧z+((l.length+zE zdn (l.take j):Nat):Int)=left∧Below w.heap.size w wr)
 case atStart=>exact⟨0,_,rfl,rfl,by omega,by omega,by omega,by simp[zE],Below.refl _ _⟩
 case round=>
  obtain⟨j,z,rfl,rfl,hj,Y,X,H,A⟩:=hrel
  have HZ:=zc H
  have D:=zc A
  clear H A
  by_cases U:j<l.length
  ·have J:(j:Int)<(l.length:Int):=by omega
   obtain⟨x,E⟩: ∃x,l[j]? =some x:=⟨_,List.getElem?_eq_getElem U⟩
   obtain⟨b,af,rfl,q⟩:=(HR.out.later D.out).get E
   have Z:=zc ((HI.out x (List.mem_of_getElem? E)).later D.out)
   have ab:=zc (HG.out x (List.mem_of_getElem? E))
   have HC:=zc (zeg zdn E)
   have c0:=q 0 _ rfl
   have c1:=q 1 _ rfl
   have c2:=q 2 _ rfl
   have c3:=q 3 _ rfl
   have c4:=q 4 _ rfl
   simp only[Nat.add_zero] at c0
   clear q E
   obtain⟨O,I⟩: ∃O,O=j+1:=⟨_,rfl⟩
   have ej:(j:Int)+1=(O:Int):=by omega
   have HJ:=zc I
   clear I
   go_wp2_with fail
   refine (zpf x.1 x.2 z _ Z.out ab.out Y (by omega)).mono ?_
   rintro e w1 ⟨⟨z1,rfl,ac,ad,N⟩,M⟩
   have L:=zc (D.out.trans (M.mono D.out.size))
   have V:=zc N
   clear M N c0 c1 c2 c3 c4
   by_cases K:0≤z1
   ·go_wp2
    go_roundg (gk-1)
    case rel=>exact⟨O,z1,rfl,rfl,by have:=HJ.out;omega,K,by omega,by have:=HZ.out;have:=V.out K;rw[HJ.out,HC.out];have:zdn x=zb4 x.2:=rfl;omega,L.out⟩
    case measure=>omega
   ·go_wp2
    go_ret
    exact⟨⟨-1,rfl,by omega,by omega,fun h=>by omega⟩,L.out⟩
  ·have J: ¬(j:Int)<(l.length:Int):=by omega
   obtain rfl:j=l.length:=by omega
   go_wp2
   go_ret
   exact⟨⟨z,rfl,by omega,X,fun _=>by have:=HZ.out;rw[List.take_length] at this;exact this⟩,D.out⟩
structure GA where
 pa:Option Addr
 pc:Nat
 ma:Option Addr
 mc:Nat
 la:Option Addr
 lc:Nat
 ms:List (MA×Md)
structure Gr where
 ps:List ByteArray
 ms:List Md
 ls:List Lk
def grA (A:GA) (g:Gr):Value:=.agg #[.slice A.pa g.ps.length A.pc,.slice A.ma A.ms.length A.mc,.slice A.la g.ls.length A.lc]
structure GrIn (w:World) (A:GA) (g:Gr):Prop where
 ps:RowAt w A.pa (fun x=>[Value.string x]) 1 g.ps
 ms:RowAt w A.ma maL 5 A.ms
 md: ∀x∈A.ms,ModIn w x.1 x.2
 ls:RowAt w A.la lkL 3 g.ls
 same:A.ms.map (·.2)=g.ms
structure BigG (A:GA) (g:Gr):Prop where
 ps:g.ps.length≤9223372036854775807
 pS: ∀x∈g.ps,zdG x
 ms:A.ms.length≤9223372036854775807
 mS: ∀x∈A.ms,zf0 x.2
 ls:g.ls.length≤9223372036854775807
 lS: ∀x∈g.ls,zen x
theorem GrIn.later {w z:World} {A:GA} {g:Gr} (h:GrIn w A g) (q:Below w.heap.size w z):GrIn z A g:=⟨h.ps.later q,h.ms.later q,fun x D=>(h.md x D).later q,h.ls.later q,h.same⟩
def zf2 (A:GA) (g:Gr):Nat:=(g.ps.length+zE zbU g.ps)+(A.ms.length+zE zdn A.ms)+(g.ls.length+zE zem g.ls)
theorem zpT (A:GA) (g:Gr) (left:Int) (w:World) (hr:GrIn w A g) (q:BigG A g) (h0:0≤left) (h1:left≤1048576):
  Calls Tryz.prog 4 #[grA A g,.int .i64 left] w fun e w'=>zcn left (zf2 A g) e∧Below w.heap.size w w':=by
 have HR:=zc hr
 have I:=zc q
 clear hr q
 unfold grA
 go_enter Tryz.func4,Tryz.ntmps4
 go_upto_region 1 with fail
 obtain⟨M,z⟩: ∃M,M=w.alloc (.cells #[.slice A.pa g.ps.length A.pc,.slice A.ma A.ms.length A.mc,.slice A.la g.ls.length A.lc] 26):=⟨_,rfl⟩
 rw[←z]
 have X0:Hid (Bk M w.heap.size #[.slice A.pa g.ps.length A.pc,.slice A.ma A.ms.length A.mc,.slice A.la g.ls.length A.lc] 26):=by rw[z];exact heap_alloc_new w _
 have D:Hid (Below w.heap.size w M):=by rw[z];exact (Below.refl _ _).alloc (Nat.le_refl _) _
 clear z
 have X:=zc (HR.out.later D.out)
 clear HR
 obtain⟨O,N,K,J⟩:=zq X0.out
 go_wp2_with fail
 refine (zjT A.pa A.pc g.ps left M X.out.ps I.out.ps I.out.pS (by omega) (by omega)).mono ?_
 rintro e W1 ⟨⟨z0,rfl,y0,u0,v0⟩,q⟩
 have H:=zc (zar D.out q)
 have U:=zc (X.out.later q)
 have Y:=zc (X0.out.later q)
 have V0:=zc v0
 clear q v0 O N K J X X0 D
 by_cases t0:0≤z0
 case neg=>
  go_wp2
  go_ret
  exact⟨⟨-1,rfl,by omega,by omega,fun h=>by omega⟩,H.out⟩
 obtain⟨O,N,K,J⟩:=zq Y.out
 go_wp2_with fail
 refine (zpS A.ma A.mc A.ms z0 W1 U.out.ms U.out.md I.out.ms I.out.mS (by omega) (by omega)).mono ?_
 rintro e W2 ⟨⟨z1,rfl,y1,u1,v1⟩,q⟩
 have E:=zc (zar H.out q)
 have V:=zc (U.out.later q)
 have Z:=zc (Y.out.later q)
 have V1:=zc v1
 clear q v1 O N K J U Y H
 by_cases t1:0≤z1
 case neg=>
  go_wp2
  go_ret
  exact⟨⟨-1,rfl,by omega,by omega,fun h=>by omega⟩,E.out⟩
 obtain⟨O,N,K,J⟩:=zq Z.out
 go_wp2_with fail
 refine (zpD A.la A.lc g.ls z1 W2 V.out.ls I.out.ls I.out.lS (by omega) (by omega)).mono ?_
 rintro e W3 ⟨⟨z2,rfl,y2,u2,v2⟩,q⟩
 have L:=zc (zar E.out q)
 have M3:=zc (V.out.later q)
 have X3:=zc (Z.out.later q)
 have V2:=zc v2
 clear q v2 O N K J V Z E
 by_cases t2:0≤z2
 case neg=>
  go_wp2
  go_ret
  exact⟨⟨-1,rfl,by omega,by omega,fun h=>by omega⟩,L.out⟩
 go_wp2
 go_ret
 exact⟨⟨z2,rfl,by omega,by omega,fun _=>by have q0:=V0.out t0;have q1:=V1.out t1;have q2:=V2.out t2;unfold zf2;omega⟩,L.out⟩
theorem OwnMd.low {w:World} {b z:Nat} {S:Sv} {m:Md} (h:OwnMd w b S m) (q:z≤b):OwnMd w z S m:=⟨h.rq.low q,h.im.low q,h.ep.low q,h.st.low q,h.ex.low q⟩
theorem OwnR.aside {w:World} {q size n c i:Nat} {e t:TypeId} {r:Rw} {xs:List Value} {u:Value} {H:Array Value} (h:OwnR w q e size r n xs) (D:w.heap[c]? =some (.cells H t (0,0))) (I:e≠t):OwnR (w.setCell ⟨c,i,none⟩ u) q e size r n xs:=
 h.keep fun k g=>heap_setCell_other w ⟨c,i,none⟩ k u fun A=>by
  obtain⟨_,_,E,z⟩:=h.typed g
  simp only at A
  rw[A,D] at z
  simp only[Option.some.injEq,Obj.cells.injEq] at z
  exact I z.2.1.symm
theorem OwnMd.aside {w:World} {b c i:Nat} {S:Sv} {m:Md} {t:TypeId} {u:Value} {A:Array Value} (h:OwnMd w b S m) (z:w.heap[c]? =some (.cells A t (0,0))) (q:t≠9∧t≠80∧t≠82∧t≠87∧t≠85):OwnMd (w.setCell ⟨c,i,none⟩ u) b S m:=
 ⟨h.rq.aside z q.1.symm,h.im.aside z q.2.1.symm,h.ep.aside z q.2.2.1.symm,h.st.aside z q.2.2.2.1.symm,h.ex.aside z q.2.2.2.2.symm⟩
theorem OwnC.block {w:World} {q g n m c:Nat} {e:TypeId} {D:List Value} (h:OwnC w q e m g n D c): ∃z,w.heap[g]? =some (.cells z e (0,0)):=by
 obtain⟨E,A,_⟩:=h
 exact (OwnR.typed (r:=⟨some ⟨g,0,none⟩,n⟩) A rfl).2.2
theorem OwnC.more {w:World} {q g n m c:Nat} {e:TypeId} {z E:List Value} (h:OwnC w q e m g n z c) (J:c≤z.length):OwnC w q e m g n (z++E) c:=by
 obtain⟨H,A,D⟩:=h
 exact⟨H,A,fun i I=>by rw[List.getElem?_append_left (by omega)];exact D i I⟩
theorem zkc {w:World} {b g o:Nat} {S:Sv} {m:Md} {J L I K O:Value} (h:OwnMd w b S m) (M: ∃q,w.heap[g]? =some (.cells q 48 (0,0))):
  OwnMd (((((w.setCell ⟨g,o,none⟩ J).setCell ⟨g,o+1,none⟩ L).setCell ⟨g,o+2,none⟩ I).setCell ⟨g,o+3,none⟩ K).setCell ⟨g,o+4,none⟩ O) b S m:=by
 obtain⟨q,H⟩:=M
 have D:=zag (i:=o) (u:=J) H
 have E:=zag (i:=o+1) (u:=L) D
 have A:=zag (i:=o+2) (u:=I) E
 have N:=zag (i:=o+3) (u:=K) A
 have z:(48:TypeId)≠9∧(48:TypeId)≠80∧(48:TypeId)≠82∧(48:TypeId)≠87∧(48:TypeId)≠85:=by decide
 exact ((((h.aside H z).aside D z).aside E z).aside A z).aside N z
theorem zpU {α β:Type} {S:List α} {l:List β} {s:α} {x:β} (h:l[S.length]? =some x):(S++[s]).zip l=S.zip l++[(s,x)]:=by
 induction S generalizing l with
 |nil=>cases l with
  |nil=>cases h
  |cons y l=>cases h;simp
 |cons a S q=>cases l with
  |nil=>cases h
  |cons y l=>simp only[List.cons_append,List.zip_cons_cons];rw[q h]
def zpV (w:World) (l:List Md) (e:Ending) (w':World):Prop:=∃(g:Nat) (S:List Sv),S.length=l.length∧e= .returned (.slice (some ⟨g,0,none⟩) l.length l.length)∧OwnR w' w.heap.size 48 5 ⟨some ⟨g,0,none⟩,l.length⟩ l.length ((S.zip l).flatMap mdL)∧(∀x∈S.zip l,OwnMd w' w.heap.size x.1 x.2)∧Below w.heap.size w w'
theorem Tryz.infoTMd:(Tryz.prog.info? 48).map (fun i=>(i.zero,i.size,i.bytes))=some (some (.agg #[.slice none 0 0,.slice none 0 0,.slice none 0 0,.slice none 0 0,.slice none 0 0]),5,120):=by kernel_rfl
def zf3 (m:Md):Prop:=m.rq.length≤1048576∧m.im.length≤1048576∧m.ep.length≤1048576∧m.st.length≤1048576∧m.ex.length≤1048576
theorem zpW (a:Option Addr) (af:Nat) (l:List (MA×Md)) (w:World) (hr:RowAt w a maL 5 l) (hi: ∀x∈l,ModIn w x.1 x.2) (hf: ∀x∈l,zf3 x.2) (hl:l.length≤1048576):
  Calls Tryz.prog 19 #[.slice a l.length af] w fun e w'=>zpV w (l.map (·.2)) e w':=by
 have HR:=zc hr
 have HI:=zc hi
 have HF:=zc hf
 have K:Hid ((l.map (·.2)).length=l.length):=List.length_map ..
 clear hr hi hf
 obtain⟨i0,hi,am,al,ak⟩:=info_parts Tryz.infoTMd
 go_enter Tryz.func19,Tryz.ntmps19
 go_wp2_with (first|(at_make;refine wpList_make_full w rfl _ _ 29 rfl w.heap.size 48 i0 _ 5 Tryz.underlying29 hi am al .i64 .i64 _ _ l.length (by rfl) (by rfl) rfl rfl (by rw[ak];omega) (by unfold maxLen;omega) (Nat.le_refl _) ?_))
 intro w1 E I
 have ad:=zc ((Below.refl _ _).grown I (Nat.le_refl _) (fun k h=>by cases h):Below w.heap.size w w1)
 have Z:Hid (OwnC w1 w.heap.size 48 5 w.heap.size l.length [] 0):=⟨_,E,fun j hj=>absurd hj (Nat.not_lt_zero j)⟩
 clear E I
 obtain⟨g,hg⟩: ∃g,g=w.heap.size:=⟨_,rfl⟩
 have ag:=zc hg
 rw[←hg]
 have ao:Hid (OwnC w1 w.heap.size 48 5 g l.length [] 0):=by rw[hg];exact Z.out
 clear hg Z
 go_wp2
 go_loopg [4] l.length (fun k i wr=>∃(j:Nat) (S:List Sv),i= .int .i64 j∧j+k=l.length∧S.length=j∧OwnC wr w.heap.size 48 5 g l.length ((S.zip (l.map (·.2))).flatMap mdL) (j*5)∧(∀x∈S.zip (l.map (·.2)),OwnMd wr w.heap.size x.1 x.2)∧Below w.heap.size w wr)
 case atStart=>exact⟨0,[],rfl,by omega,rfl,ao.out,(fun x J=>by cases J),ad.out⟩
 case round=>
  obtain⟨j,S,rfl,hj,hs,ho,hm,hb⟩:=hrel
  have HO:=zc ho
  have HM:=zc hm
  have L:=zc hb
  have V:=zc hs
  clear ho hb hm hs
  by_cases aj:j<l.length
  ·have ab:(j:Int)<(l.length:Int):=by omega
   obtain⟨x,J⟩: ∃x,l[j]? =some x:=⟨_,List.getElem?_eq_getElem aj⟩
   obtain⟨b,ap,rfl,N⟩:=(HR.out.later L.out).get J
   have ah:=zc ((HI.out x (List.mem_of_getElem? J)).later L.out)
   have A:=zc (HF.out x (List.mem_of_getElem? J))
   have HX:Hid ((l.map (·.2))[j]? =some x.2):=by show _=_;rw[List.getElem?_map,J];rfl
   clear J
   have c0:=N 0 _ rfl
   have c1:=N 1 _ rfl
   have c2:=N 2 _ rfl
   have c3:=N 3 _ rfl
   have c4:=N 4 _ rfl
   simp only[Nat.add_zero] at c0
   clear N
   obtain⟨j1,X⟩: ∃j1,j1=j+1:=⟨_,rfl⟩
   have ej:(j:Int)+1=(j1:Int):=by omega
   have HJ:=zc X
   clear X
   go_wp2_with fail
   refine (zpN x.1 x.2 _ ah.out A.out.1 A.out.2.1 A.out.2.2.1 A.out.2.2.2.1 A.out.2.2.2.2).mono ?_
   rintro e w2 ⟨O,rfl,U,H⟩
   have q:=zc (HO.out.later H)
   have ai:Hid (∀y∈S.zip (l.map (·.2)),OwnMd w2 w.heap.size y.1 y.2):=fun y M=>(HM.out y M).later H
   have an:=zc (U.low L.out.size)
   have ae:=zc (L.out.trans (H.mono L.out.size))
   clear H U c0 c1 c2 c3 c4 HO HM L
   obtain⟨v0,g0⟩:=q.out.has (j*5) (by omega)
   have f0:=q.out.free (j*5)
   obtain⟨v1,g1⟩:=q.out.has (j*5+1) (by omega)
   have f1:=q.out.free (j*5+1)
   obtain⟨v2,g2⟩:=q.out.has (j*5+2) (by omega)
   have f2:=q.out.free (j*5+2)
   obtain⟨v3,g3⟩:=q.out.has (j*5+3) (by omega)
   have f3:=q.out.free (j*5+3)
   obtain⟨v4,g4⟩:=q.out.has (j*5+4) (by omega)
   have f4:=q.out.free (j*5+4)
   have HZ:Hid ((S++[O]).zip (l.map (·.2))=S.zip (l.map (·.2))++[(O,x.2)]):=zpU (by rw[V.out];exact HX.out)
   have Y:((S.zip (l.map (·.2))).flatMap mdL).length=j*5:=by rw[zdF (f:=mdL) (m:=5) (fun _=>rfl),List.length_zip,V.out,List.length_map];congr 1;omega
   have z: ∀i v,(mdL (O,x.2))[i]? =some v→(((S++[O]).zip (l.map (·.2))).flatMap mdL)[j*5+i]? =some v:=by
    intro i v hv
    rw[HZ.out,List.flatMap_append,List.getElem?_append_right (by omega),Y,show j*5+i-j*5=i by omega]
    simpa using hv
   have ac:Hid (OwnC w2 w.heap.size 48 5 g l.length (((S++[O]).zip (l.map (·.2))).flatMap mdL) (j*5)):=by
    show OwnC ..
    rw[HZ.out,List.flatMap_append]
    exact q.out.more (by omega)
   have HN:=zc (((((ac.out.put (by omega) (z 0 _ rfl)).put (by omega) (z 1 _ rfl)).put (by omega) (z 2 _ rfl)).put (by omega) (z 3 _ rfl)).put (by omega) (z 4 _ rfl))
   have aa:=zc q.out.block
   clear z Y ac
   have D:w.heap.size≤g:=by have:=ag.out;omega
   unfold zn
   go_wp2
   go_roundg (gk-1)
   case rel=>
    refine⟨j1,S++[O],rfl,by have:=HJ.out;omega,by rw[List.length_append,V.out,HJ.out];rfl,by rw[HJ.out,Nat.succ_mul];exact HN.out,fun y M=>?_,(((((ae.out.setCell D _).setCell D _).setCell D _).setCell D _).setCell D _)⟩
    rw[HZ.out,List.mem_append,List.mem_singleton] at M
    rcases M with M|rfl
    ·exact zkc (ai.out y M) aa.out
    ·exact zkc an.out aa.out
   case measure=>omega
  ·have ab: ¬(j:Int)<(l.length:Int):=by omega
   obtain rfl:j=l.length:=by omega
   go_wp2
   go_ret
   have hz:(S.zip (l.map (·.2))).length=l.length:=by rw[List.length_zip,V.out,List.length_map,Nat.min_self]
   refine⟨g,S,V.out.trans K.out.symm,by rw[K.out];rfl,?_,HM.out,L.out⟩
   rw[K.out]
   exact HO.out.all (by rw[zdF (f:=mdL) (m:=5) (fun _=>rfl),hz])
theorem zeK {w:World} {q:Nat} {r:Rw} {S:List Sv} {l:List Md} (z:S.length=l.length) (h:OwnR w q 48 5 r l.length ((S.zip l).flatMap mdL)):OwnR w q 48 5 r (S.zip l).length ((S.zip l).flatMap mdL):=by
 rw[List.length_zip,z,Nat.min_self]
 exact h
theorem zdH {α β:Type} {S:List α} {l:List β} (q:S.length=l.length) {j:Nat} {x:β} (h:l[j]? =some x): ∃s,(S.zip l)[j]? =some (s,x):=by
 have w:=(List.getElem?_eq_some_iff.1 h).1
 refine⟨S[j],?_⟩
 rw[List.getElem?_zip_eq_some]
 exact⟨List.getElem?_eq_getElem (by omega),h⟩
structure GS where
 pr:Rw
 mr:Rw
 sv:List Sv
 lr:Rw
def grD (G:GS) (g:Gr):Value:=.agg #[.slice G.pr.a g.ps.length G.pr.cap,.slice G.mr.a g.ms.length G.mr.cap,.slice G.lr.a g.ls.length G.lr.cap]
abbrev grC (G:GS) (g:Gr):Array Value:=#[.slice G.pr.a g.ps.length G.pr.cap,.slice G.mr.a g.ms.length G.mr.cap,.slice G.lr.a g.ls.length G.lr.cap]
theorem zaN (w:World) (o:Obj):Below w.heap.size w (w.alloc o):=(Below.refl _ _).alloc (Nat.le_refl _) _
structure GrOwn (w:World) (base:Nat) (G:GS) (g:Gr):Prop where
 ps:OwnR w base 9 1 G.pr g.ps.length (g.ps.flatMap fun x=>[Value.string x])
 ms:OwnR w base 48 5 G.mr g.ms.length ((G.sv.zip g.ms).flatMap mdL)
 md: ∀x∈G.sv.zip g.ms,OwnMd w base x.1 x.2
 ls:OwnR w base 51 3 G.lr g.ls.length (g.ls.flatMap lkL)
 len:G.sv.length=g.ms.length
theorem OwnR.later {w z:World} {q size n:Nat} {e:TypeId} {r:Rw} {xs:List Value} (h:OwnR w q e size r n xs) (A:Below w.heap.size w z):OwnR z q e size r n xs:=h.keep fun k g=>A.block k (h.typed g).2.1
theorem GrOwn.later {w A:World} {q:Nat} {G:GS} {g:Gr} (h:GrOwn w q G g) (z:Below w.heap.size w A):GrOwn A q G g:=⟨h.ps.later z,h.ms.later z,fun x D=>(h.md x D).later z,h.ls.later z,h.len⟩
abbrev zvF (t:TypeId):Prop:=t≠9∧t≠80∧t≠82∧t≠87∧t≠85
abbrev lgC (A:GA) (g:Gr):Array Value:=#[.slice A.pa g.ps.length A.pc,.slice A.ma A.ms.length A.mc,.slice A.la g.ls.length A.lc]
structure GrTmp (w W:World) (A:GA) (g:Gr) (gx:Nat) (v0 v1 v2:Value):Prop where
 x:Bk W gx (lgC A g) 26
 y:Bk W (gx+1) #[.slice none 0 0,.slice none 0 0,.slice none 0 0] 32
 z:Bk W (gx+2) #[v0,v1,v2] 32
 b:Below w.heap.size w W
theorem GrTmp.later {w W J:World} {A:GA} {g:Gr} {H:Nat} {D I E:Value} (h:GrTmp w W A g H D I E) (q:Below W.heap.size W J):GrTmp w J A g H D I E:=⟨h.x.later q,h.y.later q,h.z.later q,zar h.b q⟩
theorem GrTmp.set {w W:World} {A:GA} {g:Gr} {q:Nat} {D H E u:Value} (h:GrTmp w W A g q D H E) (I:w.heap.size≤q) (i:Nat):GrTmp w (W.setCell ⟨q+2,i,none⟩ u) A g q (if i=0 then u else D) (if i=1 then u else H) (if i=2 then u else E):=by
 refine⟨?_,?_,?_,h.b.setCell (by show _≤q+2;omega) _⟩
 ·exact (heap_setCell_other W ⟨q+2,i,none⟩ q u (by simp)).trans h.x
 ·exact (heap_setCell_other W ⟨q+2,i,none⟩ (q+1) u (by simp)).trans h.y
 ·refine (zag (i:=i) (u:=u) h.z).trans ?_
  match i with
  |0=>rfl
  |1=>rfl
  |2=>rfl
  |i+3=>rfl
def zpX (w:World) (g:Gr) (e:Ending) (w':World):Prop:=∃G,e= .returned (grD G g)∧GrOwn w' w.heap.size G g∧Below w.heap.size w w'
theorem zhC (A:GA) (g:Gr) (w:World) (hr:GrIn w A g) (hf: ∀x∈A.ms,zf3 x.2) (f1:g.ps.length≤1048576) (f2:A.ms.length≤1048576) (f3:g.ls.length≤1048576):
  Calls Tryz.prog 6 #[grA A g] w fun e w'=>zpX w g e w':=by
 have HR:=zc hr
 have HF:=zc hf
 have HL:Hid (A.ms.length=g.ms.length):=by have:=congrArg List.length hr.same;rw[List.length_map] at this;exact this
 clear hr hf
 unfold grA
 go_enter Tryz.func6,Tryz.ntmps6
 go_upto_region 2 with fail
 obtain⟨O,aa⟩: ∃O,O=w.heap.size:=⟨_,rfl⟩
 rw[←aa]
 refine zx (R:=fun W=>GrTmp w W A g O (.slice none 0 0) (.slice none 0 0) (.slice none 0 0)) ?_ ?_
 ·rw[aa]
  refine⟨?_,?_,?_,?_⟩
  ·show _=_
   rw[heap_alloc_old _ _ (by show _<((w.heap.push _).push _).size;simp;omega),heap_alloc_old _ _ (by show _<(w.heap.push _).size;simp)]
   exact heap_alloc_new w _
  ·show _=_
   rw[heap_alloc_old _ _ (by show _<((w.heap.push _).push _).size;simp)]
   exact heap_alloc2_new w _ _
  ·have:=heap_alloc_new ((w.alloc (.cells (lgC A g) 26)).alloc (.cells #[.slice none 0 0,.slice none 0 0,.slice none 0 0] 32)) (.cells #[.slice none 0 0,.slice none 0 0,.slice none 0 0] 32)
   simp only[zg] at this
   exact this
  ·exact (((Below.refl _ _).alloc (Nat.le_refl _) _).alloc (by show _≤(w.heap.push _).size;simp) _).alloc (by show _≤((w.heap.push _).push _).size;simp;omega) _
 have X:w.heap.size≤O:=by omega
 clear aa
 intro W0 M
 have T0:=zc M
 clear M
 obtain⟨L,K,H,E⟩:=zq T0.out.x
 go_wp2_with fail
 refine (zjU A.pa A.pc g.ps W0 (HR.out.later T0.out.b).ps f1).mono ?_
 rintro e V0 ⟨U,rfl,h,D⟩
 have J:=zc (T0.out.later D)
 have P0:=zc (h.low T0.out.b.size)
 clear h D L K H E T0
 obtain⟨L,K,H,E⟩:=zq J.out.z
 go_upto_region 3 with fail
 refine zx (R:=fun W=>GrTmp w W A g O (.slice (some ⟨U,0,none⟩) g.ps.length g.ps.length) (.slice none 0 0) (.slice none 0 0)∧OwnR W w.heap.size 9 1 ⟨some ⟨U,0,none⟩,g.ps.length⟩ g.ps.length (g.ps.flatMap fun x=>[Value.string x])) ⟨J.out.set X 0,P0.out.aside J.out.z (by decide)⟩ ?_
 clear J P0 L K H E
 rintro W1 ⟨M,ho⟩
 have J:=zc M
 have P0:=zc ho
 clear M ho
 obtain⟨L,K,H,E⟩:=zq J.out.x
 go_wp2_with fail
 refine (zpW A.ma A.mc A.ms W1 (HR.out.later J.out.b).ms (HR.out.later J.out.b).md HF.out f2).mono ?_
 rw[HR.out.same]
 rintro e V1 ⟨g1,S,ac,rfl,h,ab,D⟩
 have I:=zc (J.out.later D)
 have P1:=zc (P0.out.later D)
 have P2:=zc (h.low J.out.b.size)
 have P3:Hid (∀x∈S.zip g.ms,OwnMd V1 w.heap.size x.1 x.2):=fun x N=>(ab x N).low J.out.b.size
 have ad:=zc ac
 clear h D ab ac L K H E J P0
 obtain⟨L,K,H,E⟩:=zq I.out.z
 go_upto_region 4 with fail
 refine zx (R:=fun W=>GrTmp w W A g O (.slice (some ⟨U,0,none⟩) g.ps.length g.ps.length) (.slice (some ⟨g1,0,none⟩) g.ms.length g.ms.length) (.slice none 0 0)∧OwnR W w.heap.size 9 1 ⟨some ⟨U,0,none⟩,g.ps.length⟩ g.ps.length (g.ps.flatMap fun x=>[Value.string x])∧OwnR W w.heap.size 48 5 ⟨some ⟨g1,0,none⟩,g.ms.length⟩ g.ms.length ((S.zip g.ms).flatMap mdL)∧∀x∈S.zip g.ms,OwnMd W w.heap.size x.1 x.2) ⟨I.out.set X 1,P1.out.aside I.out.z (by decide),P2.out.aside I.out.z (by decide),fun x N=>(P3.out x N).aside I.out.z (by decide)⟩ ?_
 clear I P1 P2 P3 L K H E
 rintro W2 ⟨M,V,Y,h3⟩
 have I:=zc M
 have P1:=zc V
 have P2:=zc Y
 have P3:=zc h3
 clear M V Y h3
 obtain⟨L,K,H,E⟩:=zq I.out.x
 go_wp2_with fail
 refine (zpF A.la A.lc g.ls W2 (HR.out.later I.out.b).ls f3).mono ?_
 rintro e V2 ⟨g2,rfl,h,D⟩
 have q:=zc (I.out.later D)
 have Q1:=zc (P1.out.later D)
 have Q2:=zc (P2.out.later D)
 have Q3:Hid (∀x∈S.zip g.ms,OwnMd V2 w.heap.size x.1 x.2):=fun x N=>(P3.out x N).later D
 have Q4:=zc (h.low I.out.b.size)
 clear h D L K H E I P1 P2 P3
 obtain⟨L,K,H,E⟩:=zq q.out.z
 go_upto_region 5 with fail
 refine zx (R:=fun W=>GrTmp w W A g O (.slice (some ⟨U,0,none⟩) g.ps.length g.ps.length) (.slice (some ⟨g1,0,none⟩) g.ms.length g.ms.length) (.slice (some ⟨g2,0,none⟩) g.ls.length g.ls.length)∧GrOwn W w.heap.size ⟨⟨some ⟨U,0,none⟩,g.ps.length⟩,⟨some ⟨g1,0,none⟩,g.ms.length⟩,S,⟨some ⟨g2,0,none⟩,g.ls.length⟩⟩ g) ⟨q.out.set X 2,Q1.out.aside q.out.z (by decide),Q2.out.aside q.out.z (by decide),fun x N=>(Q3.out x N).aside q.out.z (by decide),Q4.out.aside q.out.z (by decide),ad.out⟩ ?_
 clear q Q1 Q2 Q3 Q4 L K H E
 rintro W3 ⟨M,ho⟩
 have q:=zc M
 have O3:=zc ho
 clear M ho
 obtain⟨L,K,H,E⟩:=zq q.out.z
 obtain⟨d0,d1,d2,df⟩:=zq q.out.y
 go_wp2
 refine bodyPost_ret (results_cell_row rfl _ _ (O+1) 32 #[.slice (some ⟨U,0,none⟩) g.ps.length g.ps.length,.slice (some ⟨g1,0,none⟩) g.ms.length g.ms.length,.slice (some ⟨g2,0,none⟩) g.ls.length g.ls.length] (0,0) _ rfl (put3 q.out.y) Tryz.underlying32 rfl (by kernel_rfl)) rfl ?_
 have Z:w.heap.size≤O+1:=by omega
 have h0:=q.out.y
 have V:=zag (i:=0) (u:=.slice (some ⟨U,0,none⟩) g.ps.length g.ps.length) h0
 have Y:=zag (i:=1) (u:=.slice (some ⟨g1,0,none⟩) g.ms.length g.ms.length) V
 exact⟨_,rfl,⟨((O3.out.ps.aside h0 (by decide)).aside V (by decide)).aside Y (by decide),((O3.out.ms.aside h0 (by decide)).aside V (by decide)).aside Y (by decide),fun x N=>(((O3.out.md x N).aside h0 (by decide)).aside V (by decide)).aside Y (by decide),((O3.out.ls.aside h0 (by decide)).aside V (by decide)).aside Y (by decide),O3.out.len⟩,((q.out.b.setCell Z _).setCell Z _).setCell Z _⟩
theorem zf4 {α:Type} (f:α→ByteArray) (l:List α): ∀t:ByteArray,(acc f l t).size=t.size+(l.map fun x=>(f x).size).sum:=by
 induction l with
 |nil=>intro t;rfl
 |cons x l h=>
  intro t
  show (acc f l (t++f x)).size=_
  rw[h,ByteArray.size_append,List.map_cons,List.sum_cons,Nat.add_assoc]
theorem zgx {α:Type} {f c:α→Nat} (l:List α) (h: ∀x∈l,f x≤40+c x):(l.map f).sum≤40*l.length+zE c l:=by
 induction l with
 |nil=>exact Nat.le_refl _
 |cons x l q=>
  have z:=h x (List.mem_cons_self ..)
  have A:=q fun y w=>h y (List.mem_cons_of_mem _ w)
  unfold zE at*
  rw[List.map_cons,List.sum_cons,List.map_cons,List.sum_cons,List.length_cons]
  omega
theorem zkd {α:Type} {f c g:α→Nat} (l:List α) (h: ∀x∈l,f x≤40+c x+g x):(l.map f).sum≤40*l.length+zE c l+(l.map g).sum:=by
 induction l with
 |nil=>exact Nat.le_refl _
 |cons x l q=>
  have z:=h x (List.mem_cons_self ..)
  have A:=q fun y w=>h y (List.mem_cons_of_mem _ w)
  unfold zE at*
  rw[List.map_cons,List.sum_cons,List.map_cons,List.sum_cons,List.map_cons,List.sum_cons,List.length_cons]
  omega
theorem zdo {α:Type} {c:α→Nat} {l:List α} {x:α} (h:x∈l):c x≤zE c l:=by
 induction l with
 |nil=>cases h
 |cons y l q=>
  unfold zE at*
  rw[List.map_cons,List.sum_cons]
  rcases List.mem_cons.1 h with rfl|h
  ·omega
  ·have:=q h
   omega
theorem zcP (a:Array UInt8):(⟨a⟩:ByteArray).size=a.size:=rfl
theorem zeL (s:ByteArray):(za0 s).size=s.size+2:=by
 rw[za0,ByteArray.size_append,ByteArray.size_append,zcP]
 show 1+s.size+1=_
 omega
theorem zke (a b:ByteArray):(asT a b).size≤a.size+b.size+4:=by
 unfold asT
 split
 ·omega
 ·have z:(({data:=#[32,97,115,32]}:ByteArray)).size=4:=rfl
  rw[ByteArray.size_append,ByteArray.size_append,z]
  omega
theorem zpY (s:ByteArray):(rqT s).size≤40+zbU s:=by
 rw[rqT,ByteArray.size_append,ByteArray.size_append,zeL,zcP,zcP]
 show 7+(s.size+2)+2≤40+s.size
 omega
theorem zpZ (x:Im):(zab x).size≤40+zbV x:=by
 have h:=zke x.first x.loc
 unfold zab zbV
 split
 ·simp only[ByteArray.size_append,zeL,zcP]
  simp only[List.size_toArray,List.length_cons,List.length_nil]
  omega
 ·split
  ·simp only[ByteArray.size_append,zeL,zcP]
   simp only[List.size_toArray,List.length_cons,List.length_nil]
   omega
  ·simp only[ByteArray.size_append,zeL,zcP]
   simp only[List.size_toArray,List.length_cons,List.length_nil]
   omega
theorem zqa (x:Ep):(epF x).size≤40+zbW x:=by
 have h:=zke x.loc x.name
 unfold epF
 split
 ·exact Nat.zero_le _
 ·unfold zbp zbW
  split
  ·simp only[ByteArray.size_append,zeL,zcP]
   simp only[List.size_toArray,List.length_cons,List.length_nil]
   omega
  ·split
   ·simp only[ByteArray.size_append,zeL,zcP]
    simp only[List.size_toArray,List.length_cons,List.length_nil]
    omega
   ·simp only[ByteArray.size_append,zcP]
    simp only[List.size_toArray,List.length_cons,List.length_nil]
    omega
theorem zkf (k:Int) (n e:ByteArray):(za5 k n e).size≤40+n.size+e.size:=by
 unfold za5
 repeat' split
 all_goals
  simp only[ByteArray.size_append,zcP]
  simp only[List.size_toArray,List.length_cons,List.length_nil]
  omega
theorem zqb (k:Int) (n e:ByteArray):(zdl k n e).size≤40+n.size+e.size:=by
 unfold zdl
 split
 ·simp only[ByteArray.size_append,zcP]
  simp only[List.size_toArray,List.length_cons,List.length_nil]
  omega
 ·exact zkf k n e
theorem zqc (l:List Ex):(l.map zdS).sum≤40*l.length+zE zcF l:=zgx l fun x _=>by unfold zdS zcF;omega
theorem zqd (m:Md):(zcc m).size≤40*m.rq.length+zE zbU m.rq+(40*m.im.length+zE zbV m.im)+(40*m.ep.length+zE zbW m.ep):=by
 have q:=zgx (c:=zbU) m.rq fun x _=>zpY x
 have w:=zgx (c:=zbV) m.im fun x _=>zpZ x
 have h:=zgx (c:=zbW) m.ep fun x _=>zqa x
 rw[zcc,zf4,zf4,zf4]
 have:sNone.size=0:=rfl
 omega
theorem zkg {m:Md} (t:Tree m) (h:zaY m.ex):(zcd m).size≤40*zb4 m∧(zbS m).size≤40*zb4 m:=by
 have w:=zqd m
 have D:=zmP t h
 have A:=zqc m.ex
 have q:=zkd (c:=zco) (g:=fun s=>wt m.ex s.expr.toNat) (f:=fun s=>(stF m.ex s).size) m.st fun s _=>zkf s.kind s.name _
 have E:=zkd (c:=zco) (g:=fun s=>wt m.ex s.expr.toNat) (f:=fun s=>(zcD m.ex s).size) m.st fun s _=>zqb s.kind s.name _
 have z:zb4 m=(m.rq.length+zE zbU m.rq)+(m.im.length+zE zbV m.im)+(m.ep.length+zE zbW m.ep)+(m.st.length+zE zco m.st)+(m.ex.length+zE zcF m.ex):=rfl
 constructor
 ·rw[zcd,zf4]
  omega
 ·rw[zbS,zf4]
  omega
theorem zkh {m:Md} (h:zb4 m≤1048576) (w:zaY m.ex):Small m:=by
 have z:zb4 m=(m.rq.length+zE zbU m.rq)+(m.im.length+zE zbV m.im)+(m.ep.length+zE zbW m.ep)+(m.st.length+zE zco m.st)+(m.ex.length+zE zcF m.ex):=rfl
 refine⟨fun x q=>?_,fun x q=>?_,fun x q=>?_,fun x q=>?_,w,?_,?_,?_,?_,?_⟩
 ·have e:zbU x=x.size:=rfl
  have:=zdo (c:=zbU) q
  omega
 ·have:=zdo (c:=zbV) q
  have e:zbV x=x.spec.size+x.first.size+x.loc.size:=rfl
  omega
 ·have:=zdo (c:=zbW) q
  have e:zbW x=x.name.size+x.loc.size+x.spec.size:=rfl
  omega
 ·have:=zdo (c:=zco) q
  have e:zco x=x.name.size:=rfl
  omega
 all_goals omega
def MOk (m:Md):Prop:=∃t,PrOf (zcd m) m t∧zee t false m
theorem zki {T:ByteArray} {m:Md} {t u:ByteArray} (h:PrOf T m t) (k:PrOf T m u):t=u:=by
 rcases h with ⟨a,rfl⟩|⟨a,rfl⟩<;>rcases k with ⟨b,rfl⟩|⟨b,rfl⟩
 ·rfl
 ·exact absurd a b
 ·exact absurd b a
 ·rfl
theorem zqe {m:Md} {e:Ending} (h:zgo (zcd m) m false e):SameOut (MOk m) e:=by
 obtain⟨t,q,b,rfl,w⟩:=h
 exact⟨b,rfl,w.trans ⟨fun k=>⟨t,q,k⟩,fun⟨u,z,k⟩=>zki z q▸k⟩⟩
theorem zqf {m:Md} {e:Ending} (h:zgo (zbS m) m false e):SameOut (MOk m) e:=by
 obtain⟨t,w,b,rfl,D⟩:=h
 have A: ∃s,PrOf (zcd m) m s:=by
  by_cases z:Tree m
  ·exact⟨_,.inl ⟨z,rfl⟩⟩
  ·exact⟨_,.inr ⟨z,rfl⟩⟩
 obtain⟨s,q⟩:=A
 exact⟨b,rfl,D.trans ⟨fun k=>⟨s,q,(zj5 q w).2 k⟩,fun⟨u,E,k⟩=>(zj5 q w).1 (zki E q▸k)⟩⟩
structure FewP (q:PS):Prop where
 im:q.im.length≤40
 ep:q.ep.length+q.la.length≤40
 st:q.st.length≤80
 ex:q.ex.length≤300
theorem zqg {s:ByteArray} {z:Bool} {q:PS} (h:zbF s z (.ok q)):FewP q:=by
 refine zhw (R:=fun a b=>FewP a→FewP b) h (fun A _=>?_) ⟨by decide,by decide,by decide,by decide⟩
 refine⟨fun _ h=>h,fun h k x=>k (h x),fun _ h=>⟨h.im,h.ep,h.st,h.ex⟩,?_,?_,?_,?_,?_⟩
 ·intro x q a h w
  obtain⟨rfl,_⟩:=zbC h
  exact⟨w.im,w.ep,w.st,by show (q.ex++[x]).length≤300;rw[List.length_append];simp;omega⟩
 ·intro x q a h w
  unfold zap at h
  split at h<;>cases h
  exact⟨by show (q.im++[x]).length≤40;rw[List.length_append];simp;omega,w.ep,w.st,w.ex⟩
 ·intro x q a h w
  unfold zp at h
  split at h
  ·cases h
  ·split at h<;>cases h
   ·exact⟨w.im,by show q.ep.length+(q.la++[x]).length≤40;rw[List.length_append];simp;omega,w.st,w.ex⟩
   ·exact⟨w.im,by show (q.ep++[x]).length+q.la.length≤40;rw[List.length_append];simp;omega,w.st,w.ex⟩
 ·intro q a h w
  unfold zL at h
  split at h
  ·split at h
   ·cases h;exact⟨w.im,w.ep,w.st,w.ex⟩
   ·split at h<;>cases h
    exact⟨w.im,w.ep,w.st,w.ex⟩
  ·cases h
 ·intro k n q _ a h w
  unfold zY at h
  split at h<;>cases h
  exact⟨w.im,w.ep,by show (q.st++[_]).length≤80;rw[List.length_append];simp;omega,w.ex⟩
structure MOkP (m:Md):Prop where
 nd:m.rq.Nodup
 im:m.im.length≤10000
 ep:m.ep.length≤10000
 st:m.st.length≤10000
 ex:m.ex.length≤10000
 fair:zcE m.st
theorem MOk.parts {m:Md} (h:MOk m):MOkP m:=by
 obtain⟨t,_,q,z,rfl⟩:=h
 have w:=zqg z
 refine⟨zo3 z,by have:=w.im;show q.im.length≤_;omega,?_,by have:=w.st;show q.st.length≤_;omega,by have:=w.ex;show q.ex.length≤_;omega,zj2 z⟩
 have:=w.ep
 show (q.ep++q.la).length≤_
 rw[List.length_append]
 omega
def zeM (ps:List ByteArray) (i:Nat):Prop:=(ps.getD i sNone).toList.isEmpty=false∧((zaH (ps.getD i sNone)).toList==(ps.getD i sNone).toList)=true∧inL (ps.take i) (ps.getD i sNone)=false
def zbX (ps:List ByteArray) (i:Nat):Prop:=zaS (ps.getD i sNone)=true∧((zaH (ps.getD i sNone)).toList==(ps.getD i sNone).toList)=true∧inL (ps.take i) (ps.getD i sNone)=false
theorem zkj (w:List ByteArray) (i:Nat):zeM w i↔zbX w i:=by
 constructor
 ·rintro⟨z,h,q⟩
  exact⟨zoU z h,h,q⟩
 ·rintro⟨z,h,q⟩
  refine⟨?_,h,q⟩
  have:=(zdD.1 z).1
  generalize w.getD i sNone=p at this
  cases A:p.toList with
  |nil=>
   rw[Lib.toList_data] at A
   have e:p.data.toList.length=p.data.size:=Array.length_toList
   rw[A] at e
   have D:p.size=p.data.size:=rfl
   rw[D,←e] at this
   exact absurd this (by decide)
  |cons=>rfl
def zC (g:Gr):List (List ByteArray):=g.ms.map (·.rq)
def zcQ (ms:List Md):Prop:=∀m∈ms,MOk m∧zaq m=0
def GrS (g:Gr):Prop:=(1≤g.ms.length∧g.ms.length≤8)∧g.ps.length=g.ms.length∧(∀i,i<g.ms.length→zeM g.ps i)∧zcQ g.ms∧zfx (zC g) g.ls∧∀j,j<g.ms.length→(zaU g.ls g.ms.length (zaV g.ms.length))[j]? =some true
def GrI (g:Gr):Prop:=(1≤g.ms.length∧g.ms.length≤8)∧g.ps.length=g.ms.length∧(∀i,i<g.ps.length→zbX g.ps i)∧zcQ g.ms∧zbI (zC g) g.ls∧(dfs (zbJ (zC g) g.ls) g.ms.length 0 (List.replicate g.ms.length false,[])).2.length=g.ms.length
theorem zgy {g:Gr} (h:zcQ g.ms): ∀rq∈zC g,rq.Nodup:=by
 intro rq w
 obtain⟨m,q,rfl⟩:=List.mem_map.1 w
 exact (h m q).1.parts.nd
theorem zcp (g:Gr):(zC g).length=g.ms.length:=List.length_map ..
theorem zqh (g:Gr):GrS g↔GrI g:=by
 constructor
 ·rintro⟨z,A,w,h,q,D⟩
  have E:=(zjA (zgy h)).1 q
  refine⟨z,A,fun i H=>(zkj _ _).1 (w i (by omega)),h,E,?_⟩
  have:=(zjJ (zgy h) E (by rw[zcp];omega)).1
  rw[zcp] at this
  exact this D
 ·rintro⟨z,A,w,h,q,D⟩
  refine⟨z,A,fun i H=>(zkj _ _).2 (w i (by omega)),h,(zjA (zgy h)).2 q,?_⟩
  have:=(zjJ (zgy h) q (by rw[zcp];omega)).2
  rw[zcp] at this
  exact this D
def GdM (m:Md):Prop:=zb4 m≤1048576∧zaY m.ex
structure GdG (g:Gr):Prop where
 ms: ∀m∈g.ms,GdM m
 ps: ∀p∈g.ps,p.size≤1048576
 pl:g.ps.length≤1048576
 ml:g.ms.length≤1048576
 ll:g.ls.length≤1048576
 rq:zao (zC g)≤1048576
def zf5 (f:FuncId):Prop:=∀(base:Nat) (S:Sv) (m:Md) (w:World),OwnMd w base S m→GdM m→Calls Tryz.prog f #[zn S m,.bool false] w fun e w'=>SameOut (MOk m) e∧Below w.heap.size w w'
def zf6 (f:FuncId):Prop:=∀(base:Nat) (S:Sv) (m:Md) (w:World),OwnMd w base S m→GdM m→MOk m→Calls Tryz.prog f #[zn S m,.bool false] w fun e w'=>e= .returned (.int .i64 (zaq m))∧Below w.heap.size w w'
theorem SameOut.of {P:Prop} {e:Ending} (h:SameOut P e) {b:Bool} (q:b=true↔P):e= .returned (.bool b):=by
 obtain⟨c,rfl,w⟩:=h
 have:c=b:=by
  cases c<;>cases b<;>simp_all
 rw[this]
theorem zhD {q:List (List ByteArray)} {i:Nat} {rq:List ByteArray} (h:q[i]? =some rq):zao (q.take (i+1))=zao (q.take i)+rq.length:=by
 obtain⟨w,rfl⟩:=List.getElem?_eq_some_iff.1 h
 rw[List.take_succ_eq_append_getElem w,zao,zao,List.map_append,List.sum_append]
 simp
theorem zhE (h:List (List ByteArray)) (i:Nat):zao (h.take i)≤zao h:=by
 have:zao h=zao (h.take i)+zao (h.drop i):=by
  unfold zao
  rw[←List.sum_append,←List.map_append,List.take_append_drop]
 omega
theorem OwnR.cap {w:World} {q size n:Nat} {e:TypeId} {r:Rw} {xs:List Value} (h:OwnR w q e size r n xs):n≤r.cap:=by
 rcases h.2 with ⟨z,H⟩|⟨g,E,D,z,_,_,A,_⟩
 ·omega
 ·simp only[Value.slice.injEq] at z
  rw[z.2.2]
  exact A
theorem zdI {w q:World} {p:Regrown} (h:q=grow (redrawn w p.d) p.os):Below w.heap.size w q:=by
 rw[h]
 exact below_regrown w p.d p.os
theorem zbt {P:Prop} {e:Ending} (h: ¬P) (q:e= .returned (.bool false)):SameOut P e:=⟨false,q,by simp[h]⟩
theorem zhF {P:Prop} {e:Ending} (h:P) (q:e= .returned (.bool true)):SameOut P e:=⟨true,q,by simp[h]⟩
theorem zqi (aj: ∀(x y:Im) (W:World),Sem.run Tryz.prog (binOp .neq 80 (.agg #[.string x.spec,.string x.first,.string x.loc]) (.agg #[.string y.spec,.string y.first,.string y.loc])) W= .ok (.bool (!zdh x y)) W) (ad: ∀(M:BinOp) (a b:Operand) (x y:Im) (W:World),Sem.run Tryz.prog (eqGuard M 80 a b (.agg #[.string x.spec,.string x.first,.string x.loc]) (.agg #[.string y.spec,.string y.first,.string y.loc])) W= .ok () W) (ai: ∀(x y:Ep) (W:World),Sem.run Tryz.prog (binOp .neq 82 (.agg #[.int .i64 x.kind,.string x.name,.string x.loc,.string x.spec]) (.agg #[.int .i64 y.kind,.string y.name,.string y.loc,.string y.spec])) W= .ok (.bool (!zdi x y)) W) (ab: ∀(M:BinOp) (a b:Operand) (x y:Ep) (W:World),Sem.run Tryz.prog (eqGuard M 82 a b (.agg #[.int .i64 x.kind,.string x.name,.string x.loc,.string x.spec]) (.agg #[.int .i64 y.kind,.string y.name,.string y.loc,.string y.spec])) W= .ok () W) (af: ∀(x y:Sm) (W:World),Sem.run Tryz.prog (binOp .neq 87 (.agg #[.int .i64 x.kind,.string x.name,.int .i64 x.expr]) (.agg #[.int .i64 y.kind,.string y.name,.int .i64 y.expr])) W= .ok (.bool (!zdj x y)) W) (ak: ∀(M:BinOp) (a b:Operand) (x y:Sm) (W:World),Sem.run Tryz.prog (eqGuard M 87 a b (.agg #[.int .i64 x.kind,.string x.name,.int .i64 x.expr]) (.agg #[.int .i64 y.kind,.string y.name,.int .i64 y.expr])) W= .ok () W) (ac: ∀(x y:Ex) (W:World),Sem.run Tryz.prog (binOp .neq 85 (.agg #[.int .i64 x.kind,.int .i64 x.num,.string x.name,.string x.field,.int .i64 x.l,.int .i64 x.r]) (.agg #[.int .i64 y.kind,.int .i64 y.num,.string y.name,.string y.field,.int .i64 y.l,.int .i64 y.r])) W= .ok (.bool (!zdk x y)) W) (ae: ∀(M:BinOp) (a b:Operand) (x y:Ex) (W:World),Sem.run Tryz.prog (eqGuard M 85 a b (.agg #[.int .i64 x.kind,.int .i64 x.num,.string x.name,.string x.field,.int .i64 x.l,.int .i64 x.r]) (.agg #[.int .i64 y.kind,.int .i64 y.num,.string y.name,.string y.field,.int .i64 y.l,.int .i64 y.r])) W= .ok () W) (b1 b2:Nat) (S1 S2:Sv) (q E:Md) (w:World) (K:OwnMd w b1 S1 q) (H:OwnMd w b2 S2 E) (hf:zdB q):
  Calls Tryz.prog 33 #[zn S1 q,zn S2 E] w fun e w'=>SameOut (q=E) e∧Below w.heap.size w w':=by
 have H1:=zc K
 have H2:=zc H
 obtain⟨f1,f2,f3,f4,f5⟩:=hf
 clear K H
 unfold zn
 go_enter Tryz.func33,Tryz.ntmps33
 go_upto_region 1 with fail
 refine zx (R:=TwoM w b1 b2 S1 S2 q E) (zhu w b1 b2 S1 S2 q E H1.out H2.out) ?_
 clear H1 H2
 intro w0 h
 have T:=zc h
 clear h
 obtain⟨c0,c1,Y,c3,c4,cf⟩:=zk T.out.1
 obtain⟨d0,d1,Z,d3,d4,df⟩:=zk T.out.2.1
 by_cases q0:(q.rq.length:Int)=(E.rq.length:Int)
 case neg=>
  go_wp2
  go_ret
  exact⟨⟨false,rfl,⟨fun k=>(by cases k),fun k=>absurd (by rw[k]) q0⟩⟩,T.out.2.2.2.2⟩
 by_cases q1:(q.im.length:Int)=(E.im.length:Int)
 case neg=>
  go_wp2
  go_ret
  exact⟨⟨false,rfl,⟨fun k=>(by cases k),fun k=>absurd (by rw[k]) q1⟩⟩,T.out.2.2.2.2⟩
 by_cases q2:(q.ep.length:Int)=(E.ep.length:Int)
 case neg=>
  go_wp2
  go_ret
  exact⟨⟨false,rfl,⟨fun k=>(by cases k),fun k=>absurd (by rw[k]) q2⟩⟩,T.out.2.2.2.2⟩
 by_cases q3:(q.st.length:Int)=(E.st.length:Int)
 case neg=>
  go_wp2
  go_ret
  exact⟨⟨false,rfl,⟨fun k=>(by cases k),fun k=>absurd (by rw[k]) q3⟩⟩,T.out.2.2.2.2⟩
 by_cases q4:(q.ex.length:Int)=(E.ex.length:Int)
 case neg=>
  go_wp2
  go_ret
  exact⟨⟨false,rfl,⟨fun k=>(by cases k),fun k=>absurd (by rw[k]) q4⟩⟩,T.out.2.2.2.2⟩
 go_wp2
 go_loopg [5] q.rq.length (fun k i wr=>∃j:Nat,i= .int .i64 j∧j+k=q.rq.length∧q.rq.take j=E.rq.take j∧TwoM w b1 b2 S1 S2 q E wr)
 case atStart=>exact⟨0,rfl,by omega,rfl,T.out⟩
 case round=>
  obtain⟨j,rfl,hj,ht,hT⟩:=hrel
  clear T c0 c1 Y c3 c4 cf d0 d1 Z d3 d4 df
  have T:=zc hT
  have V:=zc ht
  clear hT ht
  obtain⟨c0,c1,Y,c3,c4,cf⟩:=zk T.out.1
  obtain⟨d0,d1,Z,d3,d4,df⟩:=zk T.out.2.1
  by_cases J:j<q.rq.length
  ·have D:(j:Int)<(q.rq.length:Int):=by omega
   have aa:(j:Int)<(E.rq.length:Int):=by omega
   obtain⟨x,O⟩:=zbo J
   obtain⟨y,X⟩:=zbo (show j<E.rq.length by omega)
   obtain⟨g1,ga,K⟩:=OwnR.elem (f:=(fun x=>[Value.string x])) (m:=1) (fun _=>rfl) (show OwnR wr b1 9 1 S1.rq q.rq.length (q.rq.flatMap (fun x=>[Value.string x])) by rw[←zeH];exact T.out.2.2.1.rq) O
   obtain⟨g2,gb,H⟩:=OwnR.elem (f:=(fun x=>[Value.string x])) (m:=1) (fun _=>rfl) (show OwnR wr b2 9 1 S2.rq E.rq.length (E.rq.flatMap (fun x=>[Value.string x])) by rw[←zeH];exact T.out.2.2.2.1.rq) X
   rw[ga] at c0
   rw[gb] at d0
   have C0:=zc (K 0 (by omega))
   have D0:=zc (H 0 (by omega))
   have HX:=zc O
   have HY:=zc X
   clear K H ga gb O X
   obtain⟨L,I⟩: ∃L,L=j+1:=⟨_,rfl⟩
   have ej:(j:Int)+1=(L:Int):=by omega
   have HJ:=zc I
   clear I
   obtain⟨b,z⟩: ∃b,zht x y=b:=⟨_,rfl⟩
   have al:(x.toList==y.toList)=b:=z
   go_wp2
   have kc:=cell_regrown c0
   have kd:=cell_regrown d0
   have k0:=cell_regrown C0.out
   have v0:=cell_regrown D0.out
   simp only[Nat.add_zero,Nat.mul_one] at k0 v0
   refine wp_region_quiet_below (by kernel_rfl) (by kernel_rfl) ?_
   repeat (go_big_quiet_step (fail))
   refine wpQuiet_nil ?_
   intro w2 N
   obtain⟨⟨dq,U⟩,A⟩:=N
   have T2:Hid (TwoM w b1 b2 S1 S2 q E w2):=by show TwoM _ _ _ _ _ _ _ _;rw[A];exact T.out.later (below_regrown wr dq U)
   clear A kc kd c0 c1 Y c3 c4 cf d0 d1 Z d3 d4 df k0 v0 C0 D0
   cases b with
   |true=>
    go_wp2
    go_roundg (gk-1)
    case rel=>exact⟨L,rfl,by have:=HJ.out;omega,by rw[HJ.out];have e:=zgj.1 z;exact zdf V.out HX.out (by rw[e];exact HY.out),T2.out⟩
    case measure=>omega
   |false=>
    go_wp2
    go_ret
    exact⟨⟨false,rfl,⟨fun k=>(by cases k),fun k=>(by have e:=HX.out;rw[k,HY.out] at e;cases e;rw[zgj.2 rfl] at z;cases z)⟩⟩,T2.out.2.2.2.2⟩
  ·have D: ¬(j:Int)<(q.rq.length:Int):=by omega
   obtain rfl:j=q.rq.length:=by omega
   have A0:=zc (zdg (by omega) V.out)
   clear V D J hj
   go_wp2
   go_loopg [6] q.im.length (fun k i wr=>∃j:Nat,i= .int .i64 j∧j+k=q.im.length∧q.im.take j=E.im.take j∧TwoM w b1 b2 S1 S2 q E wr)
   case atStart=>exact⟨0,rfl,by omega,rfl,T.out⟩
   case round=>
    obtain⟨j,rfl,hj,ht,hT⟩:=hrel
    clear T c0 c1 Y c3 c4 cf d0 d1 Z d3 d4 df
    have T:=zc hT
    have V:=zc ht
    clear hT ht
    obtain⟨c0,c1,Y,c3,c4,cf⟩:=zk T.out.1
    obtain⟨d0,d1,Z,d3,d4,df⟩:=zk T.out.2.1
    by_cases J:j<q.im.length
    ·have D:(j:Int)<(q.im.length:Int):=by omega
     have aa:(j:Int)<(E.im.length:Int):=by omega
     obtain⟨x,O⟩:=zbo J
     obtain⟨y,X⟩:=zbo (show j<E.im.length by omega)
     obtain⟨g1,ga,K⟩:=OwnR.elem (f:=imL) (m:=3) (fun _=>rfl) T.out.2.2.1.im O
     obtain⟨g2,gb,H⟩:=OwnR.elem (f:=imL) (m:=3) (fun _=>rfl) T.out.2.2.2.1.im X
     rw[ga] at c1
     rw[gb] at d1
     have C0:=zc (K 0 (by omega))
     have D0:=zc (H 0 (by omega))
     have C1:=zc (K 1 (by omega))
     have D1:=zc (H 1 (by omega))
     have C2:=zc (K 2 (by omega))
     have D2:=zc (H 2 (by omega))
     have HX:=zc O
     have HY:=zc X
     clear K H ga gb O X
     obtain⟨L,I⟩: ∃L,L=j+1:=⟨_,rfl⟩
     have ej:(j:Int)+1=(L:Int):=by omega
     have HJ:=zc I
     clear I
     obtain⟨b,z⟩: ∃b,zdh x y=b:=⟨_,rfl⟩
     have ag: ∀W:World,Sem.run Tryz.prog (binOp .neq 80 (.agg #[.string x.spec,.string x.first,.string x.loc]) (.agg #[.string y.spec,.string y.first,.string y.loc])) W= .ok (.bool !b) W:=fun W=>by rw[aj,z]
     have ah: ∀(M:BinOp) (a b:Operand) (W:World),Sem.run Tryz.prog (eqGuard M 80 a b (.agg #[.string x.spec,.string x.first,.string x.loc]) (.agg #[.string y.spec,.string y.first,.string y.loc])) W= .ok () W:=fun M a b W=>ad M a b x y W
     go_wp2
     have kc:=cell_regrown c1
     have kd:=cell_regrown d1
     have k0:=cell_regrown C0.out
     have v0:=cell_regrown D0.out
     have k1:=cell_regrown C1.out
     have v1:=cell_regrown D1.out
     have k2:=cell_regrown C2.out
     have v2:=cell_regrown D2.out
     simp only[Nat.add_zero] at k0 v0
     refine wp_region_quiet_below (by kernel_rfl) (by kernel_rfl) ?_
     repeat (go_big_quiet_step (fail))
     refine wpQuiet_nil ?_
     intro w2 N
     obtain⟨⟨dq,U⟩,A⟩:=N
     have T2:Hid (TwoM w b1 b2 S1 S2 q E w2):=by show TwoM _ _ _ _ _ _ _ _;rw[A];exact T.out.later (below_regrown wr dq U)
     clear A kc kd c0 c1 Y c3 c4 cf d0 d1 Z d3 d4 df k0 v0 C0 D0 k1 v1 C1 D1 k2 v2 C2 D2
     cases b with
     |true=>
      go_wp2
      go_roundg (gk-1)
      case rel=>exact⟨L,rfl,by have:=HJ.out;omega,by rw[HJ.out];have e:=zgk.1 z;exact zdf V.out HX.out (by rw[e];exact HY.out),T2.out⟩
      case measure=>omega
     |false=>
      go_wp2
      go_ret
      exact⟨⟨false,rfl,⟨fun k=>(by cases k),fun k=>(by have e:=HX.out;rw[k,HY.out] at e;cases e;rw[zgk.2 rfl] at z;cases z)⟩⟩,T2.out.2.2.2.2⟩
    ·have D: ¬(j:Int)<(q.im.length:Int):=by omega
     obtain rfl:j=q.im.length:=by omega
     have A1:=zc (zdg (by omega) V.out)
     clear V D J hj
     go_wp2
     go_loopg [7] q.ep.length (fun k i wr=>∃j:Nat,i= .int .i64 j∧j+k=q.ep.length∧q.ep.take j=E.ep.take j∧TwoM w b1 b2 S1 S2 q E wr)
     case atStart=>exact⟨0,rfl,by omega,rfl,T.out⟩
     case round=>
      obtain⟨j,rfl,hj,ht,hT⟩:=hrel
      clear T c0 c1 Y c3 c4 cf d0 d1 Z d3 d4 df
      have T:=zc hT
      have V:=zc ht
      clear hT ht
      obtain⟨c0,c1,Y,c3,c4,cf⟩:=zk T.out.1
      obtain⟨d0,d1,Z,d3,d4,df⟩:=zk T.out.2.1
      by_cases J:j<q.ep.length
      ·have D:(j:Int)<(q.ep.length:Int):=by omega
       have aa:(j:Int)<(E.ep.length:Int):=by omega
       obtain⟨x,O⟩:=zbo J
       obtain⟨y,X⟩:=zbo (show j<E.ep.length by omega)
       obtain⟨g1,ga,K⟩:=OwnR.elem (f:=epL) (m:=4) (fun _=>rfl) T.out.2.2.1.ep O
       obtain⟨g2,gb,H⟩:=OwnR.elem (f:=epL) (m:=4) (fun _=>rfl) T.out.2.2.2.1.ep X
       rw[ga] at Y
       rw[gb] at Z
       have C0:=zc (K 0 (by omega))
       have D0:=zc (H 0 (by omega))
       have C1:=zc (K 1 (by omega))
       have D1:=zc (H 1 (by omega))
       have C2:=zc (K 2 (by omega))
       have D2:=zc (H 2 (by omega))
       have C3:=zc (K 3 (by omega))
       have D3:=zc (H 3 (by omega))
       have HX:=zc O
       have HY:=zc X
       clear K H ga gb O X
       obtain⟨L,I⟩: ∃L,L=j+1:=⟨_,rfl⟩
       have ej:(j:Int)+1=(L:Int):=by omega
       have HJ:=zc I
       clear I
       obtain⟨b,z⟩: ∃b,zdi x y=b:=⟨_,rfl⟩
       have ag: ∀W:World,Sem.run Tryz.prog (binOp .neq 82 (.agg #[.int .i64 x.kind,.string x.name,.string x.loc,.string x.spec]) (.agg #[.int .i64 y.kind,.string y.name,.string y.loc,.string y.spec])) W= .ok (.bool !b) W:=fun W=>by rw[ai,z]
       have ah: ∀(M:BinOp) (a b:Operand) (W:World),Sem.run Tryz.prog (eqGuard M 82 a b (.agg #[.int .i64 x.kind,.string x.name,.string x.loc,.string x.spec]) (.agg #[.int .i64 y.kind,.string y.name,.string y.loc,.string y.spec])) W= .ok () W:=fun M a b W=>ab M a b x y W
       go_wp2
       have kc:=cell_regrown Y
       have kd:=cell_regrown Z
       have k0:=cell_regrown C0.out
       have v0:=cell_regrown D0.out
       have k1:=cell_regrown C1.out
       have v1:=cell_regrown D1.out
       have k2:=cell_regrown C2.out
       have v2:=cell_regrown D2.out
       have k3:=cell_regrown C3.out
       have v3:=cell_regrown D3.out
       simp only[Nat.add_zero] at k0 v0
       refine wp_region_quiet_below (by kernel_rfl) (by kernel_rfl) ?_
       repeat (go_big_quiet_step (fail))
       refine wpQuiet_nil ?_
       intro w2 N
       obtain⟨⟨dq,U⟩,A⟩:=N
       have T2:Hid (TwoM w b1 b2 S1 S2 q E w2):=by show TwoM _ _ _ _ _ _ _ _;rw[A];exact T.out.later (below_regrown wr dq U)
       clear A kc kd c0 c1 Y c3 c4 cf d0 d1 Z d3 d4 df k0 v0 C0 D0 k1 v1 C1 D1 k2 v2 C2 D2 k3 v3 C3 D3
       cases b with
       |true=>
        go_wp2
        go_roundg (gk-1)
        case rel=>exact⟨L,rfl,by have:=HJ.out;omega,by rw[HJ.out];have e:=zgl.1 z;exact zdf V.out HX.out (by rw[e];exact HY.out),T2.out⟩
        case measure=>omega
       |false=>
        go_wp2
        go_ret
        exact⟨⟨false,rfl,⟨fun k=>(by cases k),fun k=>(by have e:=HX.out;rw[k,HY.out] at e;cases e;rw[zgl.2 rfl] at z;cases z)⟩⟩,T2.out.2.2.2.2⟩
      ·have D: ¬(j:Int)<(q.ep.length:Int):=by omega
       obtain rfl:j=q.ep.length:=by omega
       have A2:=zc (zdg (by omega) V.out)
       clear V D J hj
       go_wp2
       go_loopg [8] q.st.length (fun k i wr=>∃j:Nat,i= .int .i64 j∧j+k=q.st.length∧q.st.take j=E.st.take j∧TwoM w b1 b2 S1 S2 q E wr)
       case atStart=>exact⟨0,rfl,by omega,rfl,T.out⟩
       case round=>
        obtain⟨j,rfl,hj,ht,hT⟩:=hrel
        clear T c0 c1 Y c3 c4 cf d0 d1 Z d3 d4 df
        have T:=zc hT
        have V:=zc ht
        clear hT ht
        obtain⟨c0,c1,Y,c3,c4,cf⟩:=zk T.out.1
        obtain⟨d0,d1,Z,d3,d4,df⟩:=zk T.out.2.1
        by_cases J:j<q.st.length
        ·have D:(j:Int)<(q.st.length:Int):=by omega
         have aa:(j:Int)<(E.st.length:Int):=by omega
         obtain⟨x,O⟩:=zbo J
         obtain⟨y,X⟩:=zbo (show j<E.st.length by omega)
         obtain⟨g1,ga,K⟩:=OwnR.elem (f:=smL) (m:=3) (fun _=>rfl) T.out.2.2.1.st O
         obtain⟨g2,gb,H⟩:=OwnR.elem (f:=smL) (m:=3) (fun _=>rfl) T.out.2.2.2.1.st X
         rw[ga] at c3
         rw[gb] at d3
         have C0:=zc (K 0 (by omega))
         have D0:=zc (H 0 (by omega))
         have C1:=zc (K 1 (by omega))
         have D1:=zc (H 1 (by omega))
         have C2:=zc (K 2 (by omega))
         have D2:=zc (H 2 (by omega))
         have HX:=zc O
         have HY:=zc X
         clear K H ga gb O X
         obtain⟨L,I⟩: ∃L,L=j+1:=⟨_,rfl⟩
         have ej:(j:Int)+1=(L:Int):=by omega
         have HJ:=zc I
         clear I
         obtain⟨b,z⟩: ∃b,zdj x y=b:=⟨_,rfl⟩
         have ag: ∀W:World,Sem.run Tryz.prog (binOp .neq 87 (.agg #[.int .i64 x.kind,.string x.name,.int .i64 x.expr]) (.agg #[.int .i64 y.kind,.string y.name,.int .i64 y.expr])) W= .ok (.bool !b) W:=fun W=>by rw[af,z]
         have ah: ∀(M:BinOp) (a b:Operand) (W:World),Sem.run Tryz.prog (eqGuard M 87 a b (.agg #[.int .i64 x.kind,.string x.name,.int .i64 x.expr]) (.agg #[.int .i64 y.kind,.string y.name,.int .i64 y.expr])) W= .ok () W:=fun M a b W=>ak M a b x y W
         go_wp2
         have kc:=cell_regrown c3
         have kd:=cell_regrown d3
         have k0:=cell_regrown C0.out
         have v0:=cell_regrown D0.out
         have k1:=cell_regrown C1.out
         have v1:=cell_regrown D1.out
         have k2:=cell_regrown C2.out
         have v2:=cell_regrown D2.out
         simp only[Nat.add_zero] at k0 v0
         refine wp_region_quiet_below (by kernel_rfl) (by kernel_rfl) ?_
         repeat (go_big_quiet_step (fail))
         refine wpQuiet_nil ?_
         intro w2 N
         obtain⟨⟨dq,U⟩,A⟩:=N
         have T2:Hid (TwoM w b1 b2 S1 S2 q E w2):=by show TwoM _ _ _ _ _ _ _ _;rw[A];exact T.out.later (below_regrown wr dq U)
         clear A kc kd c0 c1 Y c3 c4 cf d0 d1 Z d3 d4 df k0 v0 C0 D0 k1 v1 C1 D1 k2 v2 C2 D2
         cases b with
         |true=>
          go_wp2
          go_roundg (gk-1)
          case rel=>exact⟨L,rfl,by have:=HJ.out;omega,by rw[HJ.out];have e:=zgm.1 z;exact zdf V.out HX.out (by rw[e];exact HY.out),T2.out⟩
          case measure=>omega
         |false=>
          go_wp2
          go_ret
          exact⟨⟨false,rfl,⟨fun k=>(by cases k),fun k=>(by have e:=HX.out;rw[k,HY.out] at e;cases e;rw[zgm.2 rfl] at z;cases z)⟩⟩,T2.out.2.2.2.2⟩
        ·have D: ¬(j:Int)<(q.st.length:Int):=by omega
         obtain rfl:j=q.st.length:=by omega
         have A3:=zc (zdg (by omega) V.out)
         clear V D J hj
         go_wp2
         go_loopg [9] q.ex.length (fun k i wr=>∃j:Nat,i= .int .i64 j∧j+k=q.ex.length∧q.ex.take j=E.ex.take j∧TwoM w b1 b2 S1 S2 q E wr)
         case atStart=>exact⟨0,rfl,by omega,rfl,T.out⟩
         case round=>
          obtain⟨j,rfl,hj,ht,hT⟩:=hrel
          clear T c0 c1 Y c3 c4 cf d0 d1 Z d3 d4 df
          have T:=zc hT
          have V:=zc ht
          clear hT ht
          obtain⟨c0,c1,Y,c3,c4,cf⟩:=zk T.out.1
          obtain⟨d0,d1,Z,d3,d4,df⟩:=zk T.out.2.1
          by_cases J:j<q.ex.length
          ·have D:(j:Int)<(q.ex.length:Int):=by omega
           have aa:(j:Int)<(E.ex.length:Int):=by omega
           obtain⟨x,O⟩:=zbo J
           obtain⟨y,X⟩:=zbo (show j<E.ex.length by omega)
           obtain⟨g1,ga,K⟩:=OwnR.elem (f:=exL) (m:=6) (fun _=>rfl) T.out.2.2.1.ex O
           obtain⟨g2,gb,H⟩:=OwnR.elem (f:=exL) (m:=6) (fun _=>rfl) T.out.2.2.2.1.ex X
           rw[ga] at c4
           rw[gb] at d4
           have C0:=zc (K 0 (by omega))
           have D0:=zc (H 0 (by omega))
           have C1:=zc (K 1 (by omega))
           have D1:=zc (H 1 (by omega))
           have C2:=zc (K 2 (by omega))
           have D2:=zc (H 2 (by omega))
           have C3:=zc (K 3 (by omega))
           have D3:=zc (H 3 (by omega))
           have C4:=zc (K 4 (by omega))
           have D4:=zc (H 4 (by omega))
           have C5:=zc (K 5 (by omega))
           have D5:=zc (H 5 (by omega))
           have HX:=zc O
           have HY:=zc X
           clear K H ga gb O X
           obtain⟨L,I⟩: ∃L,L=j+1:=⟨_,rfl⟩
           have ej:(j:Int)+1=(L:Int):=by omega
           have HJ:=zc I
           clear I
           obtain⟨b,z⟩: ∃b,zdk x y=b:=⟨_,rfl⟩
           have ag: ∀W:World,Sem.run Tryz.prog (binOp .neq 85 (.agg #[.int .i64 x.kind,.int .i64 x.num,.string x.name,.string x.field,.int .i64 x.l,.int .i64 x.r]) (.agg #[.int .i64 y.kind,.int .i64 y.num,.string y.name,.string y.field,.int .i64 y.l,.int .i64 y.r])) W= .ok (.bool !b) W:=fun W=>by rw[ac,z]
           have ah: ∀(M:BinOp) (a b:Operand) (W:World),Sem.run Tryz.prog (eqGuard M 85 a b (.agg #[.int .i64 x.kind,.int .i64 x.num,.string x.name,.string x.field,.int .i64 x.l,.int .i64 x.r]) (.agg #[.int .i64 y.kind,.int .i64 y.num,.string y.name,.string y.field,.int .i64 y.l,.int .i64 y.r])) W= .ok () W:=fun M a b W=>ae M a b x y W
           go_wp2
           have kc:=cell_regrown c4
           have kd:=cell_regrown d4
           have k0:=cell_regrown C0.out
           have v0:=cell_regrown D0.out
           have k1:=cell_regrown C1.out
           have v1:=cell_regrown D1.out
           have k2:=cell_regrown C2.out
           have v2:=cell_regrown D2.out
           have k3:=cell_regrown C3.out
           have v3:=cell_regrown D3.out
           have k4:=cell_regrown C4.out
           have v4:=cell_regrown D4.out
           have k5:=cell_regrown C5.out
           have v5:=cell_regrown D5.out
           simp only[Nat.add_zero] at k0 v0
           refine wp_region_quiet_below (by kernel_rfl) (by kernel_rfl) ?_
           repeat (go_big_quiet_step (fail))
           refine wpQuiet_nil ?_
           intro w2 N
           obtain⟨⟨dq,U⟩,A⟩:=N
           have T2:Hid (TwoM w b1 b2 S1 S2 q E w2):=by show TwoM _ _ _ _ _ _ _ _;rw[A];exact T.out.later (below_regrown wr dq U)
           clear A kc kd c0 c1 Y c3 c4 cf d0 d1 Z d3 d4 df k0 v0 C0 D0 k1 v1 C1 D1 k2 v2 C2 D2 k3 v3 C3 D3 k4 v4 C4 D4 k5 v5 C5 D5
           cases b with
           |true=>
            go_wp2
            go_roundg (gk-1)
            case rel=>exact⟨L,rfl,by have:=HJ.out;omega,by rw[HJ.out];have e:=zgn.1 z;exact zdf V.out HX.out (by rw[e];exact HY.out),T2.out⟩
            case measure=>omega
           |false=>
            go_wp2
            go_ret
            exact⟨⟨false,rfl,⟨fun k=>(by cases k),fun k=>(by have e:=HX.out;rw[k,HY.out] at e;cases e;rw[zgn.2 rfl] at z;cases z)⟩⟩,T2.out.2.2.2.2⟩
          ·have D: ¬(j:Int)<(q.ex.length:Int):=by omega
           obtain rfl:j=q.ex.length:=by omega
           have A4:=zc (zdg (by omega) V.out)
           clear V D J hj
           go_wp2
           go_ret
           exact⟨⟨true,rfl,⟨fun _=>zjs A0.out A1.out A2.out A3.out A4.out,fun _=>rfl⟩⟩,T.out.2.2.2.2⟩
end Go.Proofs.YtcidlffeeninbaaGreat
