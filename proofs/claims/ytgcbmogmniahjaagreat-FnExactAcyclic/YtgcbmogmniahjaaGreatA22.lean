/- Facts and walks that the theorem stands on. -/
import Derived.Test.YtgcbmogmniahjaaGreatA20
import Derived.Test.YtgcbmogmniahjaaGreatA21
namespace Go.Proofs.YtgcbmogmniahjaaGreat
open Go.Proofs.Tryz
set_option maxHeartbeats 12800000
set_option maxRecDepth 100000
open Go.RowKit Go.PlainAid Go.Sort Go.Deep
def lkL (l:Lk):List Value:=[.int .i64 l.frm,.string l.spec,.int .i64 l.to]
def zeu (x:Lk):Nat:=x.spec.size
def zev (x:Lk):Prop:=x.spec.size<=9223372036854775807
theorem zq0 (x:Lk) (left:Int) (w:World) (q:zev x) (A:0<=left) (z:left<=1048576):
  Calls prog 52 #[.agg #[.int .i64 x.frm,.string x.spec,.int .i64 x.to],.int .i64 left] w fun e w'=>zct left (zeu x) e/\Below w.heap.size w w':=by
 unfold zev at q;go_enter func52,ntmps52;go_wp2
 ·go_ret;exact⟨⟨-1,rfl,by omega,by omega,fun h=>by omega⟩,(Below.refl _ _).alloc (Nat.le_refl _) _⟩
 ·go_ret;exact⟨⟨_,rfl,by omega,by omega,fun _=>by unfold zeu;omega⟩,(Below.refl _ _).alloc (Nat.le_refl _) _⟩
theorem zq1 (a:Option Addr) (aa:Nat) (l:List Lk) (left:Int) (w:World) (hr:RowAt w a lkL 3 l) (hl:l.length<=9223372036854775807) (H: ∀x∈l,zev x) (h0:0<=left) (h1:left<=1048576):
  Calls prog 24 #[.slice a l.length aa,.int .i64 left] w fun e w'=>zct left (l.length+zF zeu l) e/\Below w.heap.size w w':=by
 have HR:=zc hr;have HG:=zc H;clear hr H;by_cases ad:(l.length:Int)<=left
 case neg=>
  go_enter func24,ntmps24;go_wp2;go_ret;exact⟨⟨-1,rfl,by omega,by omega,fun h=>by omega⟩,Below.refl _ _⟩
 go_enter func24,ntmps24;go_wp2;go_loopg [1,5] l.length (fun k s1 s5 wr=>∃(j:Nat) (z:Int),s5= .int .i64 j/\s1= .int .i64 z/\j+k=l.length/\0<=z/\z<=left/\z+((l.length+zF zeu (l.take j):Nat):Int)=left/\Below w.heap.size w wr)
 case atStart=>exact⟨0,_,rfl,rfl,by omega,by omega,by omega,by simp[zF],Below.refl _ _⟩
 case round=>
  obtain⟨j,z,rfl,rfl,hj,Z,ab,K,H⟩:=hrel;have HZ:=zc K;have U:=zc H;clear K H;by_cases Y:j<l.length
  ·have N:(j:Int)<(l.length:Int):=by omega
   obtain⟨x,V⟩: ∃x,l[j]? =some x:=⟨_,List.getElem?_eq_getElem Y⟩;obtain⟨b,af,rfl,X⟩:=(HR.o.later U.o).get V;have q:=HG.o x (List.mem_of_getElem? V);have HC:=zc (zeo zeu V);have c0:=X 0 _ rfl;have c1:=X 1 _ rfl;have c2:=X 2 _ rfl;simp only[Nat.add_zero] at c0;clear X V;obtain⟨O,A⟩: ∃O,O=j+1:=⟨_,rfl⟩;have ej:(j:Int)+1=(O:Int):=by omega
   have HJ:=zc A;clear A;go_wp2_with fail;refine (zq0 x z _ q Z (by omega)).mono ?_;rintro e w1 ⟨⟨z1,rfl,ag,ae,J⟩,M⟩;have L:=zc (U.o.trans (M.mono U.o.size));have ac:=zc J;clear M J q c0 c1 c2;by_cases I:0<=z1
   ·go_wp2;go_roundg (gk-1)
    case rel=>exact⟨O,z1,rfl,rfl,by have:=HJ.o;omega,I,by omega,by have:=HZ.o;have:=ac.o I;rw[HJ.o,HC.o];omega,L.o⟩
    case measure=>omega
   ·go_wp2;go_ret;exact⟨⟨-1,rfl,by omega,by omega,fun h=>by omega⟩,L.o⟩
  ·have N: ¬(j:Int)<(l.length:Int):=by omega
   obtain rfl:j=l.length:=by omega
   go_wp2;go_ret;exact⟨⟨z,rfl,by omega,ab,fun _=>by have:=HZ.o;rw[List.take_length] at this;exact this⟩,U.o⟩
theorem Tryz.infoTLk:(prog.info? 57).map (fun i=>(i.zero,i.size,i.bytes))=some (some (.agg #[.int .i64 0,.string {data:=#[]},.int .i64 0]),3,32):=by kernel_rfl
theorem zq2 (x:Lk) (w:World):
  Calls prog 61 #[.agg #[.int .i64 x.frm,.string x.spec,.int .i64 x.to]] w fun e w'=>e= .returned (.agg #[.int .i64 x.frm,.string x.spec,.int .i64 x.to])/\Below w.heap.size w w':=by
 go_enter func61,ntmps61;go_wp2;refine bodyPost_ret (results_cell_row rfl _ _ (w.heap.size+1) 57 #[.int .i64 x.frm,.string x.spec,.int .i64 x.to] (0,0) _ rfl ?_ underlying57 rfl (by kernel_rfl)) rfl ?_
 ·rw[heap_alloc_old _ _ (by show _<((w.heap.push _).push _).size;simp)];exact heap_alloc2_new w _ _
 ·exact⟨rfl,(((Below.refl _ _).alloc (Nat.le_refl _) _).alloc (by show _<=(w.heap.push _).size;simp) _).alloc (by show _<=((w.heap.push _).push _).size;simp;omega) _⟩
theorem zq3 (a:Option Addr) (Z:Nat) (l:List Lk) (w:World) (hr:RowAt w a lkL 3 l) (hl:l.length<=1048576):
  Calls prog 33 #[.slice a l.length Z] w fun e w'=>zeP w 57 3 l.length (l.flatMap lkL) e w':=by
 have HR:=zc hr;clear hr;obtain⟨i0,hi,Y,aa,ab⟩:=info_parts Tryz.infoTLk;go_enter func33,ntmps33;go_wp2_with (first|(at_make;refine wpList_make_full w rfl _ _ 30 rfl w.heap.size 57 i0 _ 3 underlying30 hi Y aa .i64 .i64 _ _ l.length (by rfl) (by rfl) rfl rfl (by rw[ab];omega) (by unfold maxLen;omega) (Nat.le_refl _) ?_));intro V z A;have ad:=zc ((Below.refl _ _).grown A (Nat.le_refl _) (fun k h=>by cases h):Below w.heap.size w V);have I:Hid (OwnC V w.heap.size 57 3 w.heap.size l.length (l.flatMap lkL) 0):=⟨_,z,fun j hj=>absurd hj (Nat.not_lt_zero j)⟩;clear z A;obtain⟨g,L⟩: ∃g,g=w.heap.size:=⟨_,rfl⟩;have ac:=zc L;rw[<-L];rw[<-L] at I;have ae:Hid (OwnC V w.heap.size 57 3 g l.length (l.flatMap lkL) 0):=by rw[<-L];exact I.o
 clear L I;go_wp2;go_loopg [4] l.length (fun k i wr=>∃j:Nat,i= .int .i64 j/\j+k=l.length/\OwnC wr w.heap.size 57 3 g l.length (l.flatMap lkL) (j*3)/\Below w.heap.size w wr)
 case atStart=>exact⟨0,rfl,by omega,ae.o,ad.o⟩
 case round=>
  obtain⟨j,rfl,hj,ho,hb⟩:=hrel;have HO:=zc ho;have O:=zc hb;clear ho hb;by_cases X:j<l.length
  ·have M:(j:Int)<(l.length:Int):=by omega
   obtain⟨x,hx⟩: ∃x,l[j]? =some x:=⟨_,List.getElem?_eq_getElem X⟩;obtain⟨b,ag,rfl,U⟩:=(HR.o.later O.o).get hx;have HX:=zc hx;clear hx;have c0:=U 0 _ rfl;have c1:=U 1 _ rfl;have c2:=U 2 _ rfl;simp only[Nat.add_zero] at c0;clear U;obtain⟨N,K⟩: ∃N,N=j+1:=⟨_,rfl⟩;have ej:(j:Int)+1=(N:Int):=by omega
   have HJ:=zc K;clear K;go_wp2_with fail;refine (zq2 x _).mono ?_;rintro e w2 ⟨rfl,J⟩;have q:=zc (HO.o.later J);have af:=zc (O.o.trans (J.mono O.o.size));clear J c0 c1 c2;obtain⟨v0,g0⟩:=q.o.has (j*3) (by omega);have f0:=q.o.free (j*3);obtain⟨v1,g1⟩:=q.o.has (j*3+1) (by omega);have f1:=q.o.free (j*3+1);obtain⟨v2,g2⟩:=q.o.has (j*3+2) (by omega);have f2:=q.o.free (j*3+2);have HN:=zc (((q.o.put (by omega) (zbm (f:=lkL) (m:=3) (fun _=>rfl) l j x 0 _ HX.o rfl)).put (by omega) (zbm (f:=lkL) (m:=3) (fun _=>rfl) l j x 1 _ HX.o rfl)).put (by omega) (zbm (f:=lkL) (m:=3) (fun _=>rfl) l j x 2 _ HX.o rfl));have H:w.heap.size<=g:=by have:=ac.o;omega
   go_wp2;go_roundg (gk-1)
   case rel=>exact⟨N,rfl,by have:=HJ.o;omega,by rw[HJ.o,Nat.succ_mul];exact HN.o,(((af.o.setCell H _).setCell H _).setCell H _)⟩
   case measure=>omega
  ·have M: ¬(j:Int)<(l.length:Int):=by omega
   obtain rfl:j=l.length:=by omega
   go_wp2;go_ret;exact⟨g,rfl,HO.o.all (zdQ (f:=lkL) (fun _=>rfl) l),O.o⟩
theorem zq4 (x:Lk) (w:World):Calls prog 70 #[.agg #[.int .i64 x.frm,.string x.spec,.int .i64 x.to],.agg #[.int .i64 x.frm,.string x.spec,.int .i64 x.to]] w fun e w'=>e= .returned (.bool true)/\Below w.heap.size w w':=by
 go_enter func70,ntmps70;go_wp2;go_ret;exact⟨rfl,((Below.refl _ _).alloc (Nat.le_refl _) _).alloc (by show _<=(w.heap.push _).size;simp) _⟩
theorem zq5 (q z:Option Addr) (A h:Nat) (w:World):Calls prog 40 #[.slice q 0 A,.slice z 0 h] w fun e w'=>e= .returned (.bool true)/\Below w.heap.size w w':=by
 go_enter func40,ntmps40;go_wp2;go_loopg [5] 1 (fun k i wr=>k=1/\i= .int .i64 0/\wr=w)
 case atStart=>exact⟨rfl,rfl,rfl⟩
 case round=>
  obtain⟨rfl,rfl,rfl⟩:=hrel;go_wp2;go_ret;exact⟨rfl,Below.refl _ _⟩
theorem zq6 (b1 b2 V O:Nat) (M r2:Rw) (l:List Lk) (w:World) (z:OwnR w b1 57 3 M l.length (l.flatMap lkL)) (q:OwnR w b2 57 3 r2 l.length (l.flatMap lkL)) (e1:M.a=some ⟨V,0,none⟩) (e2:r2.a=some ⟨O,0,none⟩) (hl:l.length<=4294967296):
  Calls prog 40 #[.slice (some ⟨V,0,none⟩) l.length M.cap,.slice (some ⟨O,0,none⟩) l.length r2.cap] w fun e w'=>e= .returned (.bool true)/\Below w.heap.size w w':=by
 have H1:=zc z;have H2:=zc q;have E1:=zc e1;have E2:=zc e2;clear z q e1 e2;go_enter func40,ntmps40;go_wp2;go_loopg [5] l.length (fun k i wr=>∃j:Nat,i= .int .i64 j/\j+k=l.length/\Below w.heap.size w wr)
 case atStart=>exact⟨0,rfl,by omega,Below.refl _ _⟩
 case round=>
  obtain⟨j,rfl,hj,hb⟩:=hrel;have H:=zc hb;clear hb;by_cases L:j<l.length
  ·have I:(j:Int)<(l.length:Int):=by omega
   obtain⟨x,Z⟩:=zet L;obtain⟨U,ga,z⟩:=OwnR.elem (f:=lkL) (m:=3) (fun _=>rfl) (H1.o.keep fun k g=>H.o.block k (H1.o.typed g).2.1) Z;obtain rfl:U=V:=by have:=ga.symm.trans E1.o;simpa using this
   obtain⟨U,gb,q⟩:=OwnR.elem (f:=lkL) (m:=3) (fun _=>rfl) (H2.o.keep fun k g=>H.o.block k (H2.o.typed g).2.1) Z;obtain rfl:U=O:=by have:=gb.symm.trans E2.o;simpa using this
   have C0:=zc (z 0 (by omega));have D0:=zc (q 0 (by omega));have C1:=zc (z 1 (by omega));have D1:=zc (q 1 (by omega));have C2:=zc (z 2 (by omega));have D2:=zc (q 2 (by omega));clear z q ga gb Z;have cQ: ∀d os,Calls prog 70 #[.agg #[.int .i64 x.frm,.string x.spec,.int .i64 x.to],.agg #[.int .i64 x.frm,.string x.spec,.int .i64 x.to]] (grow (redrawn wr d) os) fun e Y=>e= .returned (.bool true)/\∃p:Regrown,Y=grow (redrawn wr p.d) p.os:=fun d os=>Calls.regrown_of (zq4 x _);obtain⟨J,A⟩: ∃J,J=j+1:=⟨_,rfl⟩;have ej:(j:Int)+1=(J:Int):=by omega
   have HJ:=zc A;clear A;go_wp2;have k0:=cell_regrown C0.o;have l0:=cell_regrown D0.o;have k1:=cell_regrown C1.o;have l1:=cell_regrown D1.o;have k2:=cell_regrown C2.o;have l2:=cell_regrown D2.o;simp only[Nat.add_zero] at k0 l0;refine wp_region_quiet_below (by kernel_rfl) (by kernel_rfl) ?_
   repeat (go_big_quiet_step (exact cQ _ _))
   refine wpQuiet_nil ?_;intro w2 K;obtain⟨⟨dq,N⟩,h⟩:=K;have X:Hid (Below w.heap.size w w2):=by show Below _ _ _;rw[h];exact H.o.trans ((below_regrown wr dq N).mono H.o.size)
   clear h k0 l0 C0 D0 k1 l1 C1 D1 k2 l2 C2 D2 cQ;go_wp2;go_roundg (gk-1)
   case rel=>exact⟨J,rfl,by have:=HJ.o;omega,X.o⟩
   case measure=>omega
  ·have I: ¬(j:Int)<(l.length:Int):=by omega
   go_wp2;go_ret;exact⟨rfl,H.o⟩
theorem zq7 (A b2:Nat) (q h:Rw) (l:List Lk) (w:World) (J:OwnR w A 57 3 q l.length (l.flatMap lkL)) (I:OwnR w b2 57 3 h l.length (l.flatMap lkL)) (N:l.length<=4294967296):
  Calls prog 40 #[.slice q.a l.length q.cap,.slice h.a l.length h.cap] w fun e w'=>e= .returned (.bool true)/\Below w.heap.size w w':=by
 by_cases z:l.length=0
 ·rw[z];exact zq5 _ _ _ _ w
 ·rcases J.nil_or with ⟨_,_,e⟩|⟨M,H⟩
  ·exact absurd e z
  ·rcases I.nil_or with ⟨_,_,e⟩|⟨L,K⟩
   ·exact absurd e z
   ·rw[H,K];exact zq6 A b2 M L q h l w J I H K N
theorem zq8 {H:Type} {enc:TypeId×Value->H} {w:World} {base:Nat} {q:Nat->Bool} {z:Bool} {n:Nat} {O:List Value} {y:DataW H×List MemPlace} (h:DataW.trod enc prog w base q z n 87 O=some y) (hl:O.length=3): ∃x:Lk,O=lkL x/\zev x:=by
 obtain⟨xs,k,_,_,_,N,U⟩:=DataW.trod_struct underlying87 h;have cS:prog.cellsOf 9=1:=by kernel_rfl
 have Z:prog.cellsOf 3=1:=by kernel_rfl
 obtain⟨M,J,L,rfl⟩:=list3 hl;obtain⟨y0,X,y2,rfl⟩:=list3 (N.trans rfl);have I:DataW.trod enc prog w base q z k 3 (List.take (prog.cellsOf 3) (List.drop 0 [M,J,L]))=some y0:=U 0 _ rfl;rw[Z] at I;replace I:DataW.trod enc prog w base q z k 3 [M]=some y0:=I;have K:DataW.trod enc prog w base q z k 9 (List.take (prog.cellsOf 9) (List.drop 1 [M,J,L]))=some X:=U 1 _ rfl;rw[cS] at K;replace K:DataW.trod enc prog w base q z k 9 [J]=some X:=K;have A:DataW.trod enc prog w base q z k 3 (List.take (prog.cellsOf 3) (List.drop 2 [M,J,L]))=some y2:=U 2 _ rfl;rw[Z] at A;replace A:DataW.trod enc prog w base q z k 3 [L]=some y2:=A;obtain⟨s0,V,_,z0⟩:=DataW.trod_int underlying3 I;simp only[List.cons.injEq,and_true] at V;subst V;obtain⟨s1,e1,_,z1⟩:=DataW.trod_string underlying9 K;simp only[List.cons.injEq,and_true] at e1;subst e1;obtain⟨s2,Y,_,z2⟩:=DataW.trod_int underlying3 A;simp only[List.cons.injEq,and_true] at Y;subst Y;refine⟨⟨s0,s1,s2⟩,rfl,?_⟩;unfold zev;unfold maxLen at z1;show _<=_;omega
theorem zk5 (l:List BA):l.map Value.string=l.flatMap (fun x=>[Value.string x]):=by
 induction l with
 |nil=>rfl
 |cons x l h=>rw[List.map_cons,List.flatMap_cons,h];rfl
def zq9 (w:World) (m:Md) (e:Ending) (w':World):Prop:=∃S,e= .returned (zl S m)/\OwnMd w' w.heap.size S m/\Below w.heap.size w w'
theorem zbw {w:World} {base size n c i:Nat} {e:TypeId} {r:Rw} {xs:List Value} {u:Value} {I:Array Value} (h:OwnR w base e size r n xs) (J:w.heap[c]? =some (.cells I 54 (0,0))) (H:e≠54):OwnR (w.setCell ⟨c,i,none⟩ u) base e size r n xs:=
 h.keep fun k g=>heap_setCell_other w ⟨c,i,none⟩ k u fun z=>by
  obtain⟨_,_,A,q⟩:=h.typed g;simp only at z;rw[z,J] at q;simp only[Option.some.injEq,Obj.cells.injEq] at q;exact H q.2.1.symm
abbrev zqA (w:World) (b:Nat) (x0 x1 x2 x3 x4:Value):World:=((((w.setCell ⟨b,0,none⟩ x0).setCell ⟨b,1,none⟩ x1).setCell ⟨b,2,none⟩ x2).setCell ⟨b,3,none⟩ x3).setCell ⟨b,4,none⟩ x4
theorem zfE {w:World} {base size n c:Nat} {e:TypeId} {r:Rw} {xs:List Value} {v0 v1 v2 v3 v4 z K M J N:Value} (h:OwnR w base e size r n xs) (L:w.heap[c]? =some (.cells #[v0,v1,v2,v3,v4] 54 (0,0))) (q:e≠54):OwnR (zqA w c z K M J N) base e size r n xs:=by
 have I:=zac (i:=0) (u:=z) L;have H:=zac (i:=1) (u:=K) I;have A:=zac (i:=2) (u:=M) H;have O:=zac (i:=3) (u:=J) A;exact zbw (zbw (zbw (zbw (zbw h L q) I q) H q) A q) O q
theorem zqB (A:MA) (m:Md) (w:World) (hr:ModIn w A m) (f1:m.rq.length<=1048576) (f2:m.im.length<=1048576) (f3:m.ep.length<=1048576) (f4:m.st.length<=1048576) (f5:m.ex.length<=1048576):
  Calls prog 60 #[zfC A m] w fun e w'=>zq9 w m e w':=by
 have HR:=zc hr;clear hr;unfold zfC;go_enter func60,ntmps60;go_upto_region 2 with fail;obtain⟨z,ac⟩: ∃z,z=w.heap.size:=⟨_,rfl⟩;rw[<-ac];refine zx (R:=(fun W=>W.heap[z]? =some (.cells #[.slice A.a0 m.rq.length A.c0,.slice A.a1 m.im.length A.c1,.slice A.a2 m.ep.length A.c2,.slice A.a3 m.st.length A.c3,.slice A.a4 m.ex.length A.c4] 85 (0,0))/\W.heap[z+1]? =some (.cells #[.slice none 0 0,.slice none 0 0,.slice none 0 0,.slice none 0 0,.slice none 0 0] 54 (0,0))/\W.heap[z+2]? =some (.cells #[.slice none 0 0,.slice none 0 0,.slice none 0 0,.slice none 0 0,.slice none 0 0] 54 (0,0))/\Below w.heap.size w W)) ?_ ?_
 ·rw[ac];refine⟨?_,?_,?_,?_⟩
  ·rw[heap_alloc_old _ _ (by show _<((w.heap.push _).push _).size;simp;omega),heap_alloc_old _ _ (by show _<(w.heap.push _).size;simp)];exact heap_alloc_new w _
  ·rw[heap_alloc_old _ _ (by show _<((w.heap.push _).push _).size;simp)];exact heap_alloc2_new w _ _
  ·have:=heap_alloc_new ((w.alloc (.cells #[.slice A.a0 m.rq.length A.c0,.slice A.a1 m.im.length A.c1,.slice A.a2 m.ep.length A.c2,.slice A.a3 m.st.length A.c3,.slice A.a4 m.ex.length A.c4] 85)).alloc (.cells #[.slice none 0 0,.slice none 0 0,.slice none 0 0,.slice none 0 0,.slice none 0 0] 54)) (.cells #[.slice none 0 0,.slice none 0 0,.slice none 0 0,.slice none 0 0,.slice none 0 0] 54);simp only[zg] at this;exact this
  ·exact (((Below.refl _ _).alloc (Nat.le_refl _) _).alloc (by show _<=(w.heap.push _).size;simp) _).alloc (by show _<=((w.heap.push _).push _).size;simp;omega) _
 have ab:w.heap.size<=z+2:=by omega
 have aa:w.heap.size<=z+1:=by omega
 clear ac;rintro W0 ⟨hx,hy,V,h⟩;have X:=zc hx;have Y:=zc hy;have Z:=zc V;have I:=zc h;clear hx hy V h;obtain⟨U,K,L,N,O,M⟩:=zj X.o;go_wp2_with fail;refine (zkz A.a0 A.c0 m.rq W0 (HR.o.later I.o).1 f1).mono ?_;rintro e V0 ⟨g0,rfl,q,h⟩;have X2:=zc ((h.block _ (aLt X.o)).trans X.o);have Y2:=zc ((h.block _ (aLt Y.o)).trans Y.o);have H:=zc ((h.block _ (aLt Z.o)).trans Z.o);have J:=zc (I.o.trans (h.mono I.o.size));have P0:=zc (q.low I.o.size);clear q h U K L N O M X Y Z I;obtain⟨U,K,L,N,O,M⟩:=zj H.o;go_upto_region 3 with fail;refine zx (R:=(fun W=>W.heap[z]? =some (.cells #[.slice A.a0 m.rq.length A.c0,.slice A.a1 m.im.length A.c1,.slice A.a2 m.ep.length A.c2,.slice A.a3 m.st.length A.c3,.slice A.a4 m.ex.length A.c4] 85 (0,0))/\W.heap[z+1]? =some (.cells #[.slice none 0 0,.slice none 0 0,.slice none 0 0,.slice none 0 0,.slice none 0 0] 54 (0,0))/\W.heap[z+2]? =some (.cells #[.slice (some ⟨g0,0,none⟩) m.rq.length m.rq.length,.slice none 0 0,.slice none 0 0,.slice none 0 0,.slice none 0 0] 54 (0,0))/\Below w.heap.size w W/\OwnR W w.heap.size 9 1 ⟨some ⟨g0,0,none⟩,m.rq.length⟩ m.rq.length (m.rq.flatMap (fun x=>[Value.string x])))) ⟨(heap_setCell_other _ _ _ _ (by show z≠z+2;omega)).trans X2.o,(heap_setCell_other _ _ _ _ (by show z+1≠z+2;omega)).trans Y2.o,(zac H.o).trans (by simp),J.o.setCell ab _,zbw P0.o H.o (by decide)⟩ ?_;clear X2 Y2 H J U K L N O M P0;rintro W1 ⟨hx,hy,V,h,o0⟩;have X:=zc hx;have Y:=zc hy;have Z:=zc V;have I:=zc h;have O0:=zc o0;clear hx hy V h o0;obtain⟨U,K,L,N,O,M⟩:=zj X.o;go_wp2_with fail;refine (zpV A.a1 A.c1 m.im W1 (HR.o.later I.o).2.1 f2).mono ?_;rintro e V1 ⟨g1,rfl,q,h⟩;have X2:=zc ((h.block _ (aLt X.o)).trans X.o);have Y2:=zc ((h.block _ (aLt Y.o)).trans Y.o);have H:=zc ((h.block _ (aLt Z.o)).trans Z.o);have J:=zc (I.o.trans (h.mono I.o.size));have P0:=zc (O0.o.keep fun k g=>h.block k (O0.o.typed g).2.1);have P1:=zc (q.low I.o.size);clear q h U K L N O M X Y Z I O0;obtain⟨U,K,L,N,O,M⟩:=zj H.o;go_upto_region 4 with fail;refine zx (R:=(fun W=>W.heap[z]? =some (.cells #[.slice A.a0 m.rq.length A.c0,.slice A.a1 m.im.length A.c1,.slice A.a2 m.ep.length A.c2,.slice A.a3 m.st.length A.c3,.slice A.a4 m.ex.length A.c4] 85 (0,0))/\W.heap[z+1]? =some (.cells #[.slice none 0 0,.slice none 0 0,.slice none 0 0,.slice none 0 0,.slice none 0 0] 54 (0,0))/\W.heap[z+2]? =some (.cells #[.slice (some ⟨g0,0,none⟩) m.rq.length m.rq.length,.slice (some ⟨g1,0,none⟩) m.im.length m.im.length,.slice none 0 0,.slice none 0 0,.slice none 0 0] 54 (0,0))/\Below w.heap.size w W/\OwnR W w.heap.size 9 1 ⟨some ⟨g0,0,none⟩,m.rq.length⟩ m.rq.length (m.rq.flatMap (fun x=>[Value.string x]))/\OwnR W w.heap.size 95 3 ⟨some ⟨g1,0,none⟩,m.im.length⟩ m.im.length (m.im.flatMap imL))) ⟨(heap_setCell_other _ _ _ _ (by show z≠z+2;omega)).trans X2.o,(heap_setCell_other _ _ _ _ (by show z+1≠z+2;omega)).trans Y2.o,(zac H.o).trans (by simp),J.o.setCell ab _,zbw P0.o H.o (by decide),zbw P1.o H.o (by decide)⟩ ?_;clear X2 Y2 H J U K L N O M P0 P1;rintro W2 ⟨hx,hy,V,h,o0,o1⟩;have X:=zc hx;have Y:=zc hy;have Z:=zc V;have I:=zc h;have O0:=zc o0;have O1:=zc o1;clear hx hy V h o0 o1;obtain⟨U,K,L,N,O,M⟩:=zj X.o;go_wp2_with fail;refine (zpX A.a2 A.c2 m.ep W2 (HR.o.later I.o).2.2.1 f3).mono ?_;rintro e V2 ⟨g2,rfl,q,h⟩;have X2:=zc ((h.block _ (aLt X.o)).trans X.o);have Y2:=zc ((h.block _ (aLt Y.o)).trans Y.o);have H:=zc ((h.block _ (aLt Z.o)).trans Z.o);have J:=zc (I.o.trans (h.mono I.o.size));have P0:=zc (O0.o.keep fun k g=>h.block k (O0.o.typed g).2.1);have P1:=zc (O1.o.keep fun k g=>h.block k (O1.o.typed g).2.1);have P2:=zc (q.low I.o.size);clear q h U K L N O M X Y Z I O0 O1;obtain⟨U,K,L,N,O,M⟩:=zj H.o;go_upto_region 5 with fail;refine zx (R:=(fun W=>W.heap[z]? =some (.cells #[.slice A.a0 m.rq.length A.c0,.slice A.a1 m.im.length A.c1,.slice A.a2 m.ep.length A.c2,.slice A.a3 m.st.length A.c3,.slice A.a4 m.ex.length A.c4] 85 (0,0))/\W.heap[z+1]? =some (.cells #[.slice none 0 0,.slice none 0 0,.slice none 0 0,.slice none 0 0,.slice none 0 0] 54 (0,0))/\W.heap[z+2]? =some (.cells #[.slice (some ⟨g0,0,none⟩) m.rq.length m.rq.length,.slice (some ⟨g1,0,none⟩) m.im.length m.im.length,.slice (some ⟨g2,0,none⟩) m.ep.length m.ep.length,.slice none 0 0,.slice none 0 0] 54 (0,0))/\Below w.heap.size w W/\OwnR W w.heap.size 9 1 ⟨some ⟨g0,0,none⟩,m.rq.length⟩ m.rq.length (m.rq.flatMap (fun x=>[Value.string x]))/\OwnR W w.heap.size 95 3 ⟨some ⟨g1,0,none⟩,m.im.length⟩ m.im.length (m.im.flatMap imL)/\OwnR W w.heap.size 97 4 ⟨some ⟨g2,0,none⟩,m.ep.length⟩ m.ep.length (m.ep.flatMap epL))) ⟨(heap_setCell_other _ _ _ _ (by show z≠z+2;omega)).trans X2.o,(heap_setCell_other _ _ _ _ (by show z+1≠z+2;omega)).trans Y2.o,(zac H.o).trans (by simp),J.o.setCell ab _,zbw P0.o H.o (by decide),zbw P1.o H.o (by decide),zbw P2.o H.o (by decide)⟩ ?_;clear X2 Y2 H J U K L N O M P0 P1 P2;rintro W3 ⟨hx,hy,V,h,o0,o1,o2⟩;have X:=zc hx;have Y:=zc hy;have Z:=zc V;have I:=zc h;have O0:=zc o0;have O1:=zc o1;have O2:=zc o2;clear hx hy V h o0 o1 o2;obtain⟨U,K,L,N,O,M⟩:=zj X.o;go_wp2_with fail;refine (zpZ A.a3 A.c3 m.st W3 (HR.o.later I.o).2.2.2.1 f4).mono ?_;rintro e V3 ⟨g3,rfl,q,h⟩;have X2:=zc ((h.block _ (aLt X.o)).trans X.o);have Y2:=zc ((h.block _ (aLt Y.o)).trans Y.o);have H:=zc ((h.block _ (aLt Z.o)).trans Z.o);have J:=zc (I.o.trans (h.mono I.o.size));have P0:=zc (O0.o.keep fun k g=>h.block k (O0.o.typed g).2.1);have P1:=zc (O1.o.keep fun k g=>h.block k (O1.o.typed g).2.1);have P2:=zc (O2.o.keep fun k g=>h.block k (O2.o.typed g).2.1);have P3:=zc (q.low I.o.size);clear q h U K L N O M X Y Z I O0 O1 O2;obtain⟨U,K,L,N,O,M⟩:=zj H.o;go_upto_region 6 with fail;refine zx (R:=(fun W=>W.heap[z]? =some (.cells #[.slice A.a0 m.rq.length A.c0,.slice A.a1 m.im.length A.c1,.slice A.a2 m.ep.length A.c2,.slice A.a3 m.st.length A.c3,.slice A.a4 m.ex.length A.c4] 85 (0,0))/\W.heap[z+1]? =some (.cells #[.slice none 0 0,.slice none 0 0,.slice none 0 0,.slice none 0 0,.slice none 0 0] 54 (0,0))/\W.heap[z+2]? =some (.cells #[.slice (some ⟨g0,0,none⟩) m.rq.length m.rq.length,.slice (some ⟨g1,0,none⟩) m.im.length m.im.length,.slice (some ⟨g2,0,none⟩) m.ep.length m.ep.length,.slice (some ⟨g3,0,none⟩) m.st.length m.st.length,.slice none 0 0] 54 (0,0))/\Below w.heap.size w W/\OwnR W w.heap.size 9 1 ⟨some ⟨g0,0,none⟩,m.rq.length⟩ m.rq.length (m.rq.flatMap (fun x=>[Value.string x]))/\OwnR W w.heap.size 95 3 ⟨some ⟨g1,0,none⟩,m.im.length⟩ m.im.length (m.im.flatMap imL)/\OwnR W w.heap.size 97 4 ⟨some ⟨g2,0,none⟩,m.ep.length⟩ m.ep.length (m.ep.flatMap epL)/\OwnR W w.heap.size 102 3 ⟨some ⟨g3,0,none⟩,m.st.length⟩ m.st.length (m.st.flatMap smL))) ⟨(heap_setCell_other _ _ _ _ (by show z≠z+2;omega)).trans X2.o,(heap_setCell_other _ _ _ _ (by show z+1≠z+2;omega)).trans Y2.o,(zac H.o).trans (by simp),J.o.setCell ab _,zbw P0.o H.o (by decide),zbw P1.o H.o (by decide),zbw P2.o H.o (by decide),zbw P3.o H.o (by decide)⟩ ?_;clear X2 Y2 H J U K L N O M P0 P1 P2 P3;rintro W4 ⟨hx,hy,V,h,o0,o1,o2,o3⟩;have X:=zc hx;have Y:=zc hy;have Z:=zc V;have I:=zc h;have O0:=zc o0;have O1:=zc o1;have O2:=zc o2;have O3:=zc o3;clear hx hy V h o0 o1 o2 o3;obtain⟨U,K,L,N,O,M⟩:=zj X.o;go_wp2_with fail;refine (zqb A.a4 A.c4 m.ex W4 (HR.o.later I.o).2.2.2.2 f5).mono ?_;rintro e V4 ⟨g4,rfl,q,h⟩;have X2:=zc ((h.block _ (aLt X.o)).trans X.o);have Y2:=zc ((h.block _ (aLt Y.o)).trans Y.o);have H:=zc ((h.block _ (aLt Z.o)).trans Z.o);have J:=zc (I.o.trans (h.mono I.o.size));have P0:=zc (O0.o.keep fun k g=>h.block k (O0.o.typed g).2.1);have P1:=zc (O1.o.keep fun k g=>h.block k (O1.o.typed g).2.1);have P2:=zc (O2.o.keep fun k g=>h.block k (O2.o.typed g).2.1);have P3:=zc (O3.o.keep fun k g=>h.block k (O3.o.typed g).2.1);have P4:=zc (q.low I.o.size);clear q h U K L N O M X Y Z I O0 O1 O2 O3;obtain⟨U,K,L,N,O,M⟩:=zj H.o;go_upto_region 7 with fail;refine zx (R:=(fun W=>W.heap[z]? =some (.cells #[.slice A.a0 m.rq.length A.c0,.slice A.a1 m.im.length A.c1,.slice A.a2 m.ep.length A.c2,.slice A.a3 m.st.length A.c3,.slice A.a4 m.ex.length A.c4] 85 (0,0))/\W.heap[z+1]? =some (.cells #[.slice none 0 0,.slice none 0 0,.slice none 0 0,.slice none 0 0,.slice none 0 0] 54 (0,0))/\W.heap[z+2]? =some (.cells #[.slice (some ⟨g0,0,none⟩) m.rq.length m.rq.length,.slice (some ⟨g1,0,none⟩) m.im.length m.im.length,.slice (some ⟨g2,0,none⟩) m.ep.length m.ep.length,.slice (some ⟨g3,0,none⟩) m.st.length m.st.length,.slice (some ⟨g4,0,none⟩) m.ex.length m.ex.length] 54 (0,0))/\Below w.heap.size w W/\OwnR W w.heap.size 9 1 ⟨some ⟨g0,0,none⟩,m.rq.length⟩ m.rq.length (m.rq.flatMap (fun x=>[Value.string x]))/\OwnR W w.heap.size 95 3 ⟨some ⟨g1,0,none⟩,m.im.length⟩ m.im.length (m.im.flatMap imL)/\OwnR W w.heap.size 97 4 ⟨some ⟨g2,0,none⟩,m.ep.length⟩ m.ep.length (m.ep.flatMap epL)/\OwnR W w.heap.size 102 3 ⟨some ⟨g3,0,none⟩,m.st.length⟩ m.st.length (m.st.flatMap smL)/\OwnR W w.heap.size 100 6 ⟨some ⟨g4,0,none⟩,m.ex.length⟩ m.ex.length (m.ex.flatMap exL))) ⟨(heap_setCell_other _ _ _ _ (by show z≠z+2;omega)).trans X2.o,(heap_setCell_other _ _ _ _ (by show z+1≠z+2;omega)).trans Y2.o,(zac H.o).trans (by simp),J.o.setCell ab _,zbw P0.o H.o (by decide),zbw P1.o H.o (by decide),zbw P2.o H.o (by decide),zbw P3.o H.o (by decide),zbw P4.o H.o (by decide)⟩ ?_;clear X2 Y2 H J U K L N O M P0 P1 P2 P3 P4;rintro W5 ⟨hx,hy,V,h,o0,o1,o2,o3,o4⟩;have Y:=zc hy;have Z:=zc V;have I:=zc h;have O0:=zc o0;have O1:=zc o1;have O2:=zc o2;have O3:=zc o3;have O4:=zc o4;clear hx hy V h o0 o1 o2 o3 o4;obtain⟨U,K,L,N,O,M⟩:=zj Z.o;obtain⟨d0,d1,d2,d3,d4,df⟩:=zj Y.o;go_wp2;refine bodyPost_ret (results_cell_row rfl _ _ (z+1) 54 #[.slice (some ⟨g0,0,none⟩) m.rq.length m.rq.length,.slice (some ⟨g1,0,none⟩) m.im.length m.im.length,.slice (some ⟨g2,0,none⟩) m.ep.length m.ep.length,.slice (some ⟨g3,0,none⟩) m.st.length m.st.length,.slice (some ⟨g4,0,none⟩) m.ex.length m.ex.length] (0,0) _ rfl ?_ underlying54 rfl (by kernel_rfl)) rfl ?_
 ·exact zd6 Y.o
 ·refine⟨⟨⟨some ⟨g0,0,none⟩,m.rq.length⟩,⟨some ⟨g1,0,none⟩,m.im.length⟩,⟨some ⟨g2,0,none⟩,m.ep.length⟩,⟨some ⟨g3,0,none⟩,m.st.length⟩,⟨some ⟨g4,0,none⟩,m.ex.length⟩,⟨none,0⟩⟩,rfl,⟨?_,?_,?_,?_,?_⟩,((((I.o.setCell aa _).setCell aa _).setCell aa _).setCell aa _).setCell aa _⟩
  ·rw[zk5];exact zfE O0.o Y.o (by decide)
  ·exact zfE O1.o Y.o (by decide)
  ·exact zfE O2.o Y.o (by decide)
  ·exact zfE O3.o Y.o (by decide)
  ·exact zfE O4.o Y.o (by decide)
def zbg (e:Ep):Im:=⟨sNone,e.loc,e.name⟩
def zb9 (C:Cx) (exp:Bool) (q:PS):Except Nat (PS×Ep):=bd (zm C true q) fun a=>bd (asP C exp a) fun b=>.ok (b.1,⟨0,b.2,a.2,sNone⟩)
theorem zk6 (C:Cx) (h:Bool) (q:PS) (acc:List Ep):za4 C h q acc=bd (zb9 C h q) fun x=>
  if isT C x.1.pos 4 zbF then za4 C h (adv x.1) (acc++[x.2]) else bd (zd C 4 zb1 x.1) fun q'=>.ok (q',acc++[x.2]):=by
 rw[zgg,zb9,zP];refine zag fun a _=>?_;rw[zP];rfl
theorem zqC {C:Cx} {q:PS} {a:PS×BA} (w:zm C true q= .ok a) (h:isT C a.1.pos 1 sAs=true):zb9 C false q=bd (zm C false (adv a.1)) fun b=>.ok (b.1,⟨0,b.2,a.2,sNone⟩):=by
 rw[zb9,w,zA,asP,if_pos h]
theorem zqD {C:Cx} {q:PS} {a:PS×BA} (z:zm C true q= .ok a) (h:isT C a.1.pos 1 sAs=false) (w:(a.2.toList==[100,101,102,97,117,108,116])=true):zb9 C false q= .error (zs C a.1.pos):=by
 rw[zb9,z,zA,asP,if_neg (by rw[h];decide),if_pos (by rw[w];rfl)];rfl
theorem zqE {C:Cx} {q:PS} {a:PS×BA} (z:zm C true q= .ok a) (h:isT C a.1.pos 1 sAs=false) (w:(a.2.toList==[100,101,102,97,117,108,116])=false):zb9 C false q= .ok (a.1,⟨0,a.2,a.2,sNone⟩):=by
 rw[zb9,z,zA,asP,if_neg (by rw[h];decide),if_neg (by rw[w];decide)];rfl
theorem zo {w:World} {b:Nat} {t:TypeId} {v0 v1 v2:Value} (h:w.heap[b]? =some (.cells #[v0,v1,v2] t (0,0))):
  w.cell? ⟨b,0,none⟩=some v0/\w.cell? ⟨b,1,none⟩=some v1/\w.cell? ⟨b,2,none⟩=some v2/\∀i,w.frozen? ⟨b,i,none⟩=false:=by
 refine⟨?_,?_,?_,fun i=>?_⟩<;>simp[World.cell?,World.frozen?,h]
theorem put3 {w:World} {b:Nat} {v0 v1 v2 q A z:Value} {t:TypeId} (h:w.heap[b]? =some (.cells #[v0,v1,v2] t (0,0))):
  (((w.setCell ⟨b,0,none⟩ q).setCell ⟨b,1,none⟩ A).setCell ⟨b,2,none⟩ z).heap[b]? =some (.cells #[q,A,z] t (0,0)):=by
 have e:=zac (i:=2) (u:=z) (zac (i:=1) (u:=A) (zac (i:=0) (u:=q) h));rw[e];simp
theorem zqF (C:Cx) (M A base K:Nat) (S:Sv) (q:PS) (w:World) (h:IM C M A base K S q w):
  Calls prog 248 #[.pointer (some ⟨K,0,none⟩)] w (zU C M A base K (zb9 C false q) (·.1) (fun a=>imV (zbg a.2)) S w):=by
 have J:w.heap.size≠K:=by have:=h.lt;omega
 have I:w.heap.size≠M:=by have:=(zau h.mem.tok).1;omega
 go_enter func248,ntmps248;go_wp2_with fail;refine (zfz C M A base K S q _ (h.alloc _)).mono ?_;cases L:zm C true q with
 |error p=>
  rintro e w1 ⟨rfl,hb⟩;have HB:Below base w w1:=(h.back ((IS.refl _ _ _).alloc _)).trans hb;have Y:Hid (zb9 C false q= .error p):=by show _=_;rw[zb9,L];rfl
  unfold Pan;go_wp2;refine⟨rfl,?_⟩;rw[Y.o];exact⟨rfl,HB⟩
 |ok a=>
  rintro e w1 ⟨rfl,V,U,O⟩;cases Z:isT C a.1.pos 1 sAs with
  |true=>
   have HY:=zc (zqC L Z);go_wp2_with fail;refine (zO C M A base K V a.1 1 sAs _ U (by decide)).mono ?_;rintro e w2 ⟨rfl,z,s⟩;rw[Z] at z ⊢;have H:=O.trans s;clear s;go_wp2_with fail;refine (zd8 C M A base K V (adv a.1) _ z).mono ?_;cases aa:zm C false (adv a.1) with
   |error p=>
    rintro e w3 ⟨rfl,hb⟩;have HB:=(h.back H.from).trans hb;have Y:Hid (zb9 C false q= .error p):=bdE HY.o aa;unfold Pan;go_wp2;refine⟨rfl,?_⟩;rw[Y.o];exact⟨rfl,HB⟩
   |ok c=>
    rintro e w3 ⟨rfl,S3,ab,s⟩;have X:=H.trans s;clear s;have Y:=zc (bdO HY.o aa);have HG:Hid (w3.heap[w.heap.size]? =some (.cells #[.string sNone,.string sNone,.string sNone] 95 (0,0))):=IS.kept h X rfl;have N:Hid (¬S3.has w.heap.size):=IS.free h X;obtain⟨b0,b1,b2,bf⟩:=zo HG.o;go_wp2;refine bodyPost_ret (results_cell_row rfl _ _ w.heap.size 95 _ (0,0) _ rfl (put3 HG.o) underlying95 rfl (by kernel_rfl)) rfl ?_;rw[Y.o];exact⟨rfl,S3,((ab.set J I N.o _ _).set J I N.o _ _).set J I N.o _ _,((X.from.new (Nat.le_refl _) _ _).new (Nat.le_refl _) _ _).new (Nat.le_refl _) _ _⟩
  |false=>
   cases hd:(a.2.toList==[100,101,102,97,117,108,116]) with
   |true=>
    have HY:=zc (zqD L Z hd);go_wp2_with fail;refine (zO C M A base K V a.1 1 sAs _ U (by decide)).mono ?_;rintro e w2 ⟨rfl,z,s⟩;rw[Z] at z ⊢;have H:=O.trans s;clear s;go_wp2_with fail;refine (zeI C M A base K V a.1 _ z).mono ?_;rintro e w3 ⟨rfl,hb⟩;have HB:=(h.back H.from).trans (hb.mono z.mem.base);unfold Pan;go_wp2;refine⟨rfl,?_⟩;rw[HY.o];exact⟨rfl,HB⟩
   |false=>
    have Y:=zc (zqE L Z hd);go_wp2_with fail;refine (zO C M A base K V a.1 1 sAs _ U (by decide)).mono ?_;rintro e w2 ⟨rfl,z,s⟩;rw[Z] at z ⊢;have H:=O.trans s;clear s;have HG:Hid (w2.heap[w.heap.size]? =some (.cells #[.string sNone,.string sNone,.string sNone] 95 (0,0))):=IS.kept h H rfl;have N:Hid (¬V.has w.heap.size):=IS.free h H;obtain⟨b0,b1,b2,bf⟩:=zo HG.o;go_wp2;refine bodyPost_ret (results_cell_row rfl _ _ w.heap.size 95 _ (0,0) _ rfl (put3 HG.o) underlying95 rfl (by kernel_rfl)) rfl ?_;rw[Y.o];exact⟨rfl,V,((z.set J I N.o _ _).set J I N.o _ _).set J I N.o _ _,((H.from.new (Nat.le_refl _) _ _).new (Nat.le_refl _) _ _).new (Nat.le_refl _) _ _⟩
abbrev Bk (w:World) (b:Nat) (cs:Array Value) (t:TypeId):Prop:=w.heap[b]? =some (.cells cs t (0,0))
theorem Bk.later {w w':World} {b:Nat} {q:Array Value} {t:TypeId} (h:Bk w b q t) (z:Below w.heap.size w w'):Bk w' b q t:=(z.block _ (aLt h)).trans h
theorem zaf {w w' q:World} (h:Below w.heap.size w w') (z:Below w'.heap.size w' q):Below w.heap.size w q:=h.trans (z.mono h.size)
def maL (x:MA×Md):List Value:=[.slice x.1.a0 x.2.rq.length x.1.c0,.slice x.1.a1 x.2.im.length x.1.c1,.slice x.1.a2 x.2.ep.length x.1.c2,.slice x.1.a3 x.2.st.length x.1.c3,.slice x.1.a4 x.2.ex.length x.1.c4]
def mdL (x:Sv×Md):List Value:=[.slice x.1.rq.a x.2.rq.length x.1.rq.cap,.slice x.1.im.a x.2.im.length x.1.im.cap,.slice x.1.ep.a x.2.ep.length x.1.ep.cap,.slice x.1.st.a x.2.st.length x.1.st.cap,.slice x.1.ex.a x.2.ex.length x.1.ex.cap]
def zds (x:MA×Md):Nat:=zbv x.2
theorem zqG (a:Option Addr) (aa:Nat) (l:List (MA×Md)) (left:Int) (w:World) (hr:RowAt w a maL 5 l) (hi: ∀x∈l,ModIn w x.1 x.2) (hl:l.length<=9223372036854775807) (H: ∀x∈l,zfD x.2) (h0:0<=left) (h1:left<=1048576):
  Calls prog 23 #[.slice a l.length aa,.int .i64 left] w fun e w'=>zct left (l.length+zF zds l) e/\Below w.heap.size w w':=by
 have HR:=zc hr;have HI:=zc hi;have HG:=zc H;clear hr H hi;by_cases ae:(l.length:Int)<=left
 case neg=>
  go_enter func23,ntmps23;go_wp2;go_ret;exact⟨⟨-1,rfl,by omega,by omega,fun h=>by omega⟩,Below.refl _ _⟩
 go_enter func23,ntmps23;go_wp2;go_loopg [1,5] l.length (fun k s1 s5 wr=>∃(j:Nat) (z:Int),s5= .int .i64 j/\s1= .int .i64 z/\j+k=l.length/\0<=z/\z<=left/\z+((l.length+zF zds (l.take j):Nat):Int)=left/\Below w.heap.size w wr)
 case atStart=>exact⟨0,_,rfl,rfl,by omega,by omega,by omega,by simp[zF],Below.refl _ _⟩
 case round=>
  obtain⟨j,z,rfl,rfl,hj,Z,ac,L,H⟩:=hrel;have HZ:=zc L;have J:=zc H;clear L H;by_cases X:j<l.length
  ·have U:(j:Int)<(l.length:Int):=by omega
   obtain⟨x,N⟩: ∃x,l[j]? =some x:=⟨_,List.getElem?_eq_getElem X⟩;obtain⟨b,ag,rfl,q⟩:=(HR.o.later J.o).get N;have ab:=zc ((HI.o x (List.mem_of_getElem? N)).later J.o);have Y:=zc (HG.o x (List.mem_of_getElem? N));have HC:=zc (zeo zds N);have c0:=q 0 _ rfl;have c1:=q 1 _ rfl;have c2:=q 2 _ rfl;have c3:=q 3 _ rfl;have c4:=q 4 _ rfl;simp only[Nat.add_zero] at c0;clear q N;obtain⟨V,A⟩: ∃V,V=j+1:=⟨_,rfl⟩;have ej:(j:Int)+1=(V:Int):=by omega
   have HJ:=zc A;clear A;go_wp2_with fail;refine (zpT x.1 x.2 z _ ab.o Y.o Z (by omega)).mono ?_;rintro e w1 ⟨⟨z1,rfl,ah,af,K⟩,O⟩;have M:=zc (J.o.trans (O.mono J.o.size));have ad:=zc K;clear O K c0 c1 c2 c3 c4;by_cases I:0<=z1
   ·go_wp2;go_roundg (gk-1)
    case rel=>exact⟨V,z1,rfl,rfl,by have:=HJ.o;omega,I,by omega,by have:=HZ.o;have:=ad.o I;rw[HJ.o,HC.o];have:zds x=zbv x.2:=rfl;omega,M.o⟩
    case measure=>omega
   ·go_wp2;go_ret;exact⟨⟨-1,rfl,by omega,by omega,fun h=>by omega⟩,M.o⟩
  ·have U: ¬(j:Int)<(l.length:Int):=by omega
   obtain rfl:j=l.length:=by omega
   go_wp2;go_ret;exact⟨⟨z,rfl,by omega,ac,fun _=>by have:=HZ.o;rw[List.take_length] at this;exact this⟩,J.o⟩
structure GA where
 pa:Option Addr
 pc:Nat
 ma:Option Addr
 mc:Nat
 la:Option Addr
 lc:Nat
 ms:List (MA×Md)
structure Gr where
 ps:List BA
 ms:List Md
 ls:List Lk
def grA (A:GA) (g:Gr):Value:=.agg #[.slice A.pa g.ps.length A.pc,.slice A.ma A.ms.length A.mc,.slice A.la g.ls.length A.lc]
structure GrIn (w:World) (A:GA) (g:Gr):Prop where
 ps:RowAt w A.pa (fun x=>[Value.string x]) 1 g.ps
 ms:RowAt w A.ma maL 5 A.ms
 md: ∀x∈A.ms,ModIn w x.1 x.2
 ls:RowAt w A.la lkL 3 g.ls
 same:A.ms.map (·.2)=g.ms
structure BigG (A:GA) (g:Gr):Prop where
 ps:g.ps.length<=9223372036854775807
 pS: ∀x∈g.ps,zdR x
 ms:A.ms.length<=9223372036854775807
 mS: ∀x∈A.ms,zfD x.2
 ls:g.ls.length<=9223372036854775807
 lS: ∀x∈g.ls,zev x
theorem GrIn.later {w w':World} {A:GA} {g:Gr} (h:GrIn w A g) (q:Below w.heap.size w w'):GrIn w' A g:=⟨h.ps.later q,h.ms.later q,fun x z=>(h.md x z).later q,h.ls.later q,h.same⟩
def zfF (A:GA) (g:Gr):Nat:=(g.ps.length+zF zbZ g.ps)+(A.ms.length+zF zds A.ms)+(g.ls.length+zF zeu g.ls)
theorem zqH (A:GA) (g:Gr) (left:Int) (w:World) (hr:GrIn w A g) (q:BigG A g) (h0:0<=left) (h1:left<=1048576):
  Calls prog 7 #[grA A g,.int .i64 left] w fun e w'=>zct left (zfF A g) e/\Below w.heap.size w w':=by
 have HR:=zc hr;have K:=zc q;clear hr q;unfold grA;go_enter func7,ntmps7;go_upto_region 1 with fail;obtain⟨L,z⟩: ∃L,L=w.alloc (.cells #[.slice A.pa g.ps.length A.pc,.slice A.ma A.ms.length A.mc,.slice A.la g.ls.length A.lc] 26):=⟨_,rfl⟩;rw[<-z];have Y:Hid (Bk L w.heap.size #[.slice A.pa g.ps.length A.pc,.slice A.ma A.ms.length A.mc,.slice A.la g.ls.length A.lc] 26):=by rw[z];exact heap_alloc_new w _
 have H:Hid (Below w.heap.size w L):=by rw[z];exact (Below.refl _ _).alloc (Nat.le_refl _) _
 clear z;have M0:=zc (HR.o.later H.o);clear HR;obtain⟨V,N,O,U⟩:=zo Y.o;go_wp2_with fail;refine (zky A.pa A.pc g.ps left L M0.o.ps K.o.ps K.o.pS (by omega) (by omega)).mono ?_;rintro e W1 ⟨⟨z0,rfl,y0,u0,v0⟩,q⟩;have I:=zc (zaf H.o q);have X:=zc (M0.o.later q);have X1:=zc (Y.o.later q);have V0:=zc v0;clear q v0 V N O U M0 Y H;by_cases t0:0<=z0
 case neg=>
  go_wp2;go_ret;exact⟨⟨-1,rfl,by omega,by omega,fun h=>by omega⟩,I.o⟩
 obtain⟨V,N,O,U⟩:=zo X1.o;go_wp2_with fail;refine (zqG A.ma A.mc A.ms z0 W1 X.o.ms X.o.md K.o.ms K.o.mS (by omega) (by omega)).mono ?_;rintro e W2 ⟨⟨z1,rfl,y1,u1,v1⟩,q⟩;have J:=zc (zaf I.o q);have Z:=zc (X.o.later q);have X2:=zc (X1.o.later q);have V1:=zc v1;clear q v1 V N O U X X1 I;by_cases t1:0<=z1
 case neg=>
  go_wp2;go_ret;exact⟨⟨-1,rfl,by omega,by omega,fun h=>by omega⟩,J.o⟩
 obtain⟨V,N,O,U⟩:=zo X2.o;go_wp2_with fail;refine (zq1 A.la A.lc g.ls z1 W2 Z.o.ls K.o.ls K.o.lS (by omega) (by omega)).mono ?_;rintro e W3 ⟨⟨z2,rfl,y2,u2,v2⟩,q⟩;have M:=zc (zaf J.o q);have M3:=zc (Z.o.later q);have X3:=zc (X2.o.later q);have V2:=zc v2;clear q v2 V N O U Z X2 J;by_cases t2:0<=z2
 case neg=>
  go_wp2;go_ret;exact⟨⟨-1,rfl,by omega,by omega,fun h=>by omega⟩,M.o⟩
 go_wp2;go_ret;exact⟨⟨z2,rfl,by omega,by omega,fun _=>by have q0:=V0.o t0;have q1:=V1.o t1;have q2:=V2.o t2;unfold zfF;omega⟩,M.o⟩
theorem OwnMd.low {w:World} {b z:Nat} {S:Sv} {m:Md} (h:OwnMd w b S m) (q:z<=b):OwnMd w z S m:=⟨h.rq.low q,h.im.low q,h.ep.low q,h.st.low q,h.ex.low q⟩
theorem OwnR.aside {w:World} {base size n c i:Nat} {e t:TypeId} {r:Rw} {xs:List Value} {u:Value} {I:Array Value} (h:OwnR w base e size r n xs) (J:w.heap[c]? =some (.cells I t (0,0))) (H:e≠t):OwnR (w.setCell ⟨c,i,none⟩ u) base e size r n xs:=
 h.keep fun k g=>heap_setCell_other w ⟨c,i,none⟩ k u fun z=>by
  obtain⟨_,_,A,q⟩:=h.typed g;simp only at z;rw[z,J] at q;simp only[Option.some.injEq,Obj.cells.injEq] at q;exact H q.2.1.symm
theorem OwnMd.aside {w:World} {b c i:Nat} {S:Sv} {m:Md} {t:TypeId} {u:Value} {A:Array Value} (h:OwnMd w b S m) (z:w.heap[c]? =some (.cells A t (0,0))) (q:t≠9/\t≠95/\t≠97/\t≠102/\t≠100):OwnMd (w.setCell ⟨c,i,none⟩ u) b S m:=
 ⟨h.rq.aside z q.1.symm,h.im.aside z q.2.1.symm,h.ep.aside z q.2.2.1.symm,h.st.aside z q.2.2.2.1.symm,h.ex.aside z q.2.2.2.2.symm⟩
theorem zgB {w:World} {b g o:Nat} {S:Sv} {m:Md} {A M N L U:Value} (h:OwnMd w b S m) (V: ∃q,w.heap[g]? =some (.cells q 54 (0,0))):
  OwnMd (((((w.setCell ⟨g,o,none⟩ A).setCell ⟨g,o+1,none⟩ M).setCell ⟨g,o+2,none⟩ N).setCell ⟨g,o+3,none⟩ L).setCell ⟨g,o+4,none⟩ U) b S m:=by
 obtain⟨q,J⟩:=V;have I:=zac (i:=o) (u:=A) J;have H:=zac (i:=o+1) (u:=M) I;have K:=zac (i:=o+2) (u:=N) H;have O:=zac (i:=o+3) (u:=L) K;have z:(54:TypeId)≠9/\(54:TypeId)≠95/\(54:TypeId)≠97/\(54:TypeId)≠102/\(54:TypeId)≠100:=by decide
 exact ((((h.aside J z).aside I z).aside H z).aside K z).aside O z
theorem OwnR.put {w:World} {base size n g:Nat} {e:TypeId} {r:Rw} {xs:List Value} (h:OwnR w base e size r n xs) (q:r.a=some ⟨g,0,none⟩) (j:Nat) (u:Value):OwnR (w.setCell ⟨g,j,none⟩ u) base e size r n (xs.set j u):=by
 obtain⟨a,z⟩:=r;simp only at q;subst q;exact (World.ownsRow.stored h j u).1
theorem OwnR.blkOf {r:Rw} {g:Nat} (h:r.a=some ⟨g,0,none⟩):r.blk=some g:=by rw[Rw.blk,h];rfl
theorem OwnR.free {w:World} {base size n g:Nat} {e:TypeId} {r:Rw} {xs:List Value} (h:OwnR w base e size r n xs) (z:r.a=some ⟨g,0,none⟩) (j:Nat):w.frozen? ⟨g,j,none⟩=false:=by
 obtain⟨_,_,q,A⟩:=h.typed (OwnR.blkOf z);simp[World.frozen?,A]
theorem OwnC.block {w:World} {base g n m c:Nat} {e:TypeId} {A:List Value} (h:OwnC w base e m g n A c): ∃q,w.heap[g]? =some (.cells q e (0,0)):=by
 obtain⟨H,z,_⟩:=h;exact (OwnR.typed (r:=⟨some ⟨g,0,none⟩,n⟩) z rfl).2.2
theorem OwnC.more {w:World} {base g n m c:Nat} {e:TypeId} {q I:List Value} (h:OwnC w base e m g n q c) (K:c<=q.length):OwnC w base e m g n (q++I) c:=by
 obtain⟨H,A,z⟩:=h;exact⟨H,A,fun i J=>by rw[List.getElem?_append_left (by omega)];exact z i J⟩
theorem zqI {α β:Type} {S:List α} {l:List β} {s:α} {x:β} (h:l[S.length]? =some x):(S++[s]).zip l=S.zip l++[(s,x)]:=by
 induction S generalizing l with
 |nil=>cases l with
  |nil=>cases h
  |cons y l=>cases h;simp
 |cons a S q=>cases l with
  |nil=>cases h
  |cons y l=>simp only[List.cons_append,List.zip_cons_cons];rw[q h]
def zqJ (w:World) (l:List Md) (e:Ending) (w':World):Prop:=∃(g:Nat) (S:List Sv),S.length=l.length/\e= .returned (.slice (some ⟨g,0,none⟩) l.length l.length)/\OwnR w' w.heap.size 54 5 ⟨some ⟨g,0,none⟩,l.length⟩ l.length ((S.zip l).flatMap mdL)/\(∀x∈S.zip l,OwnMd w' w.heap.size x.1 x.2)/\Below w.heap.size w w'
theorem Tryz.infoTMd:(prog.info? 54).map (fun i=>(i.zero,i.size,i.bytes))=some (some (.agg #[.slice none 0 0,.slice none 0 0,.slice none 0 0,.slice none 0 0,.slice none 0 0]),5,120):=by kernel_rfl
def zfG (m:Md):Prop:=m.rq.length<=1048576/\m.im.length<=1048576/\m.ep.length<=1048576/\m.st.length<=1048576/\m.ex.length<=1048576
theorem zqK (a:Option Addr) (ao:Nat) (l:List (MA×Md)) (w:World) (hr:RowAt w a maL 5 l) (hi: ∀x∈l,ModIn w x.1 x.2) (hf: ∀x∈l,zfG x.2) (hl:l.length<=1048576):
  Calls prog 32 #[.slice a l.length ao] w fun e w'=>zqJ w (l.map (·.2)) e w':=by
 have HR:=zc hr;have HI:=zc hi;have HF:=zc hf;have M:Hid ((l.map (·.2)).length=l.length):=List.length_map ..;clear hr hi hf;obtain⟨i0,hi,ag,ap,al⟩:=info_parts Tryz.infoTMd;go_enter func32,ntmps32;go_wp2_with (first|(at_make;refine wpList_make_full w rfl _ _ 29 rfl w.heap.size 54 i0 _ 5 underlying29 hi ag ap .i64 .i64 _ _ l.length (by rfl) (by rfl) rfl rfl (by rw[al];omega) (by unfold maxLen;omega) (Nat.le_refl _) ?_));intro w1 A K;have am:=zc ((Below.refl _ _).grown K (Nat.le_refl _) (fun k h=>by cases h):Below w.heap.size w w1);have X:Hid (OwnC w1 w.heap.size 54 5 w.heap.size l.length [] 0):=⟨_,A,fun j hj=>absurd hj (Nat.not_lt_zero j)⟩;clear A K;obtain⟨g,hg⟩: ∃g,g=w.heap.size:=⟨_,rfl⟩;have ah:=zc hg;rw[<-hg];have ai:Hid (OwnC w1 w.heap.size 54 5 g l.length [] 0):=by rw[hg];exact X.o
 clear hg X;go_wp2;go_loopg [4] l.length (fun k i wr=>∃(j:Nat) (S:List Sv),i= .int .i64 j/\j+k=l.length/\S.length=j/\OwnC wr w.heap.size 54 5 g l.length ((S.zip (l.map (·.2))).flatMap mdL) (j*5)/\(∀x∈S.zip (l.map (·.2)),OwnMd wr w.heap.size x.1 x.2)/\Below w.heap.size w wr)
 case atStart=>exact⟨0,[],rfl,by omega,rfl,ai.o,(fun x L=>by cases L),am.o⟩
 case round=>
  obtain⟨j,S,rfl,hj,hs,ho,hm,hb⟩:=hrel;have HO:=zc ho;have HM:=zc hm;have N:=zc hb;have Z:=zc hs;clear ho hb hm hs;by_cases af:j<l.length
  ·have aa:(j:Int)<(l.length:Int):=by omega
   obtain⟨x,L⟩: ∃x,l[j]? =some x:=⟨_,List.getElem?_eq_getElem af⟩;obtain⟨b,ar,rfl,O⟩:=(HR.o.later N.o).get L;have ak:=zc ((HI.o x (List.mem_of_getElem? L)).later N.o);have I:=zc (HF.o x (List.mem_of_getElem? L));have HX:Hid ((l.map (·.2))[j]? =some x.2):=by show _=_;rw[List.getElem?_map,L];rfl
   clear L;have c0:=O 0 _ rfl;have c1:=O 1 _ rfl;have c2:=O 2 _ rfl;have c3:=O 3 _ rfl;have c4:=O 4 _ rfl;simp only[Nat.add_zero] at c0;clear O;obtain⟨j1,Y⟩: ∃j1,j1=j+1:=⟨_,rfl⟩;have ej:(j:Int)+1=(j1:Int):=by omega
   have HJ:=zc Y;clear Y;go_wp2_with fail;refine (zqB x.1 x.2 _ ak.o I.o.1 I.o.2.1 I.o.2.2.1 I.o.2.2.2.1 I.o.2.2.2.2).mono ?_;rintro e w2 ⟨V,rfl,ab,J⟩;have q:=zc (HO.o.later J);have an:Hid (∀y∈S.zip (l.map (·.2)),OwnMd w2 w.heap.size y.1 y.2):=fun y U=>(HM.o y U).later J;have aq:=zc (ab.low N.o.size);have aj:=zc (N.o.trans (J.mono N.o.size));clear J ab c0 c1 c2 c3 c4 HO HM N;obtain⟨v0,g0⟩:=q.o.has (j*5) (by omega);have f0:=q.o.free (j*5);obtain⟨v1,g1⟩:=q.o.has (j*5+1) (by omega);have f1:=q.o.free (j*5+1);obtain⟨v2,g2⟩:=q.o.has (j*5+2) (by omega);have f2:=q.o.free (j*5+2);obtain⟨v3,g3⟩:=q.o.has (j*5+3) (by omega);have f3:=q.o.free (j*5+3);obtain⟨v4,g4⟩:=q.o.has (j*5+4) (by omega);have f4:=q.o.free (j*5+4);have HZ:Hid ((S++[V]).zip (l.map (·.2))=S.zip (l.map (·.2))++[(V,x.2)]):=zqI (by rw[Z.o];exact HX.o);have ae:((S.zip (l.map (·.2))).flatMap mdL).length=j*5:=by rw[zdQ (f:=mdL) (m:=5) (fun _=>rfl),List.length_zip,Z.o,List.length_map];congr 1;omega
   have z: ∀i v,(mdL (V,x.2))[i]? =some v->(((S++[V]).zip (l.map (·.2))).flatMap mdL)[j*5+i]? =some v:=by
    intro i v hv;rw[HZ.o,List.flatMap_append,List.getElem?_append_right (by omega),ae,show j*5+i-j*5=i by omega]
    simpa using hv
   have ad:Hid (OwnC w2 w.heap.size 54 5 g l.length (((S++[V]).zip (l.map (·.2))).flatMap mdL) (j*5)):=by
    show OwnC ..;rw[HZ.o,List.flatMap_append];exact q.o.more (by omega)
   have HN:=zc (((((ad.o.put (by omega) (z 0 _ rfl)).put (by omega) (z 1 _ rfl)).put (by omega) (z 2 _ rfl)).put (by omega) (z 3 _ rfl)).put (by omega) (z 4 _ rfl));have ac:=zc q.o.block;clear z ae ad;have H:w.heap.size<=g:=by have:=ah.o;omega
   unfold zl;go_wp2;go_roundg (gk-1)
   case rel=>
    refine⟨j1,S++[V],rfl,by have:=HJ.o;omega,by rw[List.length_append,Z.o,HJ.o];rfl,by rw[HJ.o,Nat.succ_mul];exact HN.o,fun y U=>?_,(((((aj.o.setCell H _).setCell H _).setCell H _).setCell H _).setCell H _)⟩;rw[HZ.o,List.mem_append,List.mem_singleton] at U;rcases U with U|rfl
    ·exact zgB (an.o y U) ac.o
    ·exact zgB aq.o ac.o
   case measure=>omega
  ·have aa: ¬(j:Int)<(l.length:Int):=by omega
   obtain rfl:j=l.length:=by omega
   go_wp2;go_ret;have hz:(S.zip (l.map (·.2))).length=l.length:=by rw[List.length_zip,Z.o,List.length_map,Nat.min_self]
   refine⟨g,S,Z.o.trans M.o.symm,by rw[M.o];rfl,?_,HM.o,N.o⟩;rw[M.o];exact HO.o.all (by rw[zdQ (f:=mdL) (m:=5) (fun _=>rfl),hz])
theorem zeQ {w:World} {base:Nat} {r:Rw} {S:List Sv} {l:List Md} (q:S.length=l.length) (h:OwnR w base 54 5 r l.length ((S.zip l).flatMap mdL)):OwnR w base 54 5 r (S.zip l).length ((S.zip l).flatMap mdL):=by
 rw[List.length_zip,q,Nat.min_self];exact h
theorem zdS {α β:Type} {S:List α} {l:List β} (w:S.length=l.length) {j:Nat} {x:β} (h:l[j]? =some x): ∃s,(S.zip l)[j]? =some (s,x):=by
 have q:=(List.getElem?_eq_some_iff.1 h).1;refine⟨S[j],?_⟩;rw[List.getElem?_zip_eq_some];exact⟨List.getElem?_eq_getElem (by omega),h⟩
structure GS where
 pr:Rw
 mr:Rw
 sv:List Sv
 lr:Rw
def grD (G:GS) (g:Gr):Value:=.agg #[.slice G.pr.a g.ps.length G.pr.cap,.slice G.mr.a g.ms.length G.mr.cap,.slice G.lr.a g.ls.length G.lr.cap]
abbrev grC (G:GS) (g:Gr):Array Value:=#[.slice G.pr.a g.ps.length G.pr.cap,.slice G.mr.a g.ms.length G.mr.cap,.slice G.lr.a g.ls.length G.lr.cap]
theorem zaB (w:World) (o:Obj):Below w.heap.size w (w.alloc o):=(Below.refl _ _).alloc (Nat.le_refl _) _
structure GrOwn (w:World) (base:Nat) (G:GS) (g:Gr):Prop where
 ps:OwnR w base 9 1 G.pr g.ps.length (g.ps.flatMap fun x=>[Value.string x])
 ms:OwnR w base 54 5 G.mr g.ms.length ((G.sv.zip g.ms).flatMap mdL)
 md: ∀x∈G.sv.zip g.ms,OwnMd w base x.1 x.2
 ls:OwnR w base 57 3 G.lr g.ls.length (g.ls.flatMap lkL)
 len:G.sv.length=g.ms.length
theorem OwnR.later {w w':World} {base size n:Nat} {e:TypeId} {r:Rw} {xs:List Value} (h:OwnR w base e size r n xs) (q:Below w.heap.size w w'):OwnR w' base e size r n xs:=h.keep fun k g=>q.block k (h.typed g).2.1
theorem GrOwn.later {w w':World} {base:Nat} {G:GS} {g:Gr} (h:GrOwn w base G g) (q:Below w.heap.size w w'):GrOwn w' base G g:=⟨h.ps.later q,h.ms.later q,fun x z=>(h.md x z).later q,h.ls.later q,h.len⟩
abbrev zxg (t:TypeId):Prop:=t≠9/\t≠95/\t≠97/\t≠102/\t≠100
abbrev lgC (A:GA) (g:Gr):Array Value:=#[.slice A.pa g.ps.length A.pc,.slice A.ma A.ms.length A.mc,.slice A.la g.ls.length A.lc]
structure GrTmp (w W:World) (A:GA) (g:Gr) (gx:Nat) (v0 v1 v2:Value):Prop where
 x:Bk W gx (lgC A g) 26
 y:Bk W (gx+1) #[.slice none 0 0,.slice none 0 0,.slice none 0 0] 32
 z:Bk W (gx+2) #[v0,v1,v2] 32
 b:Below w.heap.size w W
theorem GrTmp.later {w W I:World} {A:GA} {g:Gr} {H:Nat} {v0 v1 v2:Value} (h:GrTmp w W A g H v0 v1 v2) (q:Below W.heap.size W I):GrTmp w I A g H v0 v1 v2:=⟨h.x.later q,h.y.later q,h.z.later q,zaf h.b q⟩
theorem GrTmp.set {w W:World} {A:GA} {g:Gr} {q:Nat} {v0 v1 v2 u:Value} (h:GrTmp w W A g q v0 v1 v2) (H:w.heap.size<=q) (i:Nat):GrTmp w (W.setCell ⟨q+2,i,none⟩ u) A g q (if i=0 then u else v0) (if i=1 then u else v1) (if i=2 then u else v2):=by
 refine⟨?_,?_,?_,h.b.setCell (by show _<=q+2;omega) _⟩
 ·exact (heap_setCell_other W ⟨q+2,i,none⟩ q u (by simp)).trans h.x
 ·exact (heap_setCell_other W ⟨q+2,i,none⟩ (q+1) u (by simp)).trans h.y
 ·refine (zac (i:=i) (u:=u) h.z).trans ?_
  match i with
  |0=>rfl
  |1=>rfl
  |2=>rfl
  |i+3=>rfl
def zqL (w:World) (g:Gr) (e:Ending) (w':World):Prop:=∃G,e= .returned (grD G g)/\GrOwn w' w.heap.size G g/\Below w.heap.size w w'
theorem zhZ (A:GA) (g:Gr) (w:World) (hr:GrIn w A g) (hf: ∀x∈A.ms,zfG x.2) (f1:g.ps.length<=1048576) (f2:A.ms.length<=1048576) (f3:g.ls.length<=1048576):
  Calls prog 9 #[grA A g] w fun e w'=>zqL w g e w':=by
 have HR:=zc hr;have HF:=zc hf;have HL:Hid (A.ms.length=g.ms.length):=by have:=congrArg List.length hr.same;rw[List.length_map] at this;exact this
 clear hr hf;unfold grA;go_enter func9,ntmps9;go_upto_region 2 with fail;obtain⟨U,ab⟩: ∃U,U=w.heap.size:=⟨_,rfl⟩;rw[<-ab];refine zx (R:=fun W=>GrTmp w W A g U (.slice none 0 0) (.slice none 0 0) (.slice none 0 0)) ?_ ?_
 ·rw[ab];refine⟨?_,?_,?_,?_⟩
  ·show _=_;rw[heap_alloc_old _ _ (by show _<((w.heap.push _).push _).size;simp;omega),heap_alloc_old _ _ (by show _<(w.heap.push _).size;simp)];exact heap_alloc_new w _
  ·show _=_;rw[heap_alloc_old _ _ (by show _<((w.heap.push _).push _).size;simp)];exact heap_alloc2_new w _ _
  ·have:=heap_alloc_new ((w.alloc (.cells (lgC A g) 26)).alloc (.cells #[.slice none 0 0,.slice none 0 0,.slice none 0 0] 32)) (.cells #[.slice none 0 0,.slice none 0 0,.slice none 0 0] 32);simp only[zg] at this;exact this
  ·exact (((Below.refl _ _).alloc (Nat.le_refl _) _).alloc (by show _<=(w.heap.push _).size;simp) _).alloc (by show _<=((w.heap.push _).push _).size;simp;omega) _
 have Z:w.heap.size<=U:=by omega
 clear ab;intro W0 O;have T0:=zc O;clear O;obtain⟨M,J,K,L⟩:=zo T0.o.x;go_wp2_with fail;refine (zkz A.pa A.pc g.ps W0 (HR.o.later T0.o.b).ps f1).mono ?_;rintro e V0 ⟨X,rfl,h,I⟩;have H:=zc (T0.o.later I);have P0:=zc (h.low T0.o.b.size);clear h I M J K L T0;obtain⟨M,J,K,L⟩:=zo H.o.z;go_upto_region 3 with fail;refine zx (R:=fun W=>GrTmp w W A g U (.slice (some ⟨X,0,none⟩) g.ps.length g.ps.length) (.slice none 0 0) (.slice none 0 0)/\OwnR W w.heap.size 9 1 ⟨some ⟨X,0,none⟩,g.ps.length⟩ g.ps.length (g.ps.flatMap fun x=>[Value.string x])) ⟨H.o.set Z 0,P0.o.aside H.o.z (by decide)⟩ ?_;clear H P0 M J K L;rintro W1 ⟨O,ho⟩;have H:=zc O;have P0:=zc ho;clear O ho;obtain⟨M,J,K,L⟩:=zo H.o.x;go_wp2_with fail;refine (zqK A.ma A.mc A.ms W1 (HR.o.later H.o.b).ms (HR.o.later H.o.b).md HF.o f2).mono ?_;rw[HR.o.same];rintro e V1 ⟨g1,S,ac,rfl,h,ad,I⟩;have N:=zc (H.o.later I);have P1:=zc (P0.o.later I);have P2:=zc (h.low H.o.b.size);have P3:Hid (∀x∈S.zip g.ms,OwnMd V1 w.heap.size x.1 x.2):=fun x V=>(ad x V).low H.o.b.size;have ae:=zc ac;clear h I ad ac M J K L H P0;obtain⟨M,J,K,L⟩:=zo N.o.z;go_upto_region 4 with fail;refine zx (R:=fun W=>GrTmp w W A g U (.slice (some ⟨X,0,none⟩) g.ps.length g.ps.length) (.slice (some ⟨g1,0,none⟩) g.ms.length g.ms.length) (.slice none 0 0)/\OwnR W w.heap.size 9 1 ⟨some ⟨X,0,none⟩,g.ps.length⟩ g.ps.length (g.ps.flatMap fun x=>[Value.string x])/\OwnR W w.heap.size 54 5 ⟨some ⟨g1,0,none⟩,g.ms.length⟩ g.ms.length ((S.zip g.ms).flatMap mdL)/\∀x∈S.zip g.ms,OwnMd W w.heap.size x.1 x.2) ⟨N.o.set Z 1,P1.o.aside N.o.z (by decide),P2.o.aside N.o.z (by decide),fun x V=>(P3.o x V).aside N.o.z (by decide)⟩ ?_;clear N P1 P2 P3 M J K L;rintro W2 ⟨O,Y,h2,h3⟩;have N:=zc O;have P1:=zc Y;have P2:=zc h2;have P3:=zc h3;clear O Y h2 h3;obtain⟨M,J,K,L⟩:=zo N.o.x;go_wp2_with fail;refine (zq3 A.la A.lc g.ls W2 (HR.o.later N.o.b).ls f3).mono ?_;rintro e V2 ⟨g2,rfl,h,I⟩;have q:=zc (N.o.later I);have Q1:=zc (P1.o.later I);have Q2:=zc (P2.o.later I);have Q3:Hid (∀x∈S.zip g.ms,OwnMd V2 w.heap.size x.1 x.2):=fun x V=>(P3.o x V).later I;have Q4:=zc (h.low N.o.b.size);clear h I M J K L N P1 P2 P3;obtain⟨M,J,K,L⟩:=zo q.o.z;go_upto_region 5 with fail;refine zx (R:=fun W=>GrTmp w W A g U (.slice (some ⟨X,0,none⟩) g.ps.length g.ps.length) (.slice (some ⟨g1,0,none⟩) g.ms.length g.ms.length) (.slice (some ⟨g2,0,none⟩) g.ls.length g.ls.length)/\GrOwn W w.heap.size ⟨⟨some ⟨X,0,none⟩,g.ps.length⟩,⟨some ⟨g1,0,none⟩,g.ms.length⟩,S,⟨some ⟨g2,0,none⟩,g.ls.length⟩⟩ g) ⟨q.o.set Z 2,Q1.o.aside q.o.z (by decide),Q2.o.aside q.o.z (by decide),fun x V=>(Q3.o x V).aside q.o.z (by decide),Q4.o.aside q.o.z (by decide),ae.o⟩ ?_;clear q Q1 Q2 Q3 Q4 M J K L;rintro W3 ⟨O,ho⟩;have q:=zc O;have O3:=zc ho;clear O ho;obtain⟨M,J,K,L⟩:=zo q.o.z;obtain⟨d0,d1,d2,df⟩:=zo q.o.y;go_wp2;refine bodyPost_ret (results_cell_row rfl _ _ (U+1) 32 #[.slice (some ⟨X,0,none⟩) g.ps.length g.ps.length,.slice (some ⟨g1,0,none⟩) g.ms.length g.ms.length,.slice (some ⟨g2,0,none⟩) g.ls.length g.ls.length] (0,0) _ rfl (put3 q.o.y) underlying32 rfl (by kernel_rfl)) rfl ?_;have aa:w.heap.size<=U+1:=by omega
 have h0:=q.o.y;have Y:=zac (i:=0) (u:=.slice (some ⟨X,0,none⟩) g.ps.length g.ps.length) h0;have h2:=zac (i:=1) (u:=.slice (some ⟨g1,0,none⟩) g.ms.length g.ms.length) Y;exact⟨_,rfl,⟨((O3.o.ps.aside h0 (by decide)).aside Y (by decide)).aside h2 (by decide),((O3.o.ms.aside h0 (by decide)).aside Y (by decide)).aside h2 (by decide),fun x V=>(((O3.o.md x V).aside h0 (by decide)).aside Y (by decide)).aside h2 (by decide),((O3.o.ls.aside h0 (by decide)).aside Y (by decide)).aside h2 (by decide),O3.o.len⟩,((q.o.b.setCell aa _).setCell aa _).setCell aa _⟩
theorem zfH {α:Type} (f:α->BA) (l:List α): ∀t:BA,(acc f l t).size=t.size+(l.map fun x=>(f x).size).sum:=by
 induction l with
 |nil=>intro t;rfl
 |cons x l h=>
  intro t;show (acc f l (t++f x)).size=_;rw[h,ByteArray.size_append,List.map_cons,List.sum_cons,Nat.add_assoc]
theorem zgC {α:Type} {f c:α->Nat} (l:List α) (h: ∀x∈l,f x<=40+c x):(l.map f).sum<=40*l.length+zF c l:=by
 induction l with
 |nil=>exact Nat.le_refl _
 |cons x l q=>
  have z:=h x (List.mem_cons_self ..);have A:=q fun y w=>h y (List.mem_cons_of_mem _ w);unfold zF at*;rw[List.map_cons,List.sum_cons,List.map_cons,List.sum_cons,List.length_cons];omega
theorem zk7 {α:Type} {f c g:α->Nat} (l:List α) (h: ∀x∈l,f x<=40+c x+g x):(l.map f).sum<=40*l.length+zF c l+(l.map g).sum:=by
 induction l with
 |nil=>exact Nat.le_refl _
 |cons x l q=>
  have z:=h x (List.mem_cons_self ..);have A:=q fun y w=>h y (List.mem_cons_of_mem _ w);unfold zF at*;rw[List.map_cons,List.sum_cons,List.map_cons,List.sum_cons,List.map_cons,List.sum_cons,List.length_cons];omega
theorem zdt {α:Type} {c:α->Nat} {l:List α} {x:α} (h:x∈l):c x<=zF c l:=by
 induction l with
 |nil=>cases h
 |cons y l q=>
  unfold zF at*;rw[List.map_cons,List.sum_cons];rcases List.mem_cons.1 h with rfl|h
  ·omega
  ·have:=q h;omega
theorem zcU (a:Array UInt8):(⟨a⟩:BA).size=a.size:=rfl
theorem zeR (s:BA):(za1 s).size=s.size+2:=by
 rw[za1,ByteArray.size_append,ByteArray.size_append,zcU];show 1+s.size+1=_;omega
theorem zk8 (a b:BA):(asT a b).size<=a.size+b.size+4:=by
 unfold asT
 split
 ·omega
 ·have z:(({data:=#[32,97,115,32]}:BA)).size=4:=rfl;rw[ByteArray.size_append,ByteArray.size_append,z];omega
theorem zqM (s:BA):(rqT s).size<=40+zbZ s:=by
 rw[rqT,ByteArray.size_append,ByteArray.size_append,zeR,zcU,zcU];show 7+(s.size+2)+2<=40+s.size;omega
theorem zqN (x:Im):(zad x).size<=40+zca x:=by
 have h:=zk8 x.first x.loc;unfold zad zca
 split
 ·simp only[ByteArray.size_append,zeR,zcU];simp only[List.size_toArray,List.length_cons,List.length_nil];omega
 ·split
  ·simp only[ByteArray.size_append,zeR,zcU];simp only[List.size_toArray,List.length_cons,List.length_nil];omega
  ·simp only[ByteArray.size_append,zeR,zcU];simp only[List.size_toArray,List.length_cons,List.length_nil];omega
theorem zqO (x:Ep):(epF x).size<=40+zcb x:=by
 have h:=zk8 x.loc x.name;unfold epF
 split
 ·exact Nat.zero_le _
 ·unfold zbu zcb
  split
  ·simp only[ByteArray.size_append,zeR,zcU];simp only[List.size_toArray,List.length_cons,List.length_nil];omega
  ·split
   ·simp only[ByteArray.size_append,zeR,zcU];simp only[List.size_toArray,List.length_cons,List.length_nil];omega
   ·simp only[ByteArray.size_append,zcU];simp only[List.size_toArray,List.length_cons,List.length_nil];omega
theorem zk9 (k:Int) (n e:BA):(za6 k n e).size<=40+n.size+e.size:=by
 unfold za6
 repeat' split
 all_goals
  simp only[ByteArray.size_append,zcU];simp only[List.size_toArray,List.length_cons,List.length_nil];omega
theorem zqP (k:Int) (n e:BA):(zdq k n e).size<=40+n.size+e.size:=by
 unfold zdq
 split
 ·simp only[ByteArray.size_append,zcU];simp only[List.size_toArray,List.length_cons,List.length_nil];omega
 ·exact zk9 k n e
theorem zqQ (l:List Ex):(l.map zdH).sum<=40*l.length+zF zcJ l:=zgC l fun x _=>by unfold zdH zcJ;omega
theorem zqR (m:Md):(zci m).size<=40*m.rq.length+zF zbZ m.rq+(40*m.im.length+zF zca m.im)+(40*m.ep.length+zF zcb m.ep):=by
 have h:=zgC (c:=zbZ) m.rq fun x _=>zqM x;have q:=zgC (c:=zca) m.im fun x _=>zqN x;have w:=zgC (c:=zcb) m.ep fun x _=>zqO x;rw[zci,zfH,zfH,zfH];have:sNone.size=0:=rfl;omega
theorem zkA {m:Md} (t:Tree m) (h:zaW m.ex):(zcj m).size<=40*zbv m/\(zbK m).size<=40*zbv m:=by
 have A:=zqR m;have z:=znB t h;have I:=zqQ m.ex;have w:=zk7 (c:=zcu) (g:=fun s=>wt m.ex s.expr.toNat) (f:=fun s=>(stF m.ex s).size) m.st fun s _=>zk9 s.kind s.name _;have q:=zk7 (c:=zcu) (g:=fun s=>wt m.ex s.expr.toNat) (f:=fun s=>(zcH m.ex s).size) m.st fun s _=>zqP s.kind s.name _;have H:zbv m=(m.rq.length+zF zbZ m.rq)+(m.im.length+zF zca m.im)+(m.ep.length+zF zcb m.ep)+(m.st.length+zF zcu m.st)+(m.ex.length+zF zcJ m.ex):=rfl;constructor
 ·rw[zcj,zfH];omega
 ·rw[zbK,zfH];omega
theorem zqS {m:Md} (h:zbv m<=67108864) (w:zaW m.ex):Small m:=by
 have z:zbv m=(m.rq.length+zF zbZ m.rq)+(m.im.length+zF zca m.im)+(m.ep.length+zF zcb m.ep)+(m.st.length+zF zcu m.st)+(m.ex.length+zF zcJ m.ex):=rfl;refine⟨fun x q=>?_,fun x q=>?_,fun x q=>?_,fun x q=>?_,w,?_,?_,?_,?_,?_⟩
 ·have e:zbZ x=x.size:=rfl;have:=zdt (c:=zbZ) q;omega
 ·have:=zdt (c:=zca) q;have e:zca x=x.spec.size+x.first.size+x.loc.size:=rfl;omega
 ·have:=zdt (c:=zcb) q;have e:zcb x=x.name.size+x.loc.size+x.spec.size:=rfl;omega
 ·have:=zdt (c:=zcu) q;have e:zcu x=x.name.size:=rfl;omega
 all_goals omega
theorem zkB {m:Md} (h:zbv m<=1048576) (q:zaW m.ex):Small m:=zqS (Nat.le_trans h (by decide)) q
def zeS (ps:List BA) (i:Nat):Prop:=(ps.getD i sNone).toList.isEmpty=false/\((zaK (ps.getD i sNone)).toList==(ps.getD i sNone).toList)=true/\inL (ps.take i) (ps.getD i sNone)=false
def zcc (ps:List BA) (i:Nat):Prop:=zaU (ps.getD i sNone)=true/\((zaK (ps.getD i sNone)).toList==(ps.getD i sNone).toList)=true/\inL (ps.take i) (ps.getD i sNone)=false
theorem zkC (q:List BA) (i:Nat):zeS q i↔zcc q i:=by
 constructor
 ·rintro⟨w,h,z⟩;exact⟨zpI w h,h,z⟩
 ·rintro⟨w,h,z⟩;refine⟨?_,h,z⟩;have:=(zdO.1 w).1;generalize q.getD i sNone=p at this;cases A:p.toList with
  |nil=>
   rw[Lib.toList_data] at A;have e:p.data.toList.length=p.data.size:=Array.length_toList;rw[A] at e;have H:p.size=p.data.size:=rfl;rw[H,<-e] at this;exact absurd this (by decide)
  |cons=>rfl
def zC (g:Gr):List (List BA):=g.ms.map (·.rq)
def zcV (ms:List Md):Prop:=∀m∈ms,MOk m/\zar m=0
def GrS (g:Gr):Prop:=(1<=g.ms.length/\g.ms.length<=8)/\g.ps.length=g.ms.length/\(∀i,i<g.ms.length->zeS g.ps i)/\zcV g.ms/\zf9 (zC g) g.ls/\∀j,j<g.ms.length->(zai g.ls g.ms.length (zaX g.ms.length))[j]? =some true
def GrI (g:Gr):Prop:=(1<=g.ms.length/\g.ms.length<=8)/\g.ps.length=g.ms.length/\(∀i,i<g.ps.length->zcc g.ps i)/\zcV g.ms/\zbQ (zC g) g.ls/\(dfs (zbR (zC g) g.ls) g.ms.length 0 (List.replicate g.ms.length false,[])).2.length=g.ms.length
theorem zgD {g:Gr} (h:zcV g.ms): ∀rq∈zC g,rq.Nodup:=by
 intro rq w;obtain⟨m,q,rfl⟩:=List.mem_map.1 w;exact (h m q).1.parts.nd
theorem zck (g:Gr):(zC g).length=g.ms.length:=List.length_map ..
theorem zqT (g:Gr):GrS g↔GrI g:=by
 constructor
 ·rintro⟨A,z,H,h,q,w⟩;have I:=(zki (zgD h)).1 q;refine⟨A,z,fun i J=>(zkC _ _).1 (H i (by omega)),h,I,?_⟩;have:=(zko (zgD h) I (by rw[zck];omega)).1;rw[zck] at this;exact this w
 ·rintro⟨A,z,H,h,q,w⟩;refine⟨A,z,fun i J=>(zkC _ _).2 (H i (by omega)),h,(zki (zgD h)).2 q,?_⟩;have:=(zko (zgD h) q (by rw[zck];omega)).2;rw[zck] at this;exact this w
def GdM (m:Md):Prop:=zbv m<=1048576/\zaW m.ex
structure GdG (g:Gr):Prop where
 ms: ∀m∈g.ms,GdM m
 ps: ∀p∈g.ps,p.size<=1048576
 pl:g.ps.length<=1048576
 ml:g.ms.length<=1048576
 ll:g.ls.length<=1048576
 rq:zaq (zC g)<=1048576
def zfI (f:FuncId):Prop:=∀(base:Nat) (S:Sv) (m:Md) (w:World),OwnMd w base S m->GdM m->Calls prog f #[zl S m,.bool false] w fun e w'=>SameOut (MOk m) e/\Below w.heap.size w w'
def zfJ (f:FuncId):Prop:=∀(base:Nat) (S:Sv) (m:Md) (w:World),OwnMd w base S m->GdM m->MOk m->Calls prog f #[zl S m,.bool false] w fun e w'=>e= .returned (.int .i64 (zar m))/\Below w.heap.size w w'
theorem SameOut.of {P:Prop} {e:Ending} (h:SameOut P e) {b:Bool} (w:b=true↔P):e= .returned (.bool b):=by
 obtain⟨c,rfl,q⟩:=h;have:c=b:=by
  cases c<;>cases b<;>simp_all
 rw[this]
theorem zia {q:List (List BA)} {i:Nat} {rq:List BA} (h:q[i]? =some rq):zaq (q.take (i+1))=zaq (q.take i)+rq.length:=by
 obtain⟨w,rfl⟩:=List.getElem?_eq_some_iff.1 h;rw[List.take_succ_eq_append_getElem w,zaq,zaq,List.map_append,List.sum_append];simp
theorem zib (h:List (List BA)) (i:Nat):zaq (h.take i)<=zaq h:=by
 have:zaq h=zaq (h.take i)+zaq (h.drop i):=by
  unfold zaq;rw[<-List.sum_append,<-List.map_append,List.take_append_drop]
 omega
theorem OwnR.cap {w:World} {base size n:Nat} {e:TypeId} {r:Rw} {xs:List Value} (h:OwnR w base e size r n xs):n<=r.cap:=by
 rcases h.2 with ⟨q,I⟩|⟨g,A,z,q,_,_,H,_⟩
 ·omega
 ·simp only[Value.slice.injEq] at q;rw[q.2.2];exact H
theorem zdT {w q:World} {p:Regrown} (h:q=grow (redrawn w p.d) p.os):Below w.heap.size w q:=by
 rw[h];exact below_regrown w p.d p.os
theorem zbx {P:Prop} {e:Ending} (h: ¬P) (q:e= .returned (.bool false)):SameOut P e:=⟨false,q,by simp[h]⟩
theorem zic {P:Prop} {e:Ending} (h:P) (q:e= .returned (.bool true)):SameOut P e:=⟨true,q,by simp[h]⟩
theorem zqU (ac: ∀(x y:Im) (W:World),Sem.run prog (binOp .neq 95 (.agg #[.string x.spec,.string x.first,.string x.loc]) (.agg #[.string y.spec,.string y.first,.string y.loc])) W= .ok (.bool (!zdm x y)) W) (ak: ∀(O:BinOp) (a b:Operand) (x y:Im) (W:World),Sem.run prog (eqGuard O 95 a b (.agg #[.string x.spec,.string x.first,.string x.loc]) (.agg #[.string y.spec,.string y.first,.string y.loc])) W= .ok () W) (ai: ∀(x y:Ep) (W:World),Sem.run prog (binOp .neq 97 (.agg #[.int .i64 x.kind,.string x.name,.string x.loc,.string x.spec]) (.agg #[.int .i64 y.kind,.string y.name,.string y.loc,.string y.spec])) W= .ok (.bool (!zdn x y)) W) (af: ∀(O:BinOp) (a b:Operand) (x y:Ep) (W:World),Sem.run prog (eqGuard O 97 a b (.agg #[.int .i64 x.kind,.string x.name,.string x.loc,.string x.spec]) (.agg #[.int .i64 y.kind,.string y.name,.string y.loc,.string y.spec])) W= .ok () W) (aj: ∀(x y:Sm) (W:World),Sem.run prog (binOp .neq 102 (.agg #[.int .i64 x.kind,.string x.name,.int .i64 x.expr]) (.agg #[.int .i64 y.kind,.string y.name,.int .i64 y.expr])) W= .ok (.bool (!zdo x y)) W) (ae: ∀(O:BinOp) (a b:Operand) (x y:Sm) (W:World),Sem.run prog (eqGuard O 102 a b (.agg #[.int .i64 x.kind,.string x.name,.int .i64 x.expr]) (.agg #[.int .i64 y.kind,.string y.name,.int .i64 y.expr])) W= .ok () W) (ah: ∀(x y:Ex) (W:World),Sem.run prog (binOp .neq 100 (.agg #[.int .i64 x.kind,.int .i64 x.num,.string x.name,.string x.field,.int .i64 x.l,.int .i64 x.r]) (.agg #[.int .i64 y.kind,.int .i64 y.num,.string y.name,.string y.field,.int .i64 y.l,.int .i64 y.r])) W= .ok (.bool (!zdp x y)) W) (ad: ∀(O:BinOp) (a b:Operand) (x y:Ex) (W:World),Sem.run prog (eqGuard O 100 a b (.agg #[.int .i64 x.kind,.int .i64 x.num,.string x.name,.string x.field,.int .i64 x.l,.int .i64 x.r]) (.agg #[.int .i64 y.kind,.int .i64 y.num,.string y.name,.string y.field,.int .i64 y.l,.int .i64 y.r])) W= .ok () W) (b1 b2:Nat) (S1 S2:Sv) (q I:Md) (w:World) (M:OwnMd w b1 S1 q) (L:OwnMd w b2 S2 I) (hf:zdK q):
  Calls prog 56 #[zl S1 q,zl S2 I] w fun e w'=>SameOut (q=I) e/\Below w.heap.size w w':=by
 have H1:=zc M;have H2:=zc L;obtain⟨f1,f2,f3,f4,f5⟩:=hf;clear M L;unfold zl;go_enter func56,ntmps56;go_upto_region 1 with fail;refine zx (R:=TwoM w b1 b2 S1 S2 q I) (zhG w b1 b2 S1 S2 q I H1.o H2.o) ?_;clear H1 H2;intro w0 h;have T:=zc h;clear h;obtain⟨c0,c1,c2,c3,c4,cf⟩:=zj T.o.1;obtain⟨d0,d1,d2,d3,d4,df⟩:=zj T.o.2.1;by_cases q0:(q.rq.length:Int)=(I.rq.length:Int)
 case neg=>
  go_wp2;go_ret;exact⟨⟨false,rfl,⟨fun k=>(by cases k),fun k=>absurd (by rw[k]) q0⟩⟩,T.o.2.2.2.2⟩
 by_cases q1:(q.im.length:Int)=(I.im.length:Int)
 case neg=>
  go_wp2;go_ret;exact⟨⟨false,rfl,⟨fun k=>(by cases k),fun k=>absurd (by rw[k]) q1⟩⟩,T.o.2.2.2.2⟩
 by_cases q2:(q.ep.length:Int)=(I.ep.length:Int)
 case neg=>
  go_wp2;go_ret;exact⟨⟨false,rfl,⟨fun k=>(by cases k),fun k=>absurd (by rw[k]) q2⟩⟩,T.o.2.2.2.2⟩
 by_cases q3:(q.st.length:Int)=(I.st.length:Int)
 case neg=>
  go_wp2;go_ret;exact⟨⟨false,rfl,⟨fun k=>(by cases k),fun k=>absurd (by rw[k]) q3⟩⟩,T.o.2.2.2.2⟩
 by_cases q4:(q.ex.length:Int)=(I.ex.length:Int)
 case neg=>
  go_wp2;go_ret;exact⟨⟨false,rfl,⟨fun k=>(by cases k),fun k=>absurd (by rw[k]) q4⟩⟩,T.o.2.2.2.2⟩
 go_wp2;go_loopg [5] q.rq.length (fun k i wr=>∃j:Nat,i= .int .i64 j/\j+k=q.rq.length/\q.rq.take j=I.rq.take j/\TwoM w b1 b2 S1 S2 q I wr)
 case atStart=>exact⟨0,rfl,by omega,rfl,T.o⟩
 case round=>
  obtain⟨j,rfl,hj,ht,hT⟩:=hrel;clear T c0 c1 c2 c3 c4 cf d0 d1 d2 d3 d4 df;have T:=zc hT;have Z:=zc ht;clear hT ht;obtain⟨c0,c1,c2,c3,c4,cf⟩:=zj T.o.1;obtain⟨d0,d1,d2,d3,d4,df⟩:=zj T.o.2.1;by_cases J:j<q.rq.length
  ·have H:(j:Int)<(q.rq.length:Int):=by omega
   have aa:(j:Int)<(I.rq.length:Int):=by omega
   obtain⟨x,U⟩:=zbt J;obtain⟨y,X⟩:=zbt (show j<I.rq.length by omega);obtain⟨g1,ga,M⟩:=OwnR.elem (f:=(fun x=>[Value.string x])) (m:=1) (fun _=>rfl) (show OwnR wr b1 9 1 S1.rq q.rq.length (q.rq.flatMap (fun x=>[Value.string x])) by rw[<-zeN];exact T.o.2.2.1.rq) U;obtain⟨g2,gb,L⟩:=OwnR.elem (f:=(fun x=>[Value.string x])) (m:=1) (fun _=>rfl) (show OwnR wr b2 9 1 S2.rq I.rq.length (I.rq.flatMap (fun x=>[Value.string x])) by rw[<-zeN];exact T.o.2.2.2.1.rq) X;rw[ga] at c0;rw[gb] at d0;have C0:=zc (M 0 (by omega));have D0:=zc (L 0 (by omega));have HX:=zc U;have HY:=zc X;clear M L ga gb U X;obtain⟨N,K⟩: ∃N,N=j+1:=⟨_,rfl⟩;have ej:(j:Int)+1=(N:Int):=by omega
   have HJ:=zc K;clear K;obtain⟨b,z⟩: ∃b,zhF x y=b:=⟨_,rfl⟩;have al:(x.toList==y.toList)=b:=z;go_wp2;have kc:=cell_regrown c0;have kd:=cell_regrown d0;have k0:=cell_regrown C0.o;have v0:=cell_regrown D0.o;simp only[Nat.add_zero,Nat.mul_one] at k0 v0;refine wp_region_quiet_below (by kernel_rfl) (by kernel_rfl) ?_
   repeat (go_big_quiet_step (fail))
   refine wpQuiet_nil ?_;intro w2 V;obtain⟨⟨dq,Y⟩,A⟩:=V;have T2:Hid (TwoM w b1 b2 S1 S2 q I w2):=by show TwoM _ _ _ _ _ _ _ _;rw[A];exact T.o.later (below_regrown wr dq Y)
   clear A kc kd c0 c1 c2 c3 c4 cf d0 d1 d2 d3 d4 df k0 v0 C0 D0;cases b with
   |true=>
    go_wp2;go_roundg (gk-1)
    case rel=>exact⟨N,rfl,by have:=HJ.o;omega,by rw[HJ.o];have e:=zgv.1 z;exact zdk Z.o HX.o (by rw[e];exact HY.o),T2.o⟩
    case measure=>omega
   |false=>
    go_wp2;go_ret;exact⟨⟨false,rfl,⟨fun k=>(by cases k),fun k=>(by have e:=HX.o;rw[k,HY.o] at e;cases e;rw[zgv.2 rfl] at z;cases z)⟩⟩,T2.o.2.2.2.2⟩
  ·have H: ¬(j:Int)<(q.rq.length:Int):=by omega
   obtain rfl:j=q.rq.length:=by omega
   have A0:=zc (zdl (by omega) Z.o);clear Z H J hj;go_wp2;go_loopg [6] q.im.length (fun k i wr=>∃j:Nat,i= .int .i64 j/\j+k=q.im.length/\q.im.take j=I.im.take j/\TwoM w b1 b2 S1 S2 q I wr)
   case atStart=>exact⟨0,rfl,by omega,rfl,T.o⟩
   case round=>
    obtain⟨j,rfl,hj,ht,hT⟩:=hrel;clear T c0 c1 c2 c3 c4 cf d0 d1 d2 d3 d4 df;have T:=zc hT;have Z:=zc ht;clear hT ht;obtain⟨c0,c1,c2,c3,c4,cf⟩:=zj T.o.1;obtain⟨d0,d1,d2,d3,d4,df⟩:=zj T.o.2.1;by_cases J:j<q.im.length
    ·have H:(j:Int)<(q.im.length:Int):=by omega
     have aa:(j:Int)<(I.im.length:Int):=by omega
     obtain⟨x,U⟩:=zbt J;obtain⟨y,X⟩:=zbt (show j<I.im.length by omega);obtain⟨g1,ga,M⟩:=OwnR.elem (f:=imL) (m:=3) (fun _=>rfl) T.o.2.2.1.im U;obtain⟨g2,gb,L⟩:=OwnR.elem (f:=imL) (m:=3) (fun _=>rfl) T.o.2.2.2.1.im X;rw[ga] at c1;rw[gb] at d1;have C0:=zc (M 0 (by omega));have D0:=zc (L 0 (by omega));have C1:=zc (M 1 (by omega));have D1:=zc (L 1 (by omega));have C2:=zc (M 2 (by omega));have D2:=zc (L 2 (by omega));have HX:=zc U;have HY:=zc X;clear M L ga gb U X;obtain⟨N,K⟩: ∃N,N=j+1:=⟨_,rfl⟩;have ej:(j:Int)+1=(N:Int):=by omega
     have HJ:=zc K;clear K;obtain⟨b,z⟩: ∃b,zdm x y=b:=⟨_,rfl⟩;have ab: ∀W:World,Sem.run prog (binOp .neq 95 (.agg #[.string x.spec,.string x.first,.string x.loc]) (.agg #[.string y.spec,.string y.first,.string y.loc])) W= .ok (.bool !b) W:=fun W=>by rw[ac,z]
     have ag: ∀(O:BinOp) (a b:Operand) (W:World),Sem.run prog (eqGuard O 95 a b (.agg #[.string x.spec,.string x.first,.string x.loc]) (.agg #[.string y.spec,.string y.first,.string y.loc])) W= .ok () W:=fun O a b W=>ak O a b x y W;go_wp2;have kc:=cell_regrown c1;have kd:=cell_regrown d1;have k0:=cell_regrown C0.o;have v0:=cell_regrown D0.o;have k1:=cell_regrown C1.o;have v1:=cell_regrown D1.o;have k2:=cell_regrown C2.o;have v2:=cell_regrown D2.o;simp only[Nat.add_zero] at k0 v0;refine wp_region_quiet_below (by kernel_rfl) (by kernel_rfl) ?_
     repeat (go_big_quiet_step (fail))
     refine wpQuiet_nil ?_;intro w2 V;obtain⟨⟨dq,Y⟩,A⟩:=V;have T2:Hid (TwoM w b1 b2 S1 S2 q I w2):=by show TwoM _ _ _ _ _ _ _ _;rw[A];exact T.o.later (below_regrown wr dq Y)
     clear A kc kd c0 c1 c2 c3 c4 cf d0 d1 d2 d3 d4 df k0 v0 C0 D0 k1 v1 C1 D1 k2 v2 C2 D2;cases b with
     |true=>
      go_wp2;go_roundg (gk-1)
      case rel=>exact⟨N,rfl,by have:=HJ.o;omega,by rw[HJ.o];have e:=zgw.1 z;exact zdk Z.o HX.o (by rw[e];exact HY.o),T2.o⟩
      case measure=>omega
     |false=>
      go_wp2;go_ret;exact⟨⟨false,rfl,⟨fun k=>(by cases k),fun k=>(by have e:=HX.o;rw[k,HY.o] at e;cases e;rw[zgw.2 rfl] at z;cases z)⟩⟩,T2.o.2.2.2.2⟩
    ·have H: ¬(j:Int)<(q.im.length:Int):=by omega
     obtain rfl:j=q.im.length:=by omega
     have A1:=zc (zdl (by omega) Z.o);clear Z H J hj;go_wp2;go_loopg [7] q.ep.length (fun k i wr=>∃j:Nat,i= .int .i64 j/\j+k=q.ep.length/\q.ep.take j=I.ep.take j/\TwoM w b1 b2 S1 S2 q I wr)
     case atStart=>exact⟨0,rfl,by omega,rfl,T.o⟩
     case round=>
      obtain⟨j,rfl,hj,ht,hT⟩:=hrel;clear T c0 c1 c2 c3 c4 cf d0 d1 d2 d3 d4 df;have T:=zc hT;have Z:=zc ht;clear hT ht;obtain⟨c0,c1,c2,c3,c4,cf⟩:=zj T.o.1;obtain⟨d0,d1,d2,d3,d4,df⟩:=zj T.o.2.1;by_cases J:j<q.ep.length
      ·have H:(j:Int)<(q.ep.length:Int):=by omega
       have aa:(j:Int)<(I.ep.length:Int):=by omega
       obtain⟨x,U⟩:=zbt J;obtain⟨y,X⟩:=zbt (show j<I.ep.length by omega);obtain⟨g1,ga,M⟩:=OwnR.elem (f:=epL) (m:=4) (fun _=>rfl) T.o.2.2.1.ep U;obtain⟨g2,gb,L⟩:=OwnR.elem (f:=epL) (m:=4) (fun _=>rfl) T.o.2.2.2.1.ep X;rw[ga] at c2;rw[gb] at d2;have C0:=zc (M 0 (by omega));have D0:=zc (L 0 (by omega));have C1:=zc (M 1 (by omega));have D1:=zc (L 1 (by omega));have C2:=zc (M 2 (by omega));have D2:=zc (L 2 (by omega));have C3:=zc (M 3 (by omega));have D3:=zc (L 3 (by omega));have HX:=zc U;have HY:=zc X;clear M L ga gb U X;obtain⟨N,K⟩: ∃N,N=j+1:=⟨_,rfl⟩;have ej:(j:Int)+1=(N:Int):=by omega
       have HJ:=zc K;clear K;obtain⟨b,z⟩: ∃b,zdn x y=b:=⟨_,rfl⟩;have ab: ∀W:World,Sem.run prog (binOp .neq 97 (.agg #[.int .i64 x.kind,.string x.name,.string x.loc,.string x.spec]) (.agg #[.int .i64 y.kind,.string y.name,.string y.loc,.string y.spec])) W= .ok (.bool !b) W:=fun W=>by rw[ai,z]
       have ag: ∀(O:BinOp) (a b:Operand) (W:World),Sem.run prog (eqGuard O 97 a b (.agg #[.int .i64 x.kind,.string x.name,.string x.loc,.string x.spec]) (.agg #[.int .i64 y.kind,.string y.name,.string y.loc,.string y.spec])) W= .ok () W:=fun O a b W=>af O a b x y W;go_wp2;have kc:=cell_regrown c2;have kd:=cell_regrown d2;have k0:=cell_regrown C0.o;have v0:=cell_regrown D0.o;have k1:=cell_regrown C1.o;have v1:=cell_regrown D1.o;have k2:=cell_regrown C2.o;have v2:=cell_regrown D2.o;have k3:=cell_regrown C3.o;have v3:=cell_regrown D3.o;simp only[Nat.add_zero] at k0 v0;refine wp_region_quiet_below (by kernel_rfl) (by kernel_rfl) ?_
       repeat (go_big_quiet_step (fail))
       refine wpQuiet_nil ?_;intro w2 V;obtain⟨⟨dq,Y⟩,A⟩:=V;have T2:Hid (TwoM w b1 b2 S1 S2 q I w2):=by show TwoM _ _ _ _ _ _ _ _;rw[A];exact T.o.later (below_regrown wr dq Y)
       clear A kc kd c0 c1 c2 c3 c4 cf d0 d1 d2 d3 d4 df k0 v0 C0 D0 k1 v1 C1 D1 k2 v2 C2 D2 k3 v3 C3 D3;cases b with
       |true=>
        go_wp2;go_roundg (gk-1)
        case rel=>exact⟨N,rfl,by have:=HJ.o;omega,by rw[HJ.o];have e:=zgx.1 z;exact zdk Z.o HX.o (by rw[e];exact HY.o),T2.o⟩
        case measure=>omega
       |false=>
        go_wp2;go_ret;exact⟨⟨false,rfl,⟨fun k=>(by cases k),fun k=>(by have e:=HX.o;rw[k,HY.o] at e;cases e;rw[zgx.2 rfl] at z;cases z)⟩⟩,T2.o.2.2.2.2⟩
      ·have H: ¬(j:Int)<(q.ep.length:Int):=by omega
       obtain rfl:j=q.ep.length:=by omega
       have A2:=zc (zdl (by omega) Z.o);clear Z H J hj;go_wp2;go_loopg [8] q.st.length (fun k i wr=>∃j:Nat,i= .int .i64 j/\j+k=q.st.length/\q.st.take j=I.st.take j/\TwoM w b1 b2 S1 S2 q I wr)
       case atStart=>exact⟨0,rfl,by omega,rfl,T.o⟩
       case round=>
        obtain⟨j,rfl,hj,ht,hT⟩:=hrel;clear T c0 c1 c2 c3 c4 cf d0 d1 d2 d3 d4 df;have T:=zc hT;have Z:=zc ht;clear hT ht;obtain⟨c0,c1,c2,c3,c4,cf⟩:=zj T.o.1;obtain⟨d0,d1,d2,d3,d4,df⟩:=zj T.o.2.1;by_cases J:j<q.st.length
        ·have H:(j:Int)<(q.st.length:Int):=by omega
         have aa:(j:Int)<(I.st.length:Int):=by omega
         obtain⟨x,U⟩:=zbt J;obtain⟨y,X⟩:=zbt (show j<I.st.length by omega);obtain⟨g1,ga,M⟩:=OwnR.elem (f:=smL) (m:=3) (fun _=>rfl) T.o.2.2.1.st U;obtain⟨g2,gb,L⟩:=OwnR.elem (f:=smL) (m:=3) (fun _=>rfl) T.o.2.2.2.1.st X;rw[ga] at c3;rw[gb] at d3;have C0:=zc (M 0 (by omega));have D0:=zc (L 0 (by omega));have C1:=zc (M 1 (by omega));have D1:=zc (L 1 (by omega));have C2:=zc (M 2 (by omega));have D2:=zc (L 2 (by omega));have HX:=zc U;have HY:=zc X;clear M L ga gb U X;obtain⟨N,K⟩: ∃N,N=j+1:=⟨_,rfl⟩;have ej:(j:Int)+1=(N:Int):=by omega
         have HJ:=zc K;clear K;obtain⟨b,z⟩: ∃b,zdo x y=b:=⟨_,rfl⟩;have ab: ∀W:World,Sem.run prog (binOp .neq 102 (.agg #[.int .i64 x.kind,.string x.name,.int .i64 x.expr]) (.agg #[.int .i64 y.kind,.string y.name,.int .i64 y.expr])) W= .ok (.bool !b) W:=fun W=>by rw[aj,z]
         have ag: ∀(O:BinOp) (a b:Operand) (W:World),Sem.run prog (eqGuard O 102 a b (.agg #[.int .i64 x.kind,.string x.name,.int .i64 x.expr]) (.agg #[.int .i64 y.kind,.string y.name,.int .i64 y.expr])) W= .ok () W:=fun O a b W=>ae O a b x y W;go_wp2;have kc:=cell_regrown c3;have kd:=cell_regrown d3;have k0:=cell_regrown C0.o;have v0:=cell_regrown D0.o;have k1:=cell_regrown C1.o;have v1:=cell_regrown D1.o;have k2:=cell_regrown C2.o;have v2:=cell_regrown D2.o;simp only[Nat.add_zero] at k0 v0;refine wp_region_quiet_below (by kernel_rfl) (by kernel_rfl) ?_
         repeat (go_big_quiet_step (fail))
         refine wpQuiet_nil ?_;intro w2 V;obtain⟨⟨dq,Y⟩,A⟩:=V;have T2:Hid (TwoM w b1 b2 S1 S2 q I w2):=by show TwoM _ _ _ _ _ _ _ _;rw[A];exact T.o.later (below_regrown wr dq Y)
         clear A kc kd c0 c1 c2 c3 c4 cf d0 d1 d2 d3 d4 df k0 v0 C0 D0 k1 v1 C1 D1 k2 v2 C2 D2;cases b with
         |true=>
          go_wp2;go_roundg (gk-1)
          case rel=>exact⟨N,rfl,by have:=HJ.o;omega,by rw[HJ.o];have e:=zgy.1 z;exact zdk Z.o HX.o (by rw[e];exact HY.o),T2.o⟩
          case measure=>omega
         |false=>
          go_wp2;go_ret;exact⟨⟨false,rfl,⟨fun k=>(by cases k),fun k=>(by have e:=HX.o;rw[k,HY.o] at e;cases e;rw[zgy.2 rfl] at z;cases z)⟩⟩,T2.o.2.2.2.2⟩
        ·have H: ¬(j:Int)<(q.st.length:Int):=by omega
         obtain rfl:j=q.st.length:=by omega
         have A3:=zc (zdl (by omega) Z.o);clear Z H J hj;go_wp2;go_loopg [9] q.ex.length (fun k i wr=>∃j:Nat,i= .int .i64 j/\j+k=q.ex.length/\q.ex.take j=I.ex.take j/\TwoM w b1 b2 S1 S2 q I wr)
         case atStart=>exact⟨0,rfl,by omega,rfl,T.o⟩
         case round=>
          obtain⟨j,rfl,hj,ht,hT⟩:=hrel;clear T c0 c1 c2 c3 c4 cf d0 d1 d2 d3 d4 df;have T:=zc hT;have Z:=zc ht;clear hT ht;obtain⟨c0,c1,c2,c3,c4,cf⟩:=zj T.o.1;obtain⟨d0,d1,d2,d3,d4,df⟩:=zj T.o.2.1;by_cases J:j<q.ex.length
          ·have H:(j:Int)<(q.ex.length:Int):=by omega
           have aa:(j:Int)<(I.ex.length:Int):=by omega
           obtain⟨x,U⟩:=zbt J;obtain⟨y,X⟩:=zbt (show j<I.ex.length by omega);obtain⟨g1,ga,M⟩:=OwnR.elem (f:=exL) (m:=6) (fun _=>rfl) T.o.2.2.1.ex U;obtain⟨g2,gb,L⟩:=OwnR.elem (f:=exL) (m:=6) (fun _=>rfl) T.o.2.2.2.1.ex X;rw[ga] at c4;rw[gb] at d4;have C0:=zc (M 0 (by omega));have D0:=zc (L 0 (by omega));have C1:=zc (M 1 (by omega));have D1:=zc (L 1 (by omega));have C2:=zc (M 2 (by omega));have D2:=zc (L 2 (by omega));have C3:=zc (M 3 (by omega));have D3:=zc (L 3 (by omega));have C4:=zc (M 4 (by omega));have D4:=zc (L 4 (by omega));have C5:=zc (M 5 (by omega));have D5:=zc (L 5 (by omega));have HX:=zc U;have HY:=zc X;clear M L ga gb U X;obtain⟨N,K⟩: ∃N,N=j+1:=⟨_,rfl⟩;have ej:(j:Int)+1=(N:Int):=by omega
           have HJ:=zc K;clear K;obtain⟨b,z⟩: ∃b,zdp x y=b:=⟨_,rfl⟩;have ab: ∀W:World,Sem.run prog (binOp .neq 100 (.agg #[.int .i64 x.kind,.int .i64 x.num,.string x.name,.string x.field,.int .i64 x.l,.int .i64 x.r]) (.agg #[.int .i64 y.kind,.int .i64 y.num,.string y.name,.string y.field,.int .i64 y.l,.int .i64 y.r])) W= .ok (.bool !b) W:=fun W=>by rw[ah,z]
           have ag: ∀(O:BinOp) (a b:Operand) (W:World),Sem.run prog (eqGuard O 100 a b (.agg #[.int .i64 x.kind,.int .i64 x.num,.string x.name,.string x.field,.int .i64 x.l,.int .i64 x.r]) (.agg #[.int .i64 y.kind,.int .i64 y.num,.string y.name,.string y.field,.int .i64 y.l,.int .i64 y.r])) W= .ok () W:=fun O a b W=>ad O a b x y W;go_wp2;have kc:=cell_regrown c4;have kd:=cell_regrown d4;have k0:=cell_regrown C0.o;have v0:=cell_regrown D0.o;have k1:=cell_regrown C1.o;have v1:=cell_regrown D1.o;have k2:=cell_regrown C2.o;have v2:=cell_regrown D2.o;have k3:=cell_regrown C3.o;have v3:=cell_regrown D3.o;have k4:=cell_regrown C4.o;have v4:=cell_regrown D4.o;have k5:=cell_regrown C5.o;have v5:=cell_regrown D5.o;simp only[Nat.add_zero] at k0 v0;refine wp_region_quiet_below (by kernel_rfl) (by kernel_rfl) ?_
           repeat (go_big_quiet_step (fail))
           refine wpQuiet_nil ?_;intro w2 V;obtain⟨⟨dq,Y⟩,A⟩:=V;have T2:Hid (TwoM w b1 b2 S1 S2 q I w2):=by show TwoM _ _ _ _ _ _ _ _;rw[A];exact T.o.later (below_regrown wr dq Y)
           clear A kc kd c0 c1 c2 c3 c4 cf d0 d1 d2 d3 d4 df k0 v0 C0 D0 k1 v1 C1 D1 k2 v2 C2 D2 k3 v3 C3 D3 k4 v4 C4 D4 k5 v5 C5 D5;cases b with
           |true=>
            go_wp2;go_roundg (gk-1)
            case rel=>exact⟨N,rfl,by have:=HJ.o;omega,by rw[HJ.o];have e:=zgz.1 z;exact zdk Z.o HX.o (by rw[e];exact HY.o),T2.o⟩
            case measure=>omega
           |false=>
            go_wp2;go_ret;exact⟨⟨false,rfl,⟨fun k=>(by cases k),fun k=>(by have e:=HX.o;rw[k,HY.o] at e;cases e;rw[zgz.2 rfl] at z;cases z)⟩⟩,T2.o.2.2.2.2⟩
          ·have H: ¬(j:Int)<(q.ex.length:Int):=by omega
           obtain rfl:j=q.ex.length:=by omega
           have A4:=zc (zdl (by omega) Z.o);clear Z H J hj;go_wp2;go_ret;exact⟨⟨true,rfl,⟨fun _=>zjP A0.o A1.o A2.o A3.o A4.o,fun _=>rfl⟩⟩,T.o.2.2.2.2⟩
end Go.Proofs.YtgcbmogmniahjaaGreat
