/- Facts and walks. -/
import Derived.Test.YtgcbmogmniahjaaGreatK20
import Derived.Test.YtgcbmogmniahjaaGreatK21
namespace Go.Proofs.YtgcbmogmniahjaaGreat
open Nat (add_zero le_refl)
open List (getElem?_eq_getElem mem_of_getElem? map_cons length_map length_zip sum_cons length_cons size_toArray length_nil)
open Go.Proofs.Tryz
set_option maxHeartbeats 12800000
set_option maxRecDepth 100000
open Go.RowKit Go.PlainAid Go.Sort Go.Deep
def lkL (l:Lk):List Value:=[.int .i64 l.frm,.string l.spec,.int .i64 l.to]
def zeb (x:Lk):Nat:=x.spec.size
def ze4 (x:Lk):Prop:=x.spec.size<=9223372036854775807
theorem zqM (x:Lk) (left:Int) (w:World) (z:ze4 x) (D:0<=left) (A:left<=1048576):
  Calls prog 52 #[.agg #[.int .i64 x.frm,.string x.spec,.int .i64 x.to],.int .i64 left] w fun e q=>zcw left (zeb x) e/\Bw w q:=by
 unfold ze4 at z;go_enter func52,ntmps52;go_wp2
 ·go_ret;exact⟨⟨-1,rfl,by omega,by omega,fun h=>by omega⟩,bA0⟩
 ·go_ret;exact⟨⟨_,rfl,by omega,by omega,fun _=>by unfold zeb;omega⟩,bA0⟩
theorem zqN (a:Option Addr) (Y:Nat) (l:List Lk) (left:Int) (w:World) (hr:RowAt w a lkL 3 l) (hl:l.length<=9223372036854775807) (D: ∀x∈l,ze4 x) (h0:0<=left) (h1:left<=1048576):
  Calls prog 24 #[.slice a l.length Y,.int .i64 left] w fun e w'=>zcw left (l.length+zD zeb l) e/\Bw w w':=by
 have HR:=zc hr;have HG:=zc D;clear hr D;by_cases ab:(l.length:Int)<=left
 case neg=>
  go_enter func24,ntmps24;go_wp2;go_ret;exact⟨⟨-1,rfl,by omega,by omega,fun h=>by omega⟩,Below.refl _ _⟩
 go_enter func24,ntmps24;go_wp2;go_loopg [1,5] l.length (fun k s1 s5 wr=>∃(j:Nat) (z:Int),s5= .int .i64 j/\s1= .int .i64 z/\j+k=l.length/\0<=z/\z<=left/\z+((l.length+zD zeb (l.take j):Nat):Int)=left/\Bw w wr)
 case atStart=>exact⟨0,_,rfl,rfl,by omega,by omega,by omega,by simp[zD],Below.refl _ _⟩
 case round=>
  obtain⟨j,z,rfl,rfl,hj,X,Z,I,D⟩:=hrel;have HZ:=zc I;have N:=zc D;clear I D;by_cases V:j<l.length
  ·have L:(j:Int)<(l.length:Int):=by omega
   obtain⟨x,O⟩: ∃x,l[j]? =some x:=⟨_,getElem?_eq_getElem V⟩;obtain⟨b,ad,rfl,U⟩:=(HR.o.later N.o).get O;have q:=HG.o x (mem_of_getElem? O);have HC:=zc (zey zeb O);have c0:=U 0 _ rfl;have c1:=U 1 _ rfl;have c2:=U 2 _ rfl;simp only[add_zero] at c0;clear U O;obtain⟨M,A⟩: ∃M,M=j+1:=⟨_,rfl⟩;have ej:(j:Int)+1=(M:Int):=by omega
   have HJ:=zc A;clear A;go_wp2_with fail;refine (zqM x z _ q X (by omega)).mono ?_;rintro e w1 ⟨⟨z1,rfl,ae,ac,H⟩,K⟩;have J:=zc (N.o.trans (K.mono N.o.size));have aa:=zc H;clear K H q c0 c1 c2;by_cases E:0<=z1
   ·go_wp2;go_roundg (gk-1)
    case rel=>exact⟨M,z1,rfl,rfl,by have:=HJ.o;omega,E,by omega,by have:=HZ.o;have:=aa.o E;rw[HJ.o,HC.o];omega,J.o⟩
    case measure=>omega
   ·go_wp2;go_ret;exact⟨⟨-1,rfl,by omega,by omega,fun h=>by omega⟩,J.o⟩
  ·have L: ¬(j:Int)<(l.length:Int):=by omega
   obtain rfl:j=l.length:=by omega
   go_wp2;go_ret;exact⟨⟨z,rfl,by omega,Z,fun _=>by have:=HZ.o;rw[List.take_length] at this;exact this⟩,N.o⟩
theorem Tryz.infoTLk:(prog.info? 57).map (fun i=>(i.zero,i.size,i.bytes))=some (some (.agg #[.int .i64 0,.string {data:=#[]},.int .i64 0]),3,32):=by kernel_rfl
theorem zqO (x:Lk) (w:World):
  Calls prog 61 #[.agg #[.int .i64 x.frm,.string x.spec,.int .i64 x.to]] w fun e h=>e= .returned (.agg #[.int .i64 x.frm,.string x.spec,.int .i64 x.to])/\Bw w h:=by
 go_enter func61,ntmps61;go_wp2;refine bodyPost_ret (results_cell_row rfl _ _ (w.heap.size+1) 57 #[.int .i64 x.frm,.string x.spec,.int .i64 x.to] (0,0) _ rfl ?_ underlying57 rfl (by kernel_rfl)) rfl ?_
 ·rw[heap_alloc_old _ _ (by show _<((w.heap.push _).push _).size;simp)];exact heap_alloc2_new w _ _
 ·exact⟨rfl,((bA0).alloc (by show _<=(w.heap.push _).size;simp) _).alloc (by show _<=((w.heap.push _).push _).size;simp;omega) _⟩
theorem zqP (a:Option Addr) (X:Nat) (l:List Lk) (w:World) (hr:RowAt w a lkL 3 l) (hl:l.length<=1048576):
  Calls prog 33 #[.slice a l.length X] w fun e w'=>zeZ w 57 3 l.length (l.flatMap lkL) e w':=by
 have HR:=zc hr;clear hr;obtain⟨i0,hi,V,Y,Z⟩:=info_parts Tryz.infoTLk;go_enter func33,ntmps33;go_wp2_with (first|(at_make;refine wpList_make_full w rfl _ _ 30 rfl w.heap.size 57 i0 _ 3 underlying30 hi V Y .i64 .i64 _ _ l.length (by rfl) (by rfl) rfl rfl (by rw[Z];omega) (by unfold maxLen;omega) (le_refl _) ?_));intro O z A;have ab:=zc ((Below.refl _ _).grown A (le_refl _) (fun k h=>by cases h):Bw w O);have E:Hid (OwnC O w.heap.size 57 3 w.heap.size l.length (l.flatMap lkL) 0):=⟨_,z,fun j hj=>absurd hj (Nat.not_lt_zero j)⟩;clear z A;obtain⟨g,J⟩: ∃g,g=w.heap.size:=⟨_,rfl⟩;have aa:=zc J;rw[<-J];rw[<-J] at E;have ac:Hid (OwnC O w.heap.size 57 3 g l.length (l.flatMap lkL) 0):=by rw[<-J];exact E.o
 clear J E;go_wp2;go_loopg [4] l.length (fun k i wr=>∃j:Nat,i= .int .i64 j/\j+k=l.length/\OwnC wr w.heap.size 57 3 g l.length (l.flatMap lkL) (j*3)/\Bw w wr)
 case atStart=>exact⟨0,rfl,by omega,ac.o,ab.o⟩
 case round=>
  obtain⟨j,rfl,hj,ho,hb⟩:=hrel;have HO:=zc ho;have M:=zc hb;clear ho hb;by_cases U:j<l.length
  ·have K:(j:Int)<(l.length:Int):=by omega
   obtain⟨x,hx⟩: ∃x,l[j]? =some x:=⟨_,getElem?_eq_getElem U⟩;obtain⟨b,ae,rfl,N⟩:=(HR.o.later M.o).get hx;have HX:=zc hx;clear hx;have c0:=N 0 _ rfl;have c1:=N 1 _ rfl;have c2:=N 2 _ rfl;simp only[add_zero] at c0;clear N;obtain⟨L,I⟩: ∃L,L=j+1:=⟨_,rfl⟩;have ej:(j:Int)+1=(L:Int):=by omega
   have HJ:=zc I;clear I;go_wp2_with fail;refine (zqO x _).mono ?_;rintro e w2 ⟨rfl,H⟩;have q:=zc (HO.o.later H);have ad:=zc (M.o.trans (H.mono M.o.size));clear H c0 c1 c2;obtain⟨v0,g0⟩:=q.o.has (j*3) (by omega);have f0:=q.o.free (j*3);obtain⟨v1,g1⟩:=q.o.has (j*3+1) (by omega);have f1:=q.o.free (j*3+1);obtain⟨v2,g2⟩:=q.o.has (j*3+2) (by omega);have f2:=q.o.free (j*3+2);have HN:=zc (((q.o.put (by omega) (zbp (f:=lkL) (m:=3) (fun _=>rfl) l j x 0 _ HX.o rfl)).put (by omega) (zbp (f:=lkL) (m:=3) (fun _=>rfl) l j x 1 _ HX.o rfl)).put (by omega) (zbp (f:=lkL) (m:=3) (fun _=>rfl) l j x 2 _ HX.o rfl));have D:w.heap.size<=g:=by have:=aa.o;omega
   go_wp2;go_roundg (gk-1)
   case rel=>exact⟨L,rfl,by have:=HJ.o;omega,by rw[HJ.o,Nat.succ_mul];exact HN.o,(((ad.o.setCell D _).setCell D _).setCell D _)⟩
   case measure=>omega
  ·have K: ¬(j:Int)<(l.length:Int):=by omega
   obtain rfl:j=l.length:=by omega
   go_wp2;go_ret;exact⟨g,rfl,HO.o.all (zdZ (f:=lkL) (fun _=>rfl) l),M.o⟩
theorem zqQ (x:Lk) (w:World):Calls prog 70 #[.agg #[.int .i64 x.frm,.string x.spec,.int .i64 x.to],.agg #[.int .i64 x.frm,.string x.spec,.int .i64 x.to]] w fun e h=>e= .returned (.bool true)/\Bw w h:=by
 go_enter func70,ntmps70;go_wp2;go_ret;exact⟨rfl,(bA0).alloc (by show _<=(w.heap.push _).size;simp) _⟩
theorem zqR (z A:Option Addr) (D h:Nat) (w:World):Calls prog 40 #[.slice z 0 D,.slice A 0 h] w fun e q=>e= .returned (.bool true)/\Bw w q:=by
 go_enter func40,ntmps40;go_wp2;go_loopg [5] 1 (fun k i wr=>k=1/\i= .int .i64 0/\wr=w)
 case atStart=>exact⟨rfl,rfl,rfl⟩
 case round=>
  obtain⟨rfl,rfl,rfl⟩:=hrel;go_wp2;go_ret;exact⟨rfl,Below.refl _ _⟩
theorem zqS (b1 b2 O M:Nat) (K Y:Rw) (l:List Lk) (w:World) (z:OwnR w b1 57 3 K l.length (l.flatMap lkL)) (q:OwnR w b2 57 3 Y l.length (l.flatMap lkL)) (e1:K.a=some ⟨O,0,none⟩) (e2:Y.a=some ⟨M,0,none⟩) (hl:l.length<=4294967296):
  Calls prog 40 #[.slice (some ⟨O,0,none⟩) l.length K.cap,.slice (some ⟨M,0,none⟩) l.length Y.cap] w fun e w'=>e= .returned (.bool true)/\Bw w w':=by
 have H1:=zc z;have H2:=zc q;have E1:=zc e1;have E2:=zc e2;clear z q e1 e2;go_enter func40,ntmps40;go_wp2;go_loopg [5] l.length (fun k i wr=>∃j:Nat,i= .int .i64 j/\j+k=l.length/\Bw w wr)
 case atStart=>exact⟨0,rfl,by omega,Below.refl _ _⟩
 case round=>
  obtain⟨j,rfl,hj,hb⟩:=hrel;have D:=zc hb;clear hb;by_cases J:j<l.length
  ·have E:(j:Int)<(l.length:Int):=by omega
   obtain⟨x,X⟩:=ze3 J;obtain⟨N,Z,z⟩:=OwnR.elem (f:=lkL) (m:=3) (fun _=>rfl) (H1.o.keep fun k g=>D.o.block k (H1.o.typed g).2.1) X;obtain rfl:N=O:=by have:=Z.symm.trans E1.o;simpa using this
   obtain⟨N,gb,q⟩:=OwnR.elem (f:=lkL) (m:=3) (fun _=>rfl) (H2.o.keep fun k g=>D.o.block k (H2.o.typed g).2.1) X;obtain rfl:N=M:=by have:=gb.symm.trans E2.o;simpa using this
   have C0:=zc (z 0 (by omega));have D0:=zc (q 0 (by omega));have C1:=zc (z 1 (by omega));have D1:=zc (q 1 (by omega));have C2:=zc (z 2 (by omega));have D2:=zc (q 2 (by omega));clear z q Z gb X;have cQ: ∀d os,Calls prog 70 #[.agg #[.int .i64 x.frm,.string x.spec,.int .i64 x.to],.agg #[.int .i64 x.frm,.string x.spec,.int .i64 x.to]] (grow (redrawn wr d) os) fun e V=>e= .returned (.bool true)/\∃p:Regrown,V=grow (redrawn wr p.d) p.os:=fun d os=>Calls.regrown_of (zqQ x _);obtain⟨H,A⟩: ∃H,H=j+1:=⟨_,rfl⟩;have ej:(j:Int)+1=(H:Int):=by omega
   have HJ:=zc A;clear A;go_wp2;have k0:=cell_regrown C0.o;have l0:=cell_regrown D0.o;have k1:=cell_regrown C1.o;have l1:=cell_regrown D1.o;have k2:=cell_regrown C2.o;have l2:=cell_regrown D2.o;simp only[add_zero] at k0 l0;refine wp_region_quiet_below (by kernel_rfl) (by kernel_rfl) ?_
   repeat (go_big_quiet_step (exact cQ _ _))
   refine wpQuiet_nil ?_;intro w2 I;obtain⟨⟨dq,L⟩,h⟩:=I;have U:Hid (Bw w w2):=by show Below _ _ _;rw[h];exact D.o.trans ((below_regrown wr dq L).mono D.o.size)
   clear h k0 l0 C0 D0 k1 l1 C1 D1 k2 l2 C2 D2 cQ;go_wp2;go_roundg (gk-1)
   case rel=>exact⟨H,rfl,by have:=HJ.o;omega,U.o⟩
   case measure=>omega
  ·have E: ¬(j:Int)<(l.length:Int):=by omega
   go_wp2;go_ret;exact⟨rfl,D.o⟩
theorem zqT (A b2:Nat) (q h:Rw) (l:List Lk) (w:World) (H:OwnR w A 57 3 q l.length (l.flatMap lkL)) (E:OwnR w b2 57 3 h l.length (l.flatMap lkL)) (M:l.length<=4294967296):
  Calls prog 40 #[.slice q.a l.length q.cap,.slice h.a l.length h.cap] w fun e L=>e= .returned (.bool true)/\Bw w L:=by
 by_cases z:l.length=0
 ·rw[z];exact zqR _ _ _ _ w
 ·rcases H.nil_or with ⟨_,_,e⟩|⟨K,D⟩
  ·exact absurd e z
  ·rcases E.nil_or with ⟨_,_,e⟩|⟨J,I⟩
   ·exact absurd e z
   ·rw[D,I];exact zqS A b2 K J q h l w H E D I M
theorem zqU {H:Type} {enc:TypeId×Value->H} {w:World} {base:Nat} {q:Nat->Bool} {z:Bool} {n:Nat} {M:List Value} {y:DataW H×List MemPlace} (h:DataW.trod enc prog w base q z n 87 M=some y) (hl:M.length=3): ∃x:Lk,M=lkL x/\ze4 x:=by
 obtain⟨xs,k,_,_,_,L,N⟩:=DataW.trod_struct underlying87 h;have cS:prog.cellsOf 9=1:=by kernel_rfl
 have X:prog.cellsOf 3=1:=by kernel_rfl
 obtain⟨K,E,J,rfl⟩:=list3 hl;obtain⟨Y,U,y2,rfl⟩:=list3 (L.trans rfl);have D:DataW.trod enc prog w base q z k 3 (List.take (prog.cellsOf 3) (List.drop 0 [K,E,J]))=some Y:=N 0 _ rfl;rw[X] at D;replace D:DataW.trod enc prog w base q z k 3 [K]=some Y:=D;have I:DataW.trod enc prog w base q z k 9 (List.take (prog.cellsOf 9) (List.drop 1 [K,E,J]))=some U:=N 1 _ rfl;rw[cS] at I;replace I:DataW.trod enc prog w base q z k 9 [E]=some U:=I;have A:DataW.trod enc prog w base q z k 3 (List.take (prog.cellsOf 3) (List.drop 2 [K,E,J]))=some y2:=N 2 _ rfl;rw[X] at A;replace A:DataW.trod enc prog w base q z k 3 [J]=some y2:=A;obtain⟨s0,O,_,z0⟩:=DataW.trod_int underlying3 D;simp only[List.cons.injEq,and_true] at O;subst O;obtain⟨s1,Z,_,z1⟩:=DataW.trod_string underlying9 I;simp only[List.cons.injEq,and_true] at Z;subst Z;obtain⟨s2,V,_,z2⟩:=DataW.trod_int underlying3 A;simp only[List.cons.injEq,and_true] at V;subst V;refine⟨⟨s0,s1,s2⟩,rfl,?_⟩;unfold ze4;unfold maxLen at z1;show _<=_;omega
theorem zkK (l:List BA):l.map Value.string=l.flatMap (fun x=>[Value.string x]):=by
 induction l with
 |nil=>rfl
 |cons x l h=>rw[map_cons,List.flatMap_cons,h];rfl
def zqV (w:World) (m:Md) (e:Ending) (w':World):Prop:=∃S,e= .returned (zl S m)/\OwnMd w' w.heap.size S m/\Bw w w'
theorem zby {w:World} {base size n c i:Nat} {e:TypeId} {r:Rw} {xs:List Value} {u:Value} {E:Array Value} (h:OwnR w base e size r n xs) (H:w.heap[c]? =some (.cells E 54 (0,0))) (D:e≠54):OwnR (w.setCell ⟨c,i,none⟩ u) base e size r n xs:=
 h.keep fun k g=>heap_setCell_other w ⟨c,i,none⟩ k u fun z=>by
  obtain⟨_,_,A,q⟩:=h.typed g;simp only at z;rw[z,H] at q;simp only[Option.some.injEq,Obj.cells.injEq] at q;exact D q.2.1.symm
abbrev zqW (w:World) (b:Nat) (x0 x1 x2 x3 x4:Value):World:=((((w.setCell ⟨b,0,none⟩ x0).setCell ⟨b,1,none⟩ x1).setCell ⟨b,2,none⟩ x2).setCell ⟨b,3,none⟩ x3).setCell ⟨b,4,none⟩ x4
theorem zfO {w:World} {base size n c:Nat} {e:TypeId} {r:Rw} {xs:List Value} {v0 v1 v2 v3 v4 z I K H L:Value} (h:OwnR w base e size r n xs) (J:w.heap[c]? =some (.cells #[v0,v1,v2,v3,v4] 54 (0,0))) (q:e≠54):OwnR (zqW w c z I K H L) base e size r n xs:=by
 have E:=zae (i:=0) (u:=z) J;have D:=zae (i:=1) (u:=I) E;have A:=zae (i:=2) (u:=K) D;have M:=zae (i:=3) (u:=H) A;exact zby (zby (zby (zby (zby h J q) E q) D q) A q) M q
theorem zqX (A:MA) (m:Md) (w:World) (hr:ModIn w A m) (f1:m.rq.length<=1048576) (f2:m.im.length<=1048576) (f3:m.ep.length<=1048576) (f4:m.st.length<=1048576) (f5:m.ex.length<=1048576):
  Calls prog 60 #[zfM A m] w fun e w'=>zqV w m e w':=by
 have HR:=zc hr;clear hr;unfold zfM;go_enter func60,ntmps60;go_upto_region 2 with fail;obtain⟨z,ac⟩: ∃z,z=w.heap.size:=⟨_,rfl⟩;rw[<-ac];refine zu (R:=(fun W=>W.heap[z]? =some (.cells #[.slice A.a0 m.rq.length A.c0,.slice A.a1 m.im.length A.c1,.slice A.a2 m.ep.length A.c2,.slice A.a3 m.st.length A.c3,.slice A.a4 m.ex.length A.c4] 85 (0,0))/\W.heap[z+1]? =some (.cells #[.slice none 0 0,.slice none 0 0,.slice none 0 0,.slice none 0 0,.slice none 0 0] 54 (0,0))/\W.heap[z+2]? =some (.cells #[.slice none 0 0,.slice none 0 0,.slice none 0 0,.slice none 0 0,.slice none 0 0] 54 (0,0))/\Bw w W)) ?_ ?_
 ·rw[ac];refine⟨?_,?_,?_,?_⟩
  ·rw[heap_alloc_old _ _ (by show _<((w.heap.push _).push _).size;simp;omega),heap_alloc_old _ _ (by show _<(w.heap.push _).size;simp)];exact heap_alloc_new w _
  ·rw[heap_alloc_old _ _ (by show _<((w.heap.push _).push _).size;simp)];exact heap_alloc2_new w _ _
  ·have:=heap_alloc_new ((w.alloc (.cells #[.slice A.a0 m.rq.length A.c0,.slice A.a1 m.im.length A.c1,.slice A.a2 m.ep.length A.c2,.slice A.a3 m.st.length A.c3,.slice A.a4 m.ex.length A.c4] 85)).alloc (.cells #[.slice none 0 0,.slice none 0 0,.slice none 0 0,.slice none 0 0,.slice none 0 0] 54)) (.cells #[.slice none 0 0,.slice none 0 0,.slice none 0 0,.slice none 0 0,.slice none 0 0] 54);simp only[zg] at this;exact this
  ·exact ((bA0).alloc (by show _<=(w.heap.push _).size;simp) _).alloc (by show _<=((w.heap.push _).push _).size;simp;omega) _
 have ab:w.heap.size<=z+2:=by omega
 have aa:w.heap.size<=z+1:=by omega
 clear ac;rintro W0 ⟨hx,V,O,h⟩;have X:=zc hx;have Y:=zc V;have Z:=zc O;have E:=zc h;clear hx V O h;obtain⟨N,I,J,L,M,K⟩:=zj X.o;go_wp2_with fail;refine (zkE A.a0 A.c0 m.rq W0 (HR.o.later E.o).1 f1).mono ?_;rintro e V0 ⟨g0,rfl,q,h⟩;have X2:=zc ((h.block _ (aLt X.o)).trans X.o);have Y2:=zc ((h.block _ (aLt Y.o)).trans Y.o);have D:=zc ((h.block _ (aLt Z.o)).trans Z.o);have H:=zc (E.o.trans (h.mono E.o.size));have P0:=zc (q.low E.o.size);clear q h N I J L M K X Y Z E;obtain⟨N,I,J,L,M,K⟩:=zj D.o;go_upto_region 3 with fail;refine zu (R:=(fun W=>W.heap[z]? =some (.cells #[.slice A.a0 m.rq.length A.c0,.slice A.a1 m.im.length A.c1,.slice A.a2 m.ep.length A.c2,.slice A.a3 m.st.length A.c3,.slice A.a4 m.ex.length A.c4] 85 (0,0))/\W.heap[z+1]? =some (.cells #[.slice none 0 0,.slice none 0 0,.slice none 0 0,.slice none 0 0,.slice none 0 0] 54 (0,0))/\W.heap[z+2]? =some (.cells #[.slice (some ⟨g0,0,none⟩) m.rq.length m.rq.length,.slice none 0 0,.slice none 0 0,.slice none 0 0,.slice none 0 0] 54 (0,0))/\Bw w W/\OwnR W w.heap.size 9 1 ⟨some ⟨g0,0,none⟩,m.rq.length⟩ m.rq.length (m.rq.flatMap (fun x=>[Value.string x])))) ⟨(heap_setCell_other _ _ _ _ (by show z≠z+2;omega)).trans X2.o,(heap_setCell_other _ _ _ _ (by show z+1≠z+2;omega)).trans Y2.o,(zae D.o).trans (by simp),H.o.setCell ab _,zby P0.o D.o (by decide)⟩ ?_;clear X2 Y2 D H N I J L M K P0;rintro W1 ⟨hx,V,O,h,o0⟩;have X:=zc hx;have Y:=zc V;have Z:=zc O;have E:=zc h;have U:=zc o0;clear hx V O h o0;obtain⟨N,I,J,L,M,K⟩:=zj X.o;go_wp2_with fail;refine (zqr A.a1 A.c1 m.im W1 (HR.o.later E.o).2.1 f2).mono ?_;rintro e V1 ⟨g1,rfl,q,h⟩;have X2:=zc ((h.block _ (aLt X.o)).trans X.o);have Y2:=zc ((h.block _ (aLt Y.o)).trans Y.o);have D:=zc ((h.block _ (aLt Z.o)).trans Z.o);have H:=zc (E.o.trans (h.mono E.o.size));have P0:=zc (U.o.keep fun k g=>h.block k (U.o.typed g).2.1);have P1:=zc (q.low E.o.size);clear q h N I J L M K X Y Z E U;obtain⟨N,I,J,L,M,K⟩:=zj D.o;go_upto_region 4 with fail;refine zu (R:=(fun W=>W.heap[z]? =some (.cells #[.slice A.a0 m.rq.length A.c0,.slice A.a1 m.im.length A.c1,.slice A.a2 m.ep.length A.c2,.slice A.a3 m.st.length A.c3,.slice A.a4 m.ex.length A.c4] 85 (0,0))/\W.heap[z+1]? =some (.cells #[.slice none 0 0,.slice none 0 0,.slice none 0 0,.slice none 0 0,.slice none 0 0] 54 (0,0))/\W.heap[z+2]? =some (.cells #[.slice (some ⟨g0,0,none⟩) m.rq.length m.rq.length,.slice (some ⟨g1,0,none⟩) m.im.length m.im.length,.slice none 0 0,.slice none 0 0,.slice none 0 0] 54 (0,0))/\Bw w W/\OwnR W w.heap.size 9 1 ⟨some ⟨g0,0,none⟩,m.rq.length⟩ m.rq.length (m.rq.flatMap (fun x=>[Value.string x]))/\OwnR W w.heap.size 95 3 ⟨some ⟨g1,0,none⟩,m.im.length⟩ m.im.length (m.im.flatMap imL))) ⟨(heap_setCell_other _ _ _ _ (by show z≠z+2;omega)).trans X2.o,(heap_setCell_other _ _ _ _ (by show z+1≠z+2;omega)).trans Y2.o,(zae D.o).trans (by simp),H.o.setCell ab _,zby P0.o D.o (by decide),zby P1.o D.o (by decide)⟩ ?_;clear X2 Y2 D H N I J L M K P0 P1;rintro W2 ⟨hx,V,O,h,o0,o1⟩;have X:=zc hx;have Y:=zc V;have Z:=zc O;have E:=zc h;have U:=zc o0;have O1:=zc o1;clear hx V O h o0 o1;obtain⟨N,I,J,L,M,K⟩:=zj X.o;go_wp2_with fail;refine (zqt A.a2 A.c2 m.ep W2 (HR.o.later E.o).2.2.1 f3).mono ?_;rintro e V2 ⟨g2,rfl,q,h⟩;have X2:=zc ((h.block _ (aLt X.o)).trans X.o);have Y2:=zc ((h.block _ (aLt Y.o)).trans Y.o);have D:=zc ((h.block _ (aLt Z.o)).trans Z.o);have H:=zc (E.o.trans (h.mono E.o.size));have P0:=zc (U.o.keep fun k g=>h.block k (U.o.typed g).2.1);have P1:=zc (O1.o.keep fun k g=>h.block k (O1.o.typed g).2.1);have P2:=zc (q.low E.o.size);clear q h N I J L M K X Y Z E U O1;obtain⟨N,I,J,L,M,K⟩:=zj D.o;go_upto_region 5 with fail;refine zu (R:=(fun W=>W.heap[z]? =some (.cells #[.slice A.a0 m.rq.length A.c0,.slice A.a1 m.im.length A.c1,.slice A.a2 m.ep.length A.c2,.slice A.a3 m.st.length A.c3,.slice A.a4 m.ex.length A.c4] 85 (0,0))/\W.heap[z+1]? =some (.cells #[.slice none 0 0,.slice none 0 0,.slice none 0 0,.slice none 0 0,.slice none 0 0] 54 (0,0))/\W.heap[z+2]? =some (.cells #[.slice (some ⟨g0,0,none⟩) m.rq.length m.rq.length,.slice (some ⟨g1,0,none⟩) m.im.length m.im.length,.slice (some ⟨g2,0,none⟩) m.ep.length m.ep.length,.slice none 0 0,.slice none 0 0] 54 (0,0))/\Bw w W/\OwnR W w.heap.size 9 1 ⟨some ⟨g0,0,none⟩,m.rq.length⟩ m.rq.length (m.rq.flatMap (fun x=>[Value.string x]))/\OwnR W w.heap.size 95 3 ⟨some ⟨g1,0,none⟩,m.im.length⟩ m.im.length (m.im.flatMap imL)/\OwnR W w.heap.size 97 4 ⟨some ⟨g2,0,none⟩,m.ep.length⟩ m.ep.length (m.ep.flatMap epL))) ⟨(heap_setCell_other _ _ _ _ (by show z≠z+2;omega)).trans X2.o,(heap_setCell_other _ _ _ _ (by show z+1≠z+2;omega)).trans Y2.o,(zae D.o).trans (by simp),H.o.setCell ab _,zby P0.o D.o (by decide),zby P1.o D.o (by decide),zby P2.o D.o (by decide)⟩ ?_;clear X2 Y2 D H N I J L M K P0 P1 P2;rintro W3 ⟨hx,V,O,h,o0,o1,o2⟩;have X:=zc hx;have Y:=zc V;have Z:=zc O;have E:=zc h;have U:=zc o0;have O1:=zc o1;have O2:=zc o2;clear hx V O h o0 o1 o2;obtain⟨N,I,J,L,M,K⟩:=zj X.o;go_wp2_with fail;refine (zqv A.a3 A.c3 m.st W3 (HR.o.later E.o).2.2.2.1 f4).mono ?_;rintro e V3 ⟨g3,rfl,q,h⟩;have X2:=zc ((h.block _ (aLt X.o)).trans X.o);have Y2:=zc ((h.block _ (aLt Y.o)).trans Y.o);have D:=zc ((h.block _ (aLt Z.o)).trans Z.o);have H:=zc (E.o.trans (h.mono E.o.size));have P0:=zc (U.o.keep fun k g=>h.block k (U.o.typed g).2.1);have P1:=zc (O1.o.keep fun k g=>h.block k (O1.o.typed g).2.1);have P2:=zc (O2.o.keep fun k g=>h.block k (O2.o.typed g).2.1);have P3:=zc (q.low E.o.size);clear q h N I J L M K X Y Z E U O1 O2;obtain⟨N,I,J,L,M,K⟩:=zj D.o;go_upto_region 6 with fail;refine zu (R:=(fun W=>W.heap[z]? =some (.cells #[.slice A.a0 m.rq.length A.c0,.slice A.a1 m.im.length A.c1,.slice A.a2 m.ep.length A.c2,.slice A.a3 m.st.length A.c3,.slice A.a4 m.ex.length A.c4] 85 (0,0))/\W.heap[z+1]? =some (.cells #[.slice none 0 0,.slice none 0 0,.slice none 0 0,.slice none 0 0,.slice none 0 0] 54 (0,0))/\W.heap[z+2]? =some (.cells #[.slice (some ⟨g0,0,none⟩) m.rq.length m.rq.length,.slice (some ⟨g1,0,none⟩) m.im.length m.im.length,.slice (some ⟨g2,0,none⟩) m.ep.length m.ep.length,.slice (some ⟨g3,0,none⟩) m.st.length m.st.length,.slice none 0 0] 54 (0,0))/\Bw w W/\OwnR W w.heap.size 9 1 ⟨some ⟨g0,0,none⟩,m.rq.length⟩ m.rq.length (m.rq.flatMap (fun x=>[Value.string x]))/\OwnR W w.heap.size 95 3 ⟨some ⟨g1,0,none⟩,m.im.length⟩ m.im.length (m.im.flatMap imL)/\OwnR W w.heap.size 97 4 ⟨some ⟨g2,0,none⟩,m.ep.length⟩ m.ep.length (m.ep.flatMap epL)/\OwnR W w.heap.size 102 3 ⟨some ⟨g3,0,none⟩,m.st.length⟩ m.st.length (m.st.flatMap smL))) ⟨(heap_setCell_other _ _ _ _ (by show z≠z+2;omega)).trans X2.o,(heap_setCell_other _ _ _ _ (by show z+1≠z+2;omega)).trans Y2.o,(zae D.o).trans (by simp),H.o.setCell ab _,zby P0.o D.o (by decide),zby P1.o D.o (by decide),zby P2.o D.o (by decide),zby P3.o D.o (by decide)⟩ ?_;clear X2 Y2 D H N I J L M K P0 P1 P2 P3;rintro W4 ⟨hx,V,O,h,o0,o1,o2,o3⟩;have X:=zc hx;have Y:=zc V;have Z:=zc O;have E:=zc h;have U:=zc o0;have O1:=zc o1;have O2:=zc o2;have O3:=zc o3;clear hx V O h o0 o1 o2 o3;obtain⟨N,I,J,L,M,K⟩:=zj X.o;go_wp2_with fail;refine (zqx A.a4 A.c4 m.ex W4 (HR.o.later E.o).2.2.2.2 f5).mono ?_;rintro e V4 ⟨g4,rfl,q,h⟩;have X2:=zc ((h.block _ (aLt X.o)).trans X.o);have Y2:=zc ((h.block _ (aLt Y.o)).trans Y.o);have D:=zc ((h.block _ (aLt Z.o)).trans Z.o);have H:=zc (E.o.trans (h.mono E.o.size));have P0:=zc (U.o.keep fun k g=>h.block k (U.o.typed g).2.1);have P1:=zc (O1.o.keep fun k g=>h.block k (O1.o.typed g).2.1);have P2:=zc (O2.o.keep fun k g=>h.block k (O2.o.typed g).2.1);have P3:=zc (O3.o.keep fun k g=>h.block k (O3.o.typed g).2.1);have P4:=zc (q.low E.o.size);clear q h N I J L M K X Y Z E U O1 O2 O3;obtain⟨N,I,J,L,M,K⟩:=zj D.o;go_upto_region 7 with fail;refine zu (R:=(fun W=>W.heap[z]? =some (.cells #[.slice A.a0 m.rq.length A.c0,.slice A.a1 m.im.length A.c1,.slice A.a2 m.ep.length A.c2,.slice A.a3 m.st.length A.c3,.slice A.a4 m.ex.length A.c4] 85 (0,0))/\W.heap[z+1]? =some (.cells #[.slice none 0 0,.slice none 0 0,.slice none 0 0,.slice none 0 0,.slice none 0 0] 54 (0,0))/\W.heap[z+2]? =some (.cells #[.slice (some ⟨g0,0,none⟩) m.rq.length m.rq.length,.slice (some ⟨g1,0,none⟩) m.im.length m.im.length,.slice (some ⟨g2,0,none⟩) m.ep.length m.ep.length,.slice (some ⟨g3,0,none⟩) m.st.length m.st.length,.slice (some ⟨g4,0,none⟩) m.ex.length m.ex.length] 54 (0,0))/\Bw w W/\OwnR W w.heap.size 9 1 ⟨some ⟨g0,0,none⟩,m.rq.length⟩ m.rq.length (m.rq.flatMap (fun x=>[Value.string x]))/\OwnR W w.heap.size 95 3 ⟨some ⟨g1,0,none⟩,m.im.length⟩ m.im.length (m.im.flatMap imL)/\OwnR W w.heap.size 97 4 ⟨some ⟨g2,0,none⟩,m.ep.length⟩ m.ep.length (m.ep.flatMap epL)/\OwnR W w.heap.size 102 3 ⟨some ⟨g3,0,none⟩,m.st.length⟩ m.st.length (m.st.flatMap smL)/\OwnR W w.heap.size 100 6 ⟨some ⟨g4,0,none⟩,m.ex.length⟩ m.ex.length (m.ex.flatMap exL))) ⟨(heap_setCell_other _ _ _ _ (by show z≠z+2;omega)).trans X2.o,(heap_setCell_other _ _ _ _ (by show z+1≠z+2;omega)).trans Y2.o,(zae D.o).trans (by simp),H.o.setCell ab _,zby P0.o D.o (by decide),zby P1.o D.o (by decide),zby P2.o D.o (by decide),zby P3.o D.o (by decide),zby P4.o D.o (by decide)⟩ ?_;clear X2 Y2 D H N I J L M K P0 P1 P2 P3 P4;rintro W5 ⟨hx,V,O,h,o0,o1,o2,o3,o4⟩;have Y:=zc V;have Z:=zc O;have E:=zc h;have U:=zc o0;have O1:=zc o1;have O2:=zc o2;have O3:=zc o3;have O4:=zc o4;clear hx V O h o0 o1 o2 o3 o4;obtain⟨N,I,J,L,M,K⟩:=zj Z.o;obtain⟨d0,d1,d2,d3,d4,df⟩:=zj Y.o;go_wp2;refine bodyPost_ret (results_cell_row rfl _ _ (z+1) 54 #[.slice (some ⟨g0,0,none⟩) m.rq.length m.rq.length,.slice (some ⟨g1,0,none⟩) m.im.length m.im.length,.slice (some ⟨g2,0,none⟩) m.ep.length m.ep.length,.slice (some ⟨g3,0,none⟩) m.st.length m.st.length,.slice (some ⟨g4,0,none⟩) m.ex.length m.ex.length] (0,0) _ rfl ?_ underlying54 rfl (by kernel_rfl)) rfl ?_
 ·exact zdD Y.o
 ·refine⟨⟨⟨some ⟨g0,0,none⟩,m.rq.length⟩,⟨some ⟨g1,0,none⟩,m.im.length⟩,⟨some ⟨g2,0,none⟩,m.ep.length⟩,⟨some ⟨g3,0,none⟩,m.st.length⟩,⟨some ⟨g4,0,none⟩,m.ex.length⟩,⟨none,0⟩⟩,rfl,⟨?_,?_,?_,?_,?_⟩,((((E.o.setCell aa _).setCell aa _).setCell aa _).setCell aa _).setCell aa _⟩
  ·rw[zkK];exact zfO U.o Y.o (by decide)
  ·exact zfO O1.o Y.o (by decide)
  ·exact zfO O2.o Y.o (by decide)
  ·exact zfO O3.o Y.o (by decide)
  ·exact zfO O4.o Y.o (by decide)
def zbj (e:Ep):Im:=⟨sNone,e.loc,e.name⟩
def zbD (C:Cx) (exp:Bool) (q:PS):Except Nat (PS×Ep):=bd (zm C true q) fun a=>bd (asP C exp a) fun b=>.ok (b.1,⟨0,b.2,a.2,sNone⟩)
theorem zkL (C:Cx) (h:Bool) (q:PS) (acc:List Ep):za7 C h q acc=bd (zbD C h q) fun x=>
  if isT C x.1.pos 4 zbJ then za7 C h (adv x.1) (acc++[x.2]) else bd (zd C 4 zb5 x.1) fun q'=>.ok (q',acc++[x.2]):=by
 rw[zgp,zbD,zQ];refine zah fun a _=>?_;rw[zQ];rfl
theorem zqY {C:Cx} {q:PS} {a:PS×BA} (w:zm C true q= .ok a) (h:isT C a.1.pos 1 sAs=true):zbD C false q=bd (zm C false (adv a.1)) fun b=>.ok (b.1,⟨0,b.2,a.2,sNone⟩):=by
 rw[zbD,w,zB,asP,if_pos h]
theorem zqZ {C:Cx} {q:PS} {a:PS×BA} (z:zm C true q= .ok a) (h:isT C a.1.pos 1 sAs=false) (w:(a.2.toList==[100,101,102,97,117,108,116])=true):zbD C false q= .error (zt C a.1.pos):=by
 rw[zbD,z,zB,asP,if_neg (by rw[h];decide),if_pos (by rw[w];rfl)];rfl
theorem zra {C:Cx} {q:PS} {a:PS×BA} (z:zm C true q= .ok a) (h:isT C a.1.pos 1 sAs=false) (w:(a.2.toList==[100,101,102,97,117,108,116])=false):zbD C false q= .ok (a.1,⟨0,a.2,a.2,sNone⟩):=by
 rw[zbD,z,zB,asP,if_neg (by rw[h];decide),if_neg (by rw[w];decide)];rfl
theorem zn {w:World} {b:Nat} {t:TypeId} {v0 v1 v2:Value} (h:w.heap[b]? =some (.cells #[v0,v1,v2] t (0,0))):
  w.cell? ⟨b,0,none⟩=some v0/\w.cell? ⟨b,1,none⟩=some v1/\w.cell? ⟨b,2,none⟩=some v2/\∀i,w.frozen? ⟨b,i,none⟩=false:=by
 refine⟨?_,?_,?_,fun i=>?_⟩<;>simp[World.cell?,World.frozen?,h]
theorem put3 {w:World} {b:Nat} {v0 v1 v2 q A z:Value} {t:TypeId} (h:w.heap[b]? =some (.cells #[v0,v1,v2] t (0,0))):
  (((w.setCell ⟨b,0,none⟩ q).setCell ⟨b,1,none⟩ A).setCell ⟨b,2,none⟩ z).heap[b]? =some (.cells #[q,A,z] t (0,0)):=by
 have e:=zae (i:=2) (u:=z) (zae (i:=1) (u:=A) (zae (i:=0) (u:=q) h));rw[e];simp
theorem zrb (C:Cx) (K A base I:Nat) (S:Sv) (q:PS) (w:World) (h:IM C K A base I S q w):
  Calls prog 248 #[.pointer (some ⟨I,0,none⟩)] w (zV C K A base I (zbD C false q) (·.1) (fun a=>imV (zbj a.2)) S w):=by
 have H:w.heap.size≠I:=by have:=h.lt;omega
 have E:w.heap.size≠K:=by have:=(zaw h.mem.tok).1;omega
 go_enter func248,ntmps248;go_wp2_with fail;refine (zf9 C K A base I S q _ (h.alloc _)).mono ?_;cases J:zm C true q with
 |error p=>
  rintro e w1 ⟨rfl,Y⟩;have HB:Below base w w1:=(h.back ((IS.refl _ _ _).alloc _)).trans Y;have V:Hid (zbD C false q= .error p):=by show _=_;rw[zbD,J];rfl
  unfold Pan;go_wp2;refine⟨rfl,?_⟩;rw[V.o];exact⟨rfl,HB⟩
 |ok a=>
  rintro e w1 ⟨rfl,O,N,M⟩;cases X:isT C a.1.pos 1 sAs with
  |true=>
   have HY:=zc (zqY J X);go_wp2_with fail;refine (zP C K A base I O a.1 1 sAs _ N (by decide)).mono ?_;rintro e w2 ⟨rfl,z,s⟩;rw[X] at z ⊢;have D:=M.trans s;clear s;go_wp2_with fail;refine (zdF C K A base I O (adv a.1) _ z).mono ?_;cases aa:zm C false (adv a.1) with
   |error p=>
    rintro e w3 ⟨rfl,Y⟩;have HB:=(h.back D.from).trans Y;have V:Hid (zbD C false q= .error p):=bdE HY.o aa;unfold Pan;go_wp2;refine⟨rfl,?_⟩;rw[V.o];exact⟨rfl,HB⟩
   |ok c=>
    rintro e w3 ⟨rfl,S3,ab,s⟩;have U:=D.trans s;clear s;have V:=zc (bdO HY.o aa);have Z:Hid (w3.heap[w.heap.size]? =some (.cells #[.string sNone,.string sNone,.string sNone] 95 (0,0))):=IS.kept h U rfl;have L:Hid (¬S3.has w.heap.size):=IS.free h U;obtain⟨b0,b1,b2,bf⟩:=zn Z.o;go_wp2;refine bodyPost_ret (results_cell_row rfl _ _ w.heap.size 95 _ (0,0) _ rfl (put3 Z.o) underlying95 rfl (by kernel_rfl)) rfl ?_;rw[V.o];exact⟨rfl,S3,((ab.set H E L.o _ _).set H E L.o _ _).set H E L.o _ _,((U.from.new (le_refl _) _ _).new (le_refl _) _ _).new (le_refl _) _ _⟩
  |false=>
   cases hd:(a.2.toList==[100,101,102,97,117,108,116]) with
   |true=>
    have HY:=zc (zqZ J X hd);go_wp2_with fail;refine (zP C K A base I O a.1 1 sAs _ N (by decide)).mono ?_;rintro e w2 ⟨rfl,z,s⟩;rw[X] at z ⊢;have D:=M.trans s;clear s;go_wp2_with fail;refine (zeS C K A base I O a.1 _ z).mono ?_;rintro e w3 ⟨rfl,Y⟩;have HB:=(h.back D.from).trans (Y.mono z.mem.base);unfold Pan;go_wp2;refine⟨rfl,?_⟩;rw[HY.o];exact⟨rfl,HB⟩
   |false=>
    have V:=zc (zra J X hd);go_wp2_with fail;refine (zP C K A base I O a.1 1 sAs _ N (by decide)).mono ?_;rintro e w2 ⟨rfl,z,s⟩;rw[X] at z ⊢;have D:=M.trans s;clear s;have Z:Hid (w2.heap[w.heap.size]? =some (.cells #[.string sNone,.string sNone,.string sNone] 95 (0,0))):=IS.kept h D rfl;have L:Hid (¬O.has w.heap.size):=IS.free h D;obtain⟨b0,b1,b2,bf⟩:=zn Z.o;go_wp2;refine bodyPost_ret (results_cell_row rfl _ _ w.heap.size 95 _ (0,0) _ rfl (put3 Z.o) underlying95 rfl (by kernel_rfl)) rfl ?_;rw[V.o];exact⟨rfl,O,((z.set H E L.o _ _).set H E L.o _ _).set H E L.o _ _,((D.from.new (le_refl _) _ _).new (le_refl _) _ _).new (le_refl _) _ _⟩
abbrev Bk (w:World) (b:Nat) (cs:Array Value) (t:TypeId):Prop:=w.heap[b]? =some (.cells cs t (0,0))
theorem Bk.later {w q:World} {b:Nat} {z:Array Value} {t:TypeId} (h:Bk w b z t) (A:Bw w q):Bk q b z t:=(A.block _ (aLt h)).trans h
theorem zZ {w z q:World} (h:Bw w z) (A:Bw z q):Bw w q:=h.trans (A.mono h.size)
def maL (x:MA×Md):List Value:=[.slice x.1.a0 x.2.rq.length x.1.c0,.slice x.1.a1 x.2.im.length x.1.c1,.slice x.1.a2 x.2.ep.length x.1.c2,.slice x.1.a3 x.2.st.length x.1.c3,.slice x.1.a4 x.2.ex.length x.1.c4]
def mdL (x:Sv×Md):List Value:=[.slice x.1.rq.a x.2.rq.length x.1.rq.cap,.slice x.1.im.a x.2.im.length x.1.im.cap,.slice x.1.ep.a x.2.ep.length x.1.ep.cap,.slice x.1.st.a x.2.st.length x.1.st.cap,.slice x.1.ex.a x.2.ex.length x.1.ex.cap]
def zcN (x:MA×Md):Nat:=zbi x.2
theorem zrc (a:Option Addr) (Y:Nat) (l:List (MA×Md)) (left:Int) (w:World) (hr:RowAt w a maL 5 l) (hi: ∀x∈l,ModIn w x.1 x.2) (hl:l.length<=9223372036854775807) (D: ∀x∈l,zfN x.2) (h0:0<=left) (h1:left<=1048576):
  Calls prog 23 #[.slice a l.length Y,.int .i64 left] w fun e w'=>zcw left (l.length+zD zcN l) e/\Bw w w':=by
 have HR:=zc hr;have HI:=zc hi;have HG:=zc D;clear hr D hi;by_cases ac:(l.length:Int)<=left
 case neg=>
  go_enter func23,ntmps23;go_wp2;go_ret;exact⟨⟨-1,rfl,by omega,by omega,fun h=>by omega⟩,Below.refl _ _⟩
 go_enter func23,ntmps23;go_wp2;go_loopg [1,5] l.length (fun k s1 s5 wr=>∃(j:Nat) (z:Int),s5= .int .i64 j/\s1= .int .i64 z/\j+k=l.length/\0<=z/\z<=left/\z+((l.length+zD zcN (l.take j):Nat):Int)=left/\Bw w wr)
 case atStart=>exact⟨0,_,rfl,rfl,by omega,by omega,by omega,by simp[zD],Below.refl _ _⟩
 case round=>
  obtain⟨j,z,rfl,rfl,hj,X,aa,J,D⟩:=hrel;have HZ:=zc J;have H:=zc D;clear J D;by_cases U:j<l.length
  ·have N:(j:Int)<(l.length:Int):=by omega
   obtain⟨x,L⟩: ∃x,l[j]? =some x:=⟨_,getElem?_eq_getElem U⟩;obtain⟨b,ae,rfl,q⟩:=(HR.o.later H.o).get L;have Z:=zc ((HI.o x (mem_of_getElem? L)).later H.o);have V:=zc (HG.o x (mem_of_getElem? L));have HC:=zc (zey zcN L);have c0:=q 0 _ rfl;have c1:=q 1 _ rfl;have c2:=q 2 _ rfl;have c3:=q 3 _ rfl;have c4:=q 4 _ rfl;simp only[add_zero] at c0;clear q L;obtain⟨O,A⟩: ∃O,O=j+1:=⟨_,rfl⟩;have ej:(j:Int)+1=(O:Int):=by omega
   have HJ:=zc A;clear A;go_wp2_with fail;refine (zqp x.1 x.2 z _ Z.o V.o X (by omega)).mono ?_;rintro e w1 ⟨⟨z1,rfl,af,ad,I⟩,M⟩;have K:=zc (H.o.trans (M.mono H.o.size));have ab:=zc I;clear M I c0 c1 c2 c3 c4;by_cases E:0<=z1
   ·go_wp2;go_roundg (gk-1)
    case rel=>exact⟨O,z1,rfl,rfl,by have:=HJ.o;omega,E,by omega,by have:=HZ.o;have:=ab.o E;rw[HJ.o,HC.o];have:zcN x=zbi x.2:=rfl;omega,K.o⟩
    case measure=>omega
   ·go_wp2;go_ret;exact⟨⟨-1,rfl,by omega,by omega,fun h=>by omega⟩,K.o⟩
  ·have N: ¬(j:Int)<(l.length:Int):=by omega
   obtain rfl:j=l.length:=by omega
   go_wp2;go_ret;exact⟨⟨z,rfl,by omega,aa,fun _=>by have:=HZ.o;rw[List.take_length] at this;exact this⟩,H.o⟩
structure GA where
 pa:Option Addr
 pc:Nat
 ma:Option Addr
 mc:Nat
 la:Option Addr
 lc:Nat
 ms:List (MA×Md)
structure Gr where
 ps:List BA
 ms:List Md
 ls:List Lk
def grA (A:GA) (g:Gr):Value:=.agg #[.slice A.pa g.ps.length A.pc,.slice A.ma A.ms.length A.mc,.slice A.la g.ls.length A.lc]
structure GrIn (w:World) (A:GA) (g:Gr):Prop where
 ps:RowAt w A.pa (fun x=>[Value.string x]) 1 g.ps
 ms:RowAt w A.ma maL 5 A.ms
 md: ∀x∈A.ms,ModIn w x.1 x.2
 ls:RowAt w A.la lkL 3 g.ls
 same:A.ms.map (·.2)=g.ms
structure BigG (A:GA) (g:Gr):Prop where
 ps:g.ps.length<=9223372036854775807
 pS: ∀x∈g.ps,zea x
 ms:A.ms.length<=9223372036854775807
 mS: ∀x∈A.ms,zfN x.2
 ls:g.ls.length<=9223372036854775807
 lS: ∀x∈g.ls,ze4 x
theorem GrIn.later {w z:World} {A:GA} {g:Gr} (h:GrIn w A g) (q:Bw w z):GrIn z A g:=⟨h.ps.later q,h.ms.later q,fun x D=>(h.md x D).later q,h.ls.later q,h.same⟩
def ze5 (A:GA) (g:Gr):Nat:=(g.ps.length+zD zbX g.ps)+(A.ms.length+zD zcN A.ms)+(g.ls.length+zD zeb g.ls)
theorem zrd (A:GA) (g:Gr) (left:Int) (w:World) (hr:GrIn w A g) (q:BigG A g) (h0:0<=left) (h1:left<=1048576):
  Calls prog 7 #[grA A g,.int .i64 left] w fun e w'=>zcw left (ze5 A g) e/\Bw w w':=by
 have HR:=zc hr;have I:=zc q;clear hr q;unfold grA;go_enter func7,ntmps7;go_upto_region 1 with fail;obtain⟨J,z⟩: ∃J,J=w.alloc (.cells #[.slice A.pa g.ps.length A.pc,.slice A.ma A.ms.length A.mc,.slice A.la g.ls.length A.lc] 26):=⟨_,rfl⟩;rw[<-z];have V:Hid (Bk J w.heap.size #[.slice A.pa g.ps.length A.pc,.slice A.ma A.ms.length A.mc,.slice A.la g.ls.length A.lc] 26):=by rw[z];exact heap_alloc_new w _
 have D:Hid (Bw w J):=by rw[z];exact bA0
 clear z;have Y:=zc (HR.o.later D.o);clear HR;obtain⟨O,L,M,N⟩:=zn V.o;go_wp2_with fail;refine (zkD A.pa A.pc g.ps left J Y.o.ps I.o.ps I.o.pS (by omega) (by omega)).mono ?_;rintro e W1 ⟨⟨z0,rfl,y0,u0,v0⟩,q⟩;have E:=zc (zZ D.o q);have U:=zc (Y.o.later q);have Z:=zc (V.o.later q);have V0:=zc v0;clear q v0 O L M N Y V D;by_cases t0:0<=z0
 case neg=>
  go_wp2;go_ret;exact⟨⟨-1,rfl,by omega,by omega,fun h=>by omega⟩,E.o⟩
 obtain⟨O,L,M,N⟩:=zn Z.o;go_wp2_with fail;refine (zrc A.ma A.mc A.ms z0 W1 U.o.ms U.o.md I.o.ms I.o.mS (by omega) (by omega)).mono ?_;rintro e W2 ⟨⟨z1,rfl,y1,u1,v1⟩,q⟩;have H:=zc (zZ E.o q);have X:=zc (U.o.later q);have X2:=zc (Z.o.later q);have V1:=zc v1;clear q v1 O L M N U Z E;by_cases t1:0<=z1
 case neg=>
  go_wp2;go_ret;exact⟨⟨-1,rfl,by omega,by omega,fun h=>by omega⟩,H.o⟩
 obtain⟨O,L,M,N⟩:=zn X2.o;go_wp2_with fail;refine (zqN A.la A.lc g.ls z1 W2 X.o.ls I.o.ls I.o.lS (by omega) (by omega)).mono ?_;rintro e W3 ⟨⟨z2,rfl,y2,u2,v2⟩,q⟩;have K:=zc (zZ H.o q);have M3:=zc (X.o.later q);have X3:=zc (X2.o.later q);have V2:=zc v2;clear q v2 O L M N X X2 H;by_cases t2:0<=z2
 case neg=>
  go_wp2;go_ret;exact⟨⟨-1,rfl,by omega,by omega,fun h=>by omega⟩,K.o⟩
 go_wp2;go_ret;exact⟨⟨z2,rfl,by omega,by omega,fun _=>by have q0:=V0.o t0;have q1:=V1.o t1;have q2:=V2.o t2;unfold ze5;omega⟩,K.o⟩
theorem OwnMd.low {w:World} {b z:Nat} {S:Sv} {m:Md} (h:OwnMd w b S m) (q:z<=b):OwnMd w z S m:=⟨h.rq.low q,h.im.low q,h.ep.low q,h.st.low q,h.ex.low q⟩
theorem OwnR.aside {w:World} {base size n c i:Nat} {e t:TypeId} {r:Rw} {xs:List Value} {u:Value} {E:Array Value} (h:OwnR w base e size r n xs) (H:w.heap[c]? =some (.cells E t (0,0))) (D:e≠t):OwnR (w.setCell ⟨c,i,none⟩ u) base e size r n xs:=
 h.keep fun k g=>heap_setCell_other w ⟨c,i,none⟩ k u fun z=>by
  obtain⟨_,_,A,q⟩:=h.typed g;simp only at z;rw[z,H] at q;simp only[Option.some.injEq,Obj.cells.injEq] at q;exact D q.2.1.symm
theorem OwnMd.aside {w:World} {b c i:Nat} {S:Sv} {m:Md} {t:TypeId} {u:Value} {A:Array Value} (h:OwnMd w b S m) (z:w.heap[c]? =some (.cells A t (0,0))) (q:t≠9/\t≠95/\t≠97/\t≠102/\t≠100):OwnMd (w.setCell ⟨c,i,none⟩ u) b S m:=
 ⟨h.rq.aside z q.1.symm,h.im.aside z q.2.1.symm,h.ep.aside z q.2.2.1.symm,h.st.aside z q.2.2.2.1.symm,h.ex.aside z q.2.2.2.2.symm⟩
theorem zgK {w:World} {b g o:Nat} {S:Sv} {m:Md} {A K L J N:Value} (h:OwnMd w b S m) (O: ∃q,w.heap[g]? =some (.cells q 54 (0,0))):
  OwnMd (((((w.setCell ⟨g,o,none⟩ A).setCell ⟨g,o+1,none⟩ K).setCell ⟨g,o+2,none⟩ L).setCell ⟨g,o+3,none⟩ J).setCell ⟨g,o+4,none⟩ N) b S m:=by
 obtain⟨q,H⟩:=O;have E:=zae (i:=o) (u:=A) H;have D:=zae (i:=o+1) (u:=K) E;have I:=zae (i:=o+2) (u:=L) D;have M:=zae (i:=o+3) (u:=J) I;have z:(54:TypeId)≠9/\(54:TypeId)≠95/\(54:TypeId)≠97/\(54:TypeId)≠102/\(54:TypeId)≠100:=by decide
 exact ((((h.aside H z).aside E z).aside D z).aside I z).aside M z
theorem OwnR.put {w:World} {base size n g:Nat} {e:TypeId} {r:Rw} {xs:List Value} (h:OwnR w base e size r n xs) (q:r.a=some ⟨g,0,none⟩) (j:Nat) (u:Value):OwnR (w.setCell ⟨g,j,none⟩ u) base e size r n (xs.set j u):=by
 obtain⟨a,z⟩:=r;simp only at q;subst q;exact (World.ownsRow.stored h j u).1
theorem OwnR.blkOf {r:Rw} {g:Nat} (h:r.a=some ⟨g,0,none⟩):r.blk=some g:=by rw[Rw.blk,h];rfl
theorem OwnR.free {w:World} {base size n g:Nat} {e:TypeId} {r:Rw} {xs:List Value} (h:OwnR w base e size r n xs) (z:r.a=some ⟨g,0,none⟩) (j:Nat):w.frozen? ⟨g,j,none⟩=false:=by
 obtain⟨_,_,q,A⟩:=h.typed (OwnR.blkOf z);simp[World.frozen?,A]
theorem OwnC.block {w:World} {base g n m c:Nat} {e:TypeId} {A:List Value} (h:OwnC w base e m g n A c): ∃q,w.heap[g]? =some (.cells q e (0,0)):=by
 obtain⟨D,z,_⟩:=h;exact (OwnR.typed (r:=⟨some ⟨g,0,none⟩,n⟩) z rfl).2.2
theorem OwnC.more {w:World} {base g n m c:Nat} {e:TypeId} {q E:List Value} (h:OwnC w base e m g n q c) (I:c<=q.length):OwnC w base e m g n (q++E) c:=by
 obtain⟨D,A,z⟩:=h;exact⟨D,A,fun i H=>by rw[List.getElem?_append_left (by omega)];exact z i H⟩
theorem zre {α β:Type} {S:List α} {l:List β} {s:α} {x:β} (h:l[S.length]? =some x):(S++[s]).zip l=S.zip l++[(s,x)]:=by
 induction S generalizing l with
 |nil=>cases l with
  |nil=>cases h
  |cons y l=>cases h;simp
 |cons a S q=>cases l with
  |nil=>cases h
  |cons y l=>simp only[List.cons_append,List.zip_cons_cons];rw[q h]
def zrf (w:World) (l:List Md) (e:Ending) (w':World):Prop:=∃(g:Nat) (S:List Sv),S.length=l.length/\e= .returned (.slice (some ⟨g,0,none⟩) l.length l.length)/\OwnR w' w.heap.size 54 5 ⟨some ⟨g,0,none⟩,l.length⟩ l.length ((S.zip l).flatMap mdL)/\(∀x∈S.zip l,OwnMd w' w.heap.size x.1 x.2)/\Bw w w'
theorem Tryz.infoTMd:(prog.info? 54).map (fun i=>(i.zero,i.size,i.bytes))=some (some (.agg #[.slice none 0 0,.slice none 0 0,.slice none 0 0,.slice none 0 0,.slice none 0 0]),5,120):=by kernel_rfl
def zfP (m:Md):Prop:=m.rq.length<=1048576/\m.im.length<=1048576/\m.ep.length<=1048576/\m.st.length<=1048576/\m.ex.length<=1048576
theorem zrg (a:Option Addr) (am:Nat) (l:List (MA×Md)) (w:World) (hr:RowAt w a maL 5 l) (hi: ∀x∈l,ModIn w x.1 x.2) (hf: ∀x∈l,zfP x.2) (hl:l.length<=1048576):
  Calls prog 32 #[.slice a l.length am] w fun e w'=>zrf w (l.map (·.2)) e w':=by
 have HR:=zc hr;have HI:=zc hi;have HF:=zc hf;have K:Hid ((l.map (·.2)).length=l.length):=length_map ..;clear hr hi hf;obtain⟨i0,hi,ae,an,aj⟩:=info_parts Tryz.infoTMd;go_enter func32,ntmps32;go_wp2_with (first|(at_make;refine wpList_make_full w rfl _ _ 29 rfl w.heap.size 54 i0 _ 5 underlying29 hi ae an .i64 .i64 _ _ l.length (by rfl) (by rfl) rfl rfl (by rw[aj];omega) (by unfold maxLen;omega) (le_refl _) ?_));intro w1 A I;have ak:=zc ((Below.refl _ _).grown I (le_refl _) (fun k h=>by cases h):Bw w w1);have U:Hid (OwnC w1 w.heap.size 54 5 w.heap.size l.length [] 0):=⟨_,A,fun j hj=>absurd hj (Nat.not_lt_zero j)⟩;clear A I;obtain⟨g,hg⟩: ∃g,g=w.heap.size:=⟨_,rfl⟩;have af:=zc hg;rw[<-hg];have ag:Hid (OwnC w1 w.heap.size 54 5 g l.length [] 0):=by rw[hg];exact U.o
 clear hg U;go_wp2;go_loopg [4] l.length (fun k i wr=>∃(j:Nat) (S:List Sv),i= .int .i64 j/\j+k=l.length/\S.length=j/\OwnC wr w.heap.size 54 5 g l.length ((S.zip (l.map (·.2))).flatMap mdL) (j*5)/\(∀x∈S.zip (l.map (·.2)),OwnMd wr w.heap.size x.1 x.2)/\Bw w wr)
 case atStart=>exact⟨0,[],rfl,by omega,rfl,ag.o,(fun x J=>by cases J),ak.o⟩
 case round=>
  obtain⟨j,S,rfl,hj,hs,ho,hm,hb⟩:=hrel;have HO:=zc ho;have HM:=zc hm;have L:=zc hb;have X:=zc hs;clear ho hb hm hs;by_cases ad:j<l.length
  ·have Y:(j:Int)<(l.length:Int):=by omega
   obtain⟨x,J⟩: ∃x,l[j]? =some x:=⟨_,getElem?_eq_getElem ad⟩;obtain⟨b,ap,rfl,M⟩:=(HR.o.later L.o).get J;have ai:=zc ((HI.o x (mem_of_getElem? J)).later L.o);have E:=zc (HF.o x (mem_of_getElem? J));have HX:Hid ((l.map (·.2))[j]? =some x.2):=by show _=_;rw[List.getElem?_map,J];rfl
   clear J;have c0:=M 0 _ rfl;have c1:=M 1 _ rfl;have c2:=M 2 _ rfl;have c3:=M 3 _ rfl;have c4:=M 4 _ rfl;simp only[add_zero] at c0;clear M;obtain⟨j1,V⟩: ∃j1,j1=j+1:=⟨_,rfl⟩;have ej:(j:Int)+1=(j1:Int):=by omega
   have HJ:=zc V;clear V;go_wp2_with fail;refine (zqX x.1 x.2 _ ai.o E.o.1 E.o.2.1 E.o.2.2.1 E.o.2.2.2.1 E.o.2.2.2.2).mono ?_;rintro e w2 ⟨O,rfl,Z,H⟩;have q:=zc (HO.o.later H);have al:Hid (∀y∈S.zip (l.map (·.2)),OwnMd w2 w.heap.size y.1 y.2):=fun y N=>(HM.o y N).later H;have ao:=zc (Z.low L.o.size);have ah:=zc (L.o.trans (H.mono L.o.size));clear H Z c0 c1 c2 c3 c4 HO HM L;obtain⟨v0,g0⟩:=q.o.has (j*5) (by omega);have f0:=q.o.free (j*5);obtain⟨v1,g1⟩:=q.o.has (j*5+1) (by omega);have f1:=q.o.free (j*5+1);obtain⟨v2,g2⟩:=q.o.has (j*5+2) (by omega);have f2:=q.o.free (j*5+2);obtain⟨v3,g3⟩:=q.o.has (j*5+3) (by omega);have f3:=q.o.free (j*5+3);obtain⟨v4,g4⟩:=q.o.has (j*5+4) (by omega);have f4:=q.o.free (j*5+4);have HZ:Hid ((S++[O]).zip (l.map (·.2))=S.zip (l.map (·.2))++[(O,x.2)]):=zre (by rw[X.o];exact HX.o);have ac:((S.zip (l.map (·.2))).flatMap mdL).length=j*5:=by rw[zdZ (f:=mdL) (m:=5) (fun _=>rfl),length_zip,X.o,length_map];congr 1;omega
   have z: ∀i v,(mdL (O,x.2))[i]? =some v->(((S++[O]).zip (l.map (·.2))).flatMap mdL)[j*5+i]? =some v:=by
    intro i v hv;rw[HZ.o,List.flatMap_append,List.getElem?_append_right (by omega),ac,show j*5+i-j*5=i by omega]
    simpa using hv
   have ab:Hid (OwnC w2 w.heap.size 54 5 g l.length (((S++[O]).zip (l.map (·.2))).flatMap mdL) (j*5)):=by
    show OwnC ..;rw[HZ.o,List.flatMap_append];exact q.o.more (by omega)
   have HN:=zc (((((ab.o.put (by omega) (z 0 _ rfl)).put (by omega) (z 1 _ rfl)).put (by omega) (z 2 _ rfl)).put (by omega) (z 3 _ rfl)).put (by omega) (z 4 _ rfl));have aa:=zc q.o.block;clear z ac ab;have D:w.heap.size<=g:=by have:=af.o;omega
   unfold zl;go_wp2;go_roundg (gk-1)
   case rel=>
    refine⟨j1,S++[O],rfl,by have:=HJ.o;omega,by rw[List.length_append,X.o,HJ.o];rfl,by rw[HJ.o,Nat.succ_mul];exact HN.o,fun y N=>?_,(((((ah.o.setCell D _).setCell D _).setCell D _).setCell D _).setCell D _)⟩;rw[HZ.o,List.mem_append,List.mem_singleton] at N;rcases N with N|rfl
    ·exact zgK (al.o y N) aa.o
    ·exact zgK ao.o aa.o
   case measure=>omega
  ·have Y: ¬(j:Int)<(l.length:Int):=by omega
   obtain rfl:j=l.length:=by omega
   go_wp2;go_ret;have hz:(S.zip (l.map (·.2))).length=l.length:=by rw[length_zip,X.o,length_map,Nat.min_self]
   refine⟨g,S,X.o.trans K.o.symm,by rw[K.o];rfl,?_,HM.o,L.o⟩;rw[K.o];exact HO.o.all (by rw[zdZ (f:=mdL) (m:=5) (fun _=>rfl),hz])
theorem zfa {w:World} {base:Nat} {r:Rw} {S:List Sv} {l:List Md} (q:S.length=l.length) (h:OwnR w base 54 5 r l.length ((S.zip l).flatMap mdL)):OwnR w base 54 5 r (S.zip l).length ((S.zip l).flatMap mdL):=by
 rw[length_zip,q,Nat.min_self];exact h
theorem zec {α β:Type} {S:List α} {l:List β} (w:S.length=l.length) {j:Nat} {x:β} (h:l[j]? =some x): ∃s,(S.zip l)[j]? =some (s,x):=by
 have q:=(List.getElem?_eq_some_iff.1 h).1;refine⟨S[j],?_⟩;rw[List.getElem?_zip_eq_some];exact⟨getElem?_eq_getElem (by omega),h⟩
structure GS where
 pr:Rw
 mr:Rw
 sv:List Sv
 lr:Rw
def grD (G:GS) (g:Gr):Value:=.agg #[.slice G.pr.a g.ps.length G.pr.cap,.slice G.mr.a g.ms.length G.mr.cap,.slice G.lr.a g.ls.length G.lr.cap]
abbrev grC (G:GS) (g:Gr):Array Value:=#[.slice G.pr.a g.ps.length G.pr.cap,.slice G.mr.a g.ms.length G.mr.cap,.slice G.lr.a g.ls.length G.lr.cap]
theorem zak (w:World) (o:Obj):Bw w (w.alloc o):=bA0
structure GrOwn (w:World) (base:Nat) (G:GS) (g:Gr):Prop where
 ps:OwnR w base 9 1 G.pr g.ps.length (g.ps.flatMap fun x=>[Value.string x])
 ms:OwnR w base 54 5 G.mr g.ms.length ((G.sv.zip g.ms).flatMap mdL)
 md: ∀x∈G.sv.zip g.ms,OwnMd w base x.1 x.2
 ls:OwnR w base 57 3 G.lr g.ls.length (g.ls.flatMap lkL)
 len:G.sv.length=g.ms.length
variable (w:Gr) (s:BA) {W:World} {g:Nat} {C:TypeId} {S:Rw} {q:List Value} {z:Gr} {c:Value} {d:Md} {n:Ending}
theorem OwnR.later {x:World} {size n:Nat} (h:OwnR W g C size S n q) (z:Bw W x):OwnR x g C size S n q:=h.keep fun k m=>z.block k (h.typed m).2.1
theorem GrOwn.later {z:World} {G:GS} {k:Gr} (h:GrOwn W g G k) (q:Bw W z):GrOwn z g G k:=⟨h.ps.later q,h.ms.later q,fun x A=>(h.md x A).later q,h.ls.later q,h.len⟩
abbrev zxW (t:TypeId):Prop:=t≠9/\t≠95/\t≠97/\t≠102/\t≠100
abbrev lgC (A:GA) (g:Gr):Array Value:=#[.slice A.pa g.ps.length A.pc,.slice A.ma A.ms.length A.mc,.slice A.la g.ls.length A.lc]
structure GrTmp (w W:World) (A:GA) (g:Gr) (gx:Nat) (v0 v1 v2:Value):Prop where
 x:Bk W gx (lgC A g) 26
 y:Bk W (gx+1) #[.slice none 0 0,.slice none 0 0,.slice none 0 0] 32
 z:Bk W (gx+2) #[v0,v1,v2] 32
 b:Bw w W
theorem GrTmp.later {k E:World} {A:GA} {m:Gr} {v1 v2:Value} (h:GrTmp W k A m g c v1 v2) (q:Bw k E):GrTmp W E A m g c v1 v2:=⟨h.x.later q,h.y.later q,h.z.later q,zZ h.b q⟩
theorem GrTmp.set {k:World} {A:GA} {m:Gr} {v1 v2 u:Value} (h:GrTmp W k A m g c v1 v2) (D:W.heap.size<=g) (i:Nat):GrTmp W (k.setCell ⟨g+2,i,none⟩ u) A m g (if i=0 then u else c) (if i=1 then u else v1) (if i=2 then u else v2):=by
 refine⟨?_,?_,?_,h.b.setCell (by show _<=g+2;omega) _⟩
 ·exact (heap_setCell_other k ⟨g+2,i,none⟩ g u (by simp)).trans h.x
 ·exact (heap_setCell_other k ⟨g+2,i,none⟩ (g+1) u (by simp)).trans h.y
 ·refine (zae (i:=i) (u:=u) h.z).trans ?_
  match i with
  |0=>rfl
  |1=>rfl
  |2=>rfl
  |i+3=>rfl
def zrh (w:World) (g:Gr) (e:Ending) (w':World):Prop:=∃G,e= .returned (grD G g)/\GrOwn w' w.heap.size G g/\Bw w w'
theorem zgL (A:GA) (g:Gr) (w:World) (hr:GrIn w A g) (hf: ∀x∈A.ms,zfP x.2) (f1:g.ps.length<=1048576) (f2:A.ms.length<=1048576) (f3:g.ls.length<=1048576):
  Calls prog 9 #[grA A g] w fun e w'=>zrh w g e w':=by
 have HR:=zc hr;have HF:=zc hf;have HL:Hid (A.ms.length=g.ms.length):=by have:=congrArg List.length hr.same;rw[length_map] at this;exact this
 clear hr hf;unfold grA;go_enter func9,ntmps9;go_upto_region 2 with fail;obtain⟨N,aa⟩: ∃N,N=w.heap.size:=⟨_,rfl⟩;rw[<-aa];refine zu (R:=fun W=>GrTmp w W A g N (.slice none 0 0) (.slice none 0 0) (.slice none 0 0)) ?_ ?_
 ·rw[aa];refine⟨?_,?_,?_,?_⟩
  ·show _=_;rw[heap_alloc_old _ _ (by show _<((w.heap.push _).push _).size;simp;omega),heap_alloc_old _ _ (by show _<(w.heap.push _).size;simp)];exact heap_alloc_new w _
  ·show _=_;rw[heap_alloc_old _ _ (by show _<((w.heap.push _).push _).size;simp)];exact heap_alloc2_new w _ _
  ·have:=heap_alloc_new ((w.alloc (.cells (lgC A g) 26)).alloc (.cells #[.slice none 0 0,.slice none 0 0,.slice none 0 0] 32)) (.cells #[.slice none 0 0,.slice none 0 0,.slice none 0 0] 32);simp only[zg] at this;exact this
  ·exact ((bA0).alloc (by show _<=(w.heap.push _).size;simp) _).alloc (by show _<=((w.heap.push _).push _).size;simp;omega) _
 have X:w.heap.size<=N:=by omega
 clear aa;intro W0 M;have T0:=zc M;clear M;obtain⟨K,H,I,J⟩:=zn T0.o.x;go_wp2_with fail;refine (zkE A.pa A.pc g.ps W0 (HR.o.later T0.o.b).ps f1).mono ?_;rintro e V0 ⟨U,rfl,h,E⟩;have D:=zc (T0.o.later E);have P0:=zc (h.low T0.o.b.size);clear h E K H I J T0;obtain⟨K,H,I,J⟩:=zn D.o.z;go_upto_region 3 with fail;refine zu (R:=fun W=>GrTmp w W A g N (.slice (some ⟨U,0,none⟩) g.ps.length g.ps.length) (.slice none 0 0) (.slice none 0 0)/\OwnR W w.heap.size 9 1 ⟨some ⟨U,0,none⟩,g.ps.length⟩ g.ps.length (g.ps.flatMap fun x=>[Value.string x])) ⟨D.o.set X 0,P0.o.aside D.o.z (by decide)⟩ ?_;clear D P0 K H I J;rintro W1 ⟨M,ho⟩;have D:=zc M;have P0:=zc ho;clear M ho;obtain⟨K,H,I,J⟩:=zn D.o.x;go_wp2_with fail;refine (zrg A.ma A.mc A.ms W1 (HR.o.later D.o.b).ms (HR.o.later D.o.b).md HF.o f2).mono ?_;rw[HR.o.same];rintro e V1 ⟨g1,S,ab,rfl,h,ac,E⟩;have L:=zc (D.o.later E);have P1:=zc (P0.o.later E);have P2:=zc (h.low D.o.b.size);have P3:Hid (∀x∈S.zip g.ms,OwnMd V1 w.heap.size x.1 x.2):=fun x O=>(ac x O).low D.o.b.size;have ad:=zc ab;clear h E ac ab K H I J D P0;obtain⟨K,H,I,J⟩:=zn L.o.z;go_upto_region 4 with fail;refine zu (R:=fun W=>GrTmp w W A g N (.slice (some ⟨U,0,none⟩) g.ps.length g.ps.length) (.slice (some ⟨g1,0,none⟩) g.ms.length g.ms.length) (.slice none 0 0)/\OwnR W w.heap.size 9 1 ⟨some ⟨U,0,none⟩,g.ps.length⟩ g.ps.length (g.ps.flatMap fun x=>[Value.string x])/\OwnR W w.heap.size 54 5 ⟨some ⟨g1,0,none⟩,g.ms.length⟩ g.ms.length ((S.zip g.ms).flatMap mdL)/\∀x∈S.zip g.ms,OwnMd W w.heap.size x.1 x.2) ⟨L.o.set X 1,P1.o.aside L.o.z (by decide),P2.o.aside L.o.z (by decide),fun x O=>(P3.o x O).aside L.o.z (by decide)⟩ ?_;clear L P1 P2 P3 K H I J;rintro W2 ⟨M,V,Y,h3⟩;have L:=zc M;have P1:=zc V;have P2:=zc Y;have P3:=zc h3;clear M V Y h3;obtain⟨K,H,I,J⟩:=zn L.o.x;go_wp2_with fail;refine (zqP A.la A.lc g.ls W2 (HR.o.later L.o.b).ls f3).mono ?_;rintro e V2 ⟨g2,rfl,h,E⟩;have q:=zc (L.o.later E);have Q1:=zc (P1.o.later E);have Q2:=zc (P2.o.later E);have Q3:Hid (∀x∈S.zip g.ms,OwnMd V2 w.heap.size x.1 x.2):=fun x O=>(P3.o x O).later E;have Q4:=zc (h.low L.o.b.size);clear h E K H I J L P1 P2 P3;obtain⟨K,H,I,J⟩:=zn q.o.z;go_upto_region 5 with fail;refine zu (R:=fun W=>GrTmp w W A g N (.slice (some ⟨U,0,none⟩) g.ps.length g.ps.length) (.slice (some ⟨g1,0,none⟩) g.ms.length g.ms.length) (.slice (some ⟨g2,0,none⟩) g.ls.length g.ls.length)/\GrOwn W w.heap.size ⟨⟨some ⟨U,0,none⟩,g.ps.length⟩,⟨some ⟨g1,0,none⟩,g.ms.length⟩,S,⟨some ⟨g2,0,none⟩,g.ls.length⟩⟩ g) ⟨q.o.set X 2,Q1.o.aside q.o.z (by decide),Q2.o.aside q.o.z (by decide),fun x O=>(Q3.o x O).aside q.o.z (by decide),Q4.o.aside q.o.z (by decide),ad.o⟩ ?_;clear q Q1 Q2 Q3 Q4 K H I J;rintro W3 ⟨M,ho⟩;have q:=zc M;have O3:=zc ho;clear M ho;obtain⟨K,H,I,J⟩:=zn q.o.z;obtain⟨d0,d1,d2,df⟩:=zn q.o.y;go_wp2;refine bodyPost_ret (results_cell_row rfl _ _ (N+1) 32 #[.slice (some ⟨U,0,none⟩) g.ps.length g.ps.length,.slice (some ⟨g1,0,none⟩) g.ms.length g.ms.length,.slice (some ⟨g2,0,none⟩) g.ls.length g.ls.length] (0,0) _ rfl (put3 q.o.y) underlying32 rfl (by kernel_rfl)) rfl ?_;have Z:w.heap.size<=N+1:=by omega
 have h0:=q.o.y;have V:=zae (i:=0) (u:=.slice (some ⟨U,0,none⟩) g.ps.length g.ps.length) h0;have Y:=zae (i:=1) (u:=.slice (some ⟨g1,0,none⟩) g.ms.length g.ms.length) V;exact⟨_,rfl,⟨((O3.o.ps.aside h0 (by decide)).aside V (by decide)).aside Y (by decide),((O3.o.ms.aside h0 (by decide)).aside V (by decide)).aside Y (by decide),fun x O=>(((O3.o.md x O).aside h0 (by decide)).aside V (by decide)).aside Y (by decide),((O3.o.ls.aside h0 (by decide)).aside V (by decide)).aside Y (by decide),O3.o.len⟩,((q.o.b.setCell Z _).setCell Z _).setCell Z _⟩
theorem zfQ {α:Type} (f:α->BA) (l:List α): ∀t:BA,(acc f l t).size=t.size+(l.map fun x=>(f x).size).sum:=by
 induction l with
 |nil=>intro t;rfl
 |cons x l h=>
  intro t;show (acc f l (t++f x)).size=_;rw[h,ByteArray.size_append,map_cons,sum_cons,Nat.add_assoc]
theorem zgM {α:Type} {f c:α->Nat} (l:List α) (h: ∀x∈l,f x<=40+c x):(l.map f).sum<=40*l.length+zD c l:=by
 induction l with
 |nil=>exact le_refl _
 |cons x l q=>
  have z:=h x (List.mem_cons_self ..);have A:=q fun y w=>h y (List.mem_cons_of_mem _ w);unfold zD at*;rw[map_cons,sum_cons,map_cons,sum_cons,length_cons];omega
theorem zkM {α:Type} {f c g:α->Nat} (l:List α) (h: ∀x∈l,f x<=40+c x+g x):(l.map f).sum<=40*l.length+zD c l+(l.map g).sum:=by
 induction l with
 |nil=>exact le_refl _
 |cons x l q=>
  have z:=h x (List.mem_cons_self ..);have A:=q fun y w=>h y (List.mem_cons_of_mem _ w);unfold zD at*;rw[map_cons,sum_cons,map_cons,sum_cons,map_cons,sum_cons,length_cons];omega
theorem zd0 {α:Type} {c:α->Nat} {l:List α} {x:α} (h:x∈l):c x<=zD c l:=by
 induction l with
 |nil=>cases h
 |cons y l q=>
  unfold zD at*;rw[map_cons,sum_cons];rcases List.mem_cons.1 h with rfl|h
  ·omega
  ·have:=q h;omega
theorem zcZ (a:Array UInt8):(⟨a⟩:BA).size=a.size:=rfl
theorem zfb:(za3 s).size=s.size+2:=by
 rw[za3,ByteArray.size_append,ByteArray.size_append,zcZ];show 1+s.size+1=_;omega
theorem zkN (b:BA):(asT s b).size<=s.size+b.size+4:=by
 unfold asT
 split
 ·omega
 ·have z:(({data:=#[32,97,115,32]}:BA)).size=4:=rfl;rw[ByteArray.size_append,ByteArray.size_append,z];omega
theorem zri:(rqT s).size<=40+zbX s:=by
 rw[rqT,ByteArray.size_append,ByteArray.size_append,zfb,zcZ,zcZ];show 7+(s.size+2)+2<=40+s.size;omega
theorem zrj (x:Im):(zaf x).size<=40+zcf x:=by
 have h:=zkN x.first x.loc;unfold zaf zcf
 split
 ·simp only[ByteArray.size_append,zfb,zcZ];simp only[size_toArray,length_cons,length_nil];omega
 ·split
  ·simp only[ByteArray.size_append,zfb,zcZ];simp only[size_toArray,length_cons,length_nil];omega
  ·simp only[ByteArray.size_append,zfb,zcZ];simp only[size_toArray,length_cons,length_nil];omega
theorem zrk (x:Ep):(epF x).size<=40+zcg x:=by
 have h:=zkN x.loc x.name;unfold epF
 split
 ·exact Nat.zero_le _
 ·unfold zbx zcg
  split
  ·simp only[ByteArray.size_append,zfb,zcZ];simp only[size_toArray,length_cons,length_nil];omega
  ·split
   ·simp only[ByteArray.size_append,zfb,zcZ];simp only[size_toArray,length_cons,length_nil];omega
   ·simp only[ByteArray.size_append,zcZ];simp only[size_toArray,length_cons,length_nil];omega
theorem zkO (k:Int) (n e:BA):(za9 k n e).size<=40+n.size+e.size:=by
 unfold za9
 repeat' split
 all_goals
  simp only[ByteArray.size_append,zcZ];simp only[size_toArray,length_cons,length_nil];omega
theorem zrl (k:Int) (n e:BA):(zdy k n e).size<=40+n.size+e.size:=by
 unfold zdy
 split
 ·simp only[ByteArray.size_append,zcZ];simp only[size_toArray,length_cons,length_nil];omega
 ·exact zkO k n e
theorem zrm (l:List Ex):(l.map zdQ).sum<=40*l.length+zD zcM l:=zgM l fun x _=>by unfold zdQ zcM;omega
theorem zrn (m:Md):(zcm m).size<=40*m.rq.length+zD zbX m.rq+(40*m.im.length+zD zcf m.im)+(40*m.ep.length+zD zcg m.ep):=by
 have h:=zgM (c:=zbX) m.rq fun x _=>zri x;have q:=zgM (c:=zcf) m.im fun x _=>zrj x;have w:=zgM (c:=zcg) m.ep fun x _=>zrk x;rw[zcm,zfQ,zfQ,zfQ];have:sNone.size=0:=rfl;omega
theorem zkP (t:Tree d) (h:zaY d.ex):(zcn d).size<=40*zbi d/\(zbO d).size<=40*zbi d:=by
 have A:=zrn d;have z:=znX t h;have E:=zrm d.ex;have w:=zkM (c:=zcx) (g:=fun s=>wt d.ex s.expr.toNat) (f:=fun s=>(stF d.ex s).size) d.st fun s _=>zkO s.kind s.name _;have q:=zkM (c:=zcx) (g:=fun s=>wt d.ex s.expr.toNat) (f:=fun s=>(zcK d.ex s).size) d.st fun s _=>zrl s.kind s.name _;have D:zbi d=(d.rq.length+zD zbX d.rq)+(d.im.length+zD zcf d.im)+(d.ep.length+zD zcg d.ep)+(d.st.length+zD zcx d.st)+(d.ex.length+zD zcM d.ex):=rfl;constructor
 ·rw[zcn,zfQ];omega
 ·rw[zbO,zfQ];omega
theorem zro (h:zbi d<=67108864) (w:zaY d.ex):Small d:=by
 have z:zbi d=(d.rq.length+zD zbX d.rq)+(d.im.length+zD zcf d.im)+(d.ep.length+zD zcg d.ep)+(d.st.length+zD zcx d.st)+(d.ex.length+zD zcM d.ex):=rfl;refine⟨fun x q=>?_,fun x q=>?_,fun x q=>?_,fun x q=>?_,w,?_,?_,?_,?_,?_⟩
 ·have e:zbX x=x.size:=rfl;have:=zd0 (c:=zbX) q;omega
 ·have:=zd0 (c:=zcf) q;have e:zcf x=x.spec.size+x.first.size+x.loc.size:=rfl;omega
 ·have:=zd0 (c:=zcg) q;have e:zcg x=x.name.size+x.loc.size+x.spec.size:=rfl;omega
 ·have:=zd0 (c:=zcx) q;have e:zcx x=x.name.size:=rfl;omega
 all_goals omega
theorem zkQ (h:zbi d<=1048576) (q:zaY d.ex):Small d:=zro (Nat.le_trans h (by decide)) q
def zfc (ps:List BA) (i:Nat):Prop:=(ps.getD i sNone).toList.isEmpty=false/\((zaL (ps.getD i sNone)).toList==(ps.getD i sNone).toList)=true/\inL (ps.take i) (ps.getD i sNone)=false
def zch (ps:List BA) (i:Nat):Prop:=zaW (ps.getD i sNone)=true/\((zaL (ps.getD i sNone)).toList==(ps.getD i sNone).toList)=true/\inL (ps.take i) (ps.getD i sNone)=false
theorem zkR (q:List BA) (i:Nat):zfc q i↔zch q i:=by
 constructor
 ·rintro⟨w,h,z⟩;exact⟨zqe w h,h,z⟩
 ·rintro⟨w,h,z⟩;refine⟨?_,h,z⟩;have:=(zdX.1 w).1;generalize q.getD i sNone=p at this;cases A:p.toList with
  |nil=>
   rw[Lib.toList_data] at A;have e:p.data.toList.length=p.data.size:=Array.length_toList;rw[A] at e;have D:p.size=p.data.size:=rfl;rw[D,<-e] at this;exact absurd this (by decide)
  |cons=>rfl
def zE (g:Gr):List (List BA):=g.ms.map (·.rq)
def zda (ms:List Md):Prop:=∀m∈ms,MOk m/\zat m=0
def GrS (g:Gr):Prop:=(1<=g.ms.length/\g.ms.length<=8)/\g.ps.length=g.ms.length/\(∀i,i<g.ms.length->zfc g.ps i)/\zda g.ms/\zfJ (zE g) g.ls/\∀j,j<g.ms.length->(zaj g.ls g.ms.length (zaZ g.ms.length))[j]? =some true
def GrI (g:Gr):Prop:=(1<=g.ms.length/\g.ms.length<=8)/\g.ps.length=g.ms.length/\(∀i,i<g.ps.length->zch g.ps i)/\zda g.ms/\zbV (zE g) g.ls/\(dfs (zbW (zE g) g.ls) g.ms.length 0 (List.replicate g.ms.length false,[])).2.length=g.ms.length
theorem zgN (h:zda z.ms): ∀rq∈zE z,rq.Nodup:=by
 intro rq w;obtain⟨m,q,rfl⟩:=List.mem_map.1 w;exact (h m q).1.parts.nd
theorem zco:(zE w).length=w.ms.length:=length_map ..
theorem zrp:GrS w↔GrI w:=by
 constructor
 ·rintro⟨A,z,D,h,q,k⟩;have E:=(zkx (zgN h)).1 q;refine⟨A,z,fun i H=>(zkR _ _).1 (D i (by omega)),h,E,?_⟩;have:=(zk3 (zgN h) E (by rw[zco];omega)).1;rw[zco] at this;exact this k
 ·rintro⟨A,z,D,h,q,k⟩;refine⟨A,z,fun i H=>(zkR _ _).2 (D i (by omega)),h,(zkx (zgN h)).2 q,?_⟩;have:=(zk3 (zgN h) q (by rw[zco];omega)).2;rw[zco] at this;exact this k
def GdM (m:Md):Prop:=zbi m<=1048576/\zaY m.ex
structure GdG (g:Gr):Prop where
 ms: ∀m∈g.ms,GdM m
 ps: ∀p∈g.ps,p.size<=1048576
 pl:g.ps.length<=1048576
 ml:g.ms.length<=1048576
 ll:g.ls.length<=1048576
 rq:zas (zE g)<=1048576
def zfR (f:FuncId):Prop:=∀(base:Nat) (S:Sv) (m:Md) (w:World),OwnMd w base S m->GdM m->Calls prog f #[zl S m,.bool false] w fun e w'=>SameOut (MOk m) e/\Bw w w'
def zfS (f:FuncId):Prop:=∀(base:Nat) (S:Sv) (m:Md) (w:World),OwnMd w base S m->GdM m->MOk m->Calls prog f #[zl S m,.bool false] w fun e w'=>e= .returned (.int .i64 (zat m))/\Bw w w'
theorem SameOut.of {P:Prop} {e:Ending} (h:SameOut P e) {b:Bool} (w:b=true↔P):e= .returned (.bool b):=by
 obtain⟨c,rfl,q⟩:=h;have:c=b:=by
  cases c<;>cases b<;>simp_all
 rw[this]
theorem zij {q:List (List BA)} {rq:List BA} (h:q[g]? =some rq):zas (q.take (g+1))=zas (q.take g)+rq.length:=by
 obtain⟨w,rfl⟩:=List.getElem?_eq_some_iff.1 h;rw[List.take_succ_eq_append_getElem w,zas,zas,List.map_append,List.sum_append];simp
theorem zik (h:List (List BA)) (i:Nat):zas (h.take i)<=zas h:=by
 have:zas h=zas (h.take i)+zas (h.drop i):=by
  unfold zas;rw[<-List.sum_append,<-List.map_append,List.take_append_drop]
 omega
theorem OwnR.cap {size n:Nat} (h:OwnR W g C size S n q):n<=S.cap:=by
 rcases h.2 with ⟨m,E⟩|⟨k,A,z,m,_,_,D,_⟩
 ·omega
 ·simp only[Value.slice.injEq] at m;rw[m.2.2];exact D
theorem zed {q:World} {p:Regrown} (h:q=grow (redrawn W p.d) p.os):Bw W q:=by
 rw[h];exact below_regrown W p.d p.os
theorem zbz {P:Prop} (h: ¬P) (q:n= .returned (.bool false)):SameOut P n:=⟨false,q,by simp[h]⟩
theorem zil {P:Prop} (h:P) (q:n= .returned (.bool true)):SameOut P n:=⟨true,q,by simp[h]⟩
theorem zrq (ac: ∀(x y:Im) (W:World),Sem.run prog (binOp .neq 95 (.agg #[.string x.spec,.string x.first,.string x.loc]) (.agg #[.string y.spec,.string y.first,.string y.loc])) W= .ok (.bool (!zdu x y)) W) (ak: ∀(M:BinOp) (a b:Operand) (x y:Im) (W:World),Sem.run prog (eqGuard M 95 a b (.agg #[.string x.spec,.string x.first,.string x.loc]) (.agg #[.string y.spec,.string y.first,.string y.loc])) W= .ok () W) (ai: ∀(x y:Ep) (W:World),Sem.run prog (binOp .neq 97 (.agg #[.int .i64 x.kind,.string x.name,.string x.loc,.string x.spec]) (.agg #[.int .i64 y.kind,.string y.name,.string y.loc,.string y.spec])) W= .ok (.bool (!zdv x y)) W) (af: ∀(M:BinOp) (a b:Operand) (x y:Ep) (W:World),Sem.run prog (eqGuard M 97 a b (.agg #[.int .i64 x.kind,.string x.name,.string x.loc,.string x.spec]) (.agg #[.int .i64 y.kind,.string y.name,.string y.loc,.string y.spec])) W= .ok () W) (aj: ∀(x y:Sm) (W:World),Sem.run prog (binOp .neq 102 (.agg #[.int .i64 x.kind,.string x.name,.int .i64 x.expr]) (.agg #[.int .i64 y.kind,.string y.name,.int .i64 y.expr])) W= .ok (.bool (!zdw x y)) W) (ae: ∀(M:BinOp) (a b:Operand) (x y:Sm) (W:World),Sem.run prog (eqGuard M 102 a b (.agg #[.int .i64 x.kind,.string x.name,.int .i64 x.expr]) (.agg #[.int .i64 y.kind,.string y.name,.int .i64 y.expr])) W= .ok () W) (ah: ∀(x y:Ex) (W:World),Sem.run prog (binOp .neq 100 (.agg #[.int .i64 x.kind,.int .i64 x.num,.string x.name,.string x.field,.int .i64 x.l,.int .i64 x.r]) (.agg #[.int .i64 y.kind,.int .i64 y.num,.string y.name,.string y.field,.int .i64 y.l,.int .i64 y.r])) W= .ok (.bool (!zdx x y)) W) (ad: ∀(M:BinOp) (a b:Operand) (x y:Ex) (W:World),Sem.run prog (eqGuard M 100 a b (.agg #[.int .i64 x.kind,.int .i64 x.num,.string x.name,.string x.field,.int .i64 x.l,.int .i64 x.r]) (.agg #[.int .i64 y.kind,.int .i64 y.num,.string y.name,.string y.field,.int .i64 y.l,.int .i64 y.r])) W= .ok () W) (b1 b2:Nat) (S1 S2:Sv) (q E:Md) (w:World) (K:OwnMd w b1 S1 q) (J:OwnMd w b2 S2 E) (hf:zdT q):
  Calls prog 56 #[zl S1 q,zl S2 E] w fun e w'=>SameOut (q=E) e/\Bw w w':=by
 have H1:=zc K;have H2:=zc J;obtain⟨f1,f2,f3,f4,f5⟩:=hf;clear K J;unfold zl;go_enter func56,ntmps56;go_upto_region 1 with fail;refine zu (R:=TwoM w b1 b2 S1 S2 q E) (zhQ w b1 b2 S1 S2 q E H1.o H2.o) ?_;clear H1 H2;intro w0 h;have T:=zc h;clear h;obtain⟨c0,c1,Z,c3,c4,cf⟩:=zj T.o.1;obtain⟨d0,d1,Y,d3,d4,df⟩:=zj T.o.2.1;by_cases q0:(q.rq.length:Int)=(E.rq.length:Int)
 case neg=>
  go_wp2;go_ret;exact⟨⟨false,rfl,⟨fun k=>(by cases k),fun k=>absurd (by rw[k]) q0⟩⟩,T.o.2.2.2.2⟩
 by_cases q1:(q.im.length:Int)=(E.im.length:Int)
 case neg=>
  go_wp2;go_ret;exact⟨⟨false,rfl,⟨fun k=>(by cases k),fun k=>absurd (by rw[k]) q1⟩⟩,T.o.2.2.2.2⟩
 by_cases q2:(q.ep.length:Int)=(E.ep.length:Int)
 case neg=>
  go_wp2;go_ret;exact⟨⟨false,rfl,⟨fun k=>(by cases k),fun k=>absurd (by rw[k]) q2⟩⟩,T.o.2.2.2.2⟩
 by_cases q3:(q.st.length:Int)=(E.st.length:Int)
 case neg=>
  go_wp2;go_ret;exact⟨⟨false,rfl,⟨fun k=>(by cases k),fun k=>absurd (by rw[k]) q3⟩⟩,T.o.2.2.2.2⟩
 by_cases q4:(q.ex.length:Int)=(E.ex.length:Int)
 case neg=>
  go_wp2;go_ret;exact⟨⟨false,rfl,⟨fun k=>(by cases k),fun k=>absurd (by rw[k]) q4⟩⟩,T.o.2.2.2.2⟩
 go_wp2;go_loopg [5] q.rq.length (fun k i wr=>∃j:Nat,i= .int .i64 j/\j+k=q.rq.length/\q.rq.take j=E.rq.take j/\TwoM w b1 b2 S1 S2 q E wr)
 case atStart=>exact⟨0,rfl,by omega,rfl,T.o⟩
 case round=>
  obtain⟨j,rfl,hj,ht,hT⟩:=hrel;clear T c0 c1 Z c3 c4 cf d0 d1 Y d3 d4 df;have T:=zc hT;have X:=zc ht;clear hT ht;obtain⟨c0,c1,Z,c3,c4,cf⟩:=zj T.o.1;obtain⟨d0,d1,Y,d3,d4,df⟩:=zj T.o.2.1;by_cases H:j<q.rq.length
  ·have D:(j:Int)<(q.rq.length:Int):=by omega
   have aa:(j:Int)<(E.rq.length:Int):=by omega
   obtain⟨x,N⟩:=zbw H;obtain⟨y,U⟩:=zbw (show j<E.rq.length by omega);obtain⟨g1,ga,K⟩:=OwnR.elem (f:=(fun x=>[Value.string x])) (m:=1) (fun _=>rfl) (show OwnR wr b1 9 1 S1.rq q.rq.length (q.rq.flatMap (fun x=>[Value.string x])) by rw[<-zeX];exact T.o.2.2.1.rq) N;obtain⟨g2,gb,J⟩:=OwnR.elem (f:=(fun x=>[Value.string x])) (m:=1) (fun _=>rfl) (show OwnR wr b2 9 1 S2.rq E.rq.length (E.rq.flatMap (fun x=>[Value.string x])) by rw[<-zeX];exact T.o.2.2.2.1.rq) U;rw[ga] at c0;rw[gb] at d0;have C0:=zc (K 0 (by omega));have D0:=zc (J 0 (by omega));have HX:=zc N;have HY:=zc U;clear K J ga gb N U;obtain⟨L,I⟩: ∃L,L=j+1:=⟨_,rfl⟩;have ej:(j:Int)+1=(L:Int):=by omega
   have HJ:=zc I;clear I;obtain⟨b,z⟩: ∃b,zhP x y=b:=⟨_,rfl⟩;have al:(x.toList==y.toList)=b:=z;go_wp2;have kc:=cell_regrown c0;have kd:=cell_regrown d0;have k0:=cell_regrown C0.o;have v0:=cell_regrown D0.o;simp only[add_zero,Nat.mul_one] at k0 v0;refine wp_region_quiet_below (by kernel_rfl) (by kernel_rfl) ?_
   repeat (go_big_quiet_step (fail))
   refine wpQuiet_nil ?_;intro w2 O;obtain⟨⟨dq,V⟩,A⟩:=O;have T2:Hid (TwoM w b1 b2 S1 S2 q E w2):=by show TwoM _ _ _ _ _ _ _ _;rw[A];exact T.o.later (below_regrown wr dq V)
   clear A kc kd c0 c1 Z c3 c4 cf d0 d1 Y d3 d4 df k0 v0 C0 D0;cases b with
   |true=>
    go_wp2;go_roundg (gk-1)
    case rel=>exact⟨L,rfl,by have:=HJ.o;omega,by rw[HJ.o];have e:=zg4.1 z;exact zds X.o HX.o (by rw[e];exact HY.o),T2.o⟩
    case measure=>omega
   |false=>
    go_wp2;go_ret;exact⟨⟨false,rfl,⟨fun k=>(by cases k),fun k=>(by have e:=HX.o;rw[k,HY.o] at e;cases e;rw[zg4.2 rfl] at z;cases z)⟩⟩,T2.o.2.2.2.2⟩
  ·have D: ¬(j:Int)<(q.rq.length:Int):=by omega
   obtain rfl:j=q.rq.length:=by omega
   have A0:=zc (zdt (by omega) X.o);clear X D H hj;go_wp2;go_loopg [6] q.im.length (fun k i wr=>∃j:Nat,i= .int .i64 j/\j+k=q.im.length/\q.im.take j=E.im.take j/\TwoM w b1 b2 S1 S2 q E wr)
   case atStart=>exact⟨0,rfl,by omega,rfl,T.o⟩
   case round=>
    obtain⟨j,rfl,hj,ht,hT⟩:=hrel;clear T c0 c1 Z c3 c4 cf d0 d1 Y d3 d4 df;have T:=zc hT;have X:=zc ht;clear hT ht;obtain⟨c0,c1,Z,c3,c4,cf⟩:=zj T.o.1;obtain⟨d0,d1,Y,d3,d4,df⟩:=zj T.o.2.1;by_cases H:j<q.im.length
    ·have D:(j:Int)<(q.im.length:Int):=by omega
     have aa:(j:Int)<(E.im.length:Int):=by omega
     obtain⟨x,N⟩:=zbw H;obtain⟨y,U⟩:=zbw (show j<E.im.length by omega);obtain⟨g1,ga,K⟩:=OwnR.elem (f:=imL) (m:=3) (fun _=>rfl) T.o.2.2.1.im N;obtain⟨g2,gb,J⟩:=OwnR.elem (f:=imL) (m:=3) (fun _=>rfl) T.o.2.2.2.1.im U;rw[ga] at c1;rw[gb] at d1;have C0:=zc (K 0 (by omega));have D0:=zc (J 0 (by omega));have C1:=zc (K 1 (by omega));have D1:=zc (J 1 (by omega));have C2:=zc (K 2 (by omega));have D2:=zc (J 2 (by omega));have HX:=zc N;have HY:=zc U;clear K J ga gb N U;obtain⟨L,I⟩: ∃L,L=j+1:=⟨_,rfl⟩;have ej:(j:Int)+1=(L:Int):=by omega
     have HJ:=zc I;clear I;obtain⟨b,z⟩: ∃b,zdu x y=b:=⟨_,rfl⟩;have ab: ∀W:World,Sem.run prog (binOp .neq 95 (.agg #[.string x.spec,.string x.first,.string x.loc]) (.agg #[.string y.spec,.string y.first,.string y.loc])) W= .ok (.bool !b) W:=fun W=>by rw[ac,z]
     have ag: ∀(M:BinOp) (a b:Operand) (W:World),Sem.run prog (eqGuard M 95 a b (.agg #[.string x.spec,.string x.first,.string x.loc]) (.agg #[.string y.spec,.string y.first,.string y.loc])) W= .ok () W:=fun M a b W=>ak M a b x y W;go_wp2;have kc:=cell_regrown c1;have kd:=cell_regrown d1;have k0:=cell_regrown C0.o;have v0:=cell_regrown D0.o;have k1:=cell_regrown C1.o;have v1:=cell_regrown D1.o;have k2:=cell_regrown C2.o;have v2:=cell_regrown D2.o;simp only[add_zero] at k0 v0;refine wp_region_quiet_below (by kernel_rfl) (by kernel_rfl) ?_
     repeat (go_big_quiet_step (fail))
     refine wpQuiet_nil ?_;intro w2 O;obtain⟨⟨dq,V⟩,A⟩:=O;have T2:Hid (TwoM w b1 b2 S1 S2 q E w2):=by show TwoM _ _ _ _ _ _ _ _;rw[A];exact T.o.later (below_regrown wr dq V)
     clear A kc kd c0 c1 Z c3 c4 cf d0 d1 Y d3 d4 df k0 v0 C0 D0 k1 v1 C1 D1 k2 v2 C2 D2;cases b with
     |true=>
      go_wp2;go_roundg (gk-1)
      case rel=>exact⟨L,rfl,by have:=HJ.o;omega,by rw[HJ.o];have e:=zg5.1 z;exact zds X.o HX.o (by rw[e];exact HY.o),T2.o⟩
      case measure=>omega
     |false=>
      go_wp2;go_ret;exact⟨⟨false,rfl,⟨fun k=>(by cases k),fun k=>(by have e:=HX.o;rw[k,HY.o] at e;cases e;rw[zg5.2 rfl] at z;cases z)⟩⟩,T2.o.2.2.2.2⟩
    ·have D: ¬(j:Int)<(q.im.length:Int):=by omega
     obtain rfl:j=q.im.length:=by omega
     have A1:=zc (zdt (by omega) X.o);clear X D H hj;go_wp2;go_loopg [7] q.ep.length (fun k i wr=>∃j:Nat,i= .int .i64 j/\j+k=q.ep.length/\q.ep.take j=E.ep.take j/\TwoM w b1 b2 S1 S2 q E wr)
     case atStart=>exact⟨0,rfl,by omega,rfl,T.o⟩
     case round=>
      obtain⟨j,rfl,hj,ht,hT⟩:=hrel;clear T c0 c1 Z c3 c4 cf d0 d1 Y d3 d4 df;have T:=zc hT;have X:=zc ht;clear hT ht;obtain⟨c0,c1,Z,c3,c4,cf⟩:=zj T.o.1;obtain⟨d0,d1,Y,d3,d4,df⟩:=zj T.o.2.1;by_cases H:j<q.ep.length
      ·have D:(j:Int)<(q.ep.length:Int):=by omega
       have aa:(j:Int)<(E.ep.length:Int):=by omega
       obtain⟨x,N⟩:=zbw H;obtain⟨y,U⟩:=zbw (show j<E.ep.length by omega);obtain⟨g1,ga,K⟩:=OwnR.elem (f:=epL) (m:=4) (fun _=>rfl) T.o.2.2.1.ep N;obtain⟨g2,gb,J⟩:=OwnR.elem (f:=epL) (m:=4) (fun _=>rfl) T.o.2.2.2.1.ep U;rw[ga] at Z;rw[gb] at Y;have C0:=zc (K 0 (by omega));have D0:=zc (J 0 (by omega));have C1:=zc (K 1 (by omega));have D1:=zc (J 1 (by omega));have C2:=zc (K 2 (by omega));have D2:=zc (J 2 (by omega));have C3:=zc (K 3 (by omega));have D3:=zc (J 3 (by omega));have HX:=zc N;have HY:=zc U;clear K J ga gb N U;obtain⟨L,I⟩: ∃L,L=j+1:=⟨_,rfl⟩;have ej:(j:Int)+1=(L:Int):=by omega
       have HJ:=zc I;clear I;obtain⟨b,z⟩: ∃b,zdv x y=b:=⟨_,rfl⟩;have ab: ∀W:World,Sem.run prog (binOp .neq 97 (.agg #[.int .i64 x.kind,.string x.name,.string x.loc,.string x.spec]) (.agg #[.int .i64 y.kind,.string y.name,.string y.loc,.string y.spec])) W= .ok (.bool !b) W:=fun W=>by rw[ai,z]
       have ag: ∀(M:BinOp) (a b:Operand) (W:World),Sem.run prog (eqGuard M 97 a b (.agg #[.int .i64 x.kind,.string x.name,.string x.loc,.string x.spec]) (.agg #[.int .i64 y.kind,.string y.name,.string y.loc,.string y.spec])) W= .ok () W:=fun M a b W=>af M a b x y W;go_wp2;have kc:=cell_regrown Z;have kd:=cell_regrown Y;have k0:=cell_regrown C0.o;have v0:=cell_regrown D0.o;have k1:=cell_regrown C1.o;have v1:=cell_regrown D1.o;have k2:=cell_regrown C2.o;have v2:=cell_regrown D2.o;have k3:=cell_regrown C3.o;have v3:=cell_regrown D3.o;simp only[add_zero] at k0 v0;refine wp_region_quiet_below (by kernel_rfl) (by kernel_rfl) ?_
       repeat (go_big_quiet_step (fail))
       refine wpQuiet_nil ?_;intro w2 O;obtain⟨⟨dq,V⟩,A⟩:=O;have T2:Hid (TwoM w b1 b2 S1 S2 q E w2):=by show TwoM _ _ _ _ _ _ _ _;rw[A];exact T.o.later (below_regrown wr dq V)
       clear A kc kd c0 c1 Z c3 c4 cf d0 d1 Y d3 d4 df k0 v0 C0 D0 k1 v1 C1 D1 k2 v2 C2 D2 k3 v3 C3 D3;cases b with
       |true=>
        go_wp2;go_roundg (gk-1)
        case rel=>exact⟨L,rfl,by have:=HJ.o;omega,by rw[HJ.o];have e:=zg6.1 z;exact zds X.o HX.o (by rw[e];exact HY.o),T2.o⟩
        case measure=>omega
       |false=>
        go_wp2;go_ret;exact⟨⟨false,rfl,⟨fun k=>(by cases k),fun k=>(by have e:=HX.o;rw[k,HY.o] at e;cases e;rw[zg6.2 rfl] at z;cases z)⟩⟩,T2.o.2.2.2.2⟩
      ·have D: ¬(j:Int)<(q.ep.length:Int):=by omega
       obtain rfl:j=q.ep.length:=by omega
       have A2:=zc (zdt (by omega) X.o);clear X D H hj;go_wp2;go_loopg [8] q.st.length (fun k i wr=>∃j:Nat,i= .int .i64 j/\j+k=q.st.length/\q.st.take j=E.st.take j/\TwoM w b1 b2 S1 S2 q E wr)
       case atStart=>exact⟨0,rfl,by omega,rfl,T.o⟩
       case round=>
        obtain⟨j,rfl,hj,ht,hT⟩:=hrel;clear T c0 c1 Z c3 c4 cf d0 d1 Y d3 d4 df;have T:=zc hT;have X:=zc ht;clear hT ht;obtain⟨c0,c1,Z,c3,c4,cf⟩:=zj T.o.1;obtain⟨d0,d1,Y,d3,d4,df⟩:=zj T.o.2.1;by_cases H:j<q.st.length
        ·have D:(j:Int)<(q.st.length:Int):=by omega
         have aa:(j:Int)<(E.st.length:Int):=by omega
         obtain⟨x,N⟩:=zbw H;obtain⟨y,U⟩:=zbw (show j<E.st.length by omega);obtain⟨g1,ga,K⟩:=OwnR.elem (f:=smL) (m:=3) (fun _=>rfl) T.o.2.2.1.st N;obtain⟨g2,gb,J⟩:=OwnR.elem (f:=smL) (m:=3) (fun _=>rfl) T.o.2.2.2.1.st U;rw[ga] at c3;rw[gb] at d3;have C0:=zc (K 0 (by omega));have D0:=zc (J 0 (by omega));have C1:=zc (K 1 (by omega));have D1:=zc (J 1 (by omega));have C2:=zc (K 2 (by omega));have D2:=zc (J 2 (by omega));have HX:=zc N;have HY:=zc U;clear K J ga gb N U;obtain⟨L,I⟩: ∃L,L=j+1:=⟨_,rfl⟩;have ej:(j:Int)+1=(L:Int):=by omega
         have HJ:=zc I;clear I;obtain⟨b,z⟩: ∃b,zdw x y=b:=⟨_,rfl⟩;have ab: ∀W:World,Sem.run prog (binOp .neq 102 (.agg #[.int .i64 x.kind,.string x.name,.int .i64 x.expr]) (.agg #[.int .i64 y.kind,.string y.name,.int .i64 y.expr])) W= .ok (.bool !b) W:=fun W=>by rw[aj,z]
         have ag: ∀(M:BinOp) (a b:Operand) (W:World),Sem.run prog (eqGuard M 102 a b (.agg #[.int .i64 x.kind,.string x.name,.int .i64 x.expr]) (.agg #[.int .i64 y.kind,.string y.name,.int .i64 y.expr])) W= .ok () W:=fun M a b W=>ae M a b x y W;go_wp2;have kc:=cell_regrown c3;have kd:=cell_regrown d3;have k0:=cell_regrown C0.o;have v0:=cell_regrown D0.o;have k1:=cell_regrown C1.o;have v1:=cell_regrown D1.o;have k2:=cell_regrown C2.o;have v2:=cell_regrown D2.o;simp only[add_zero] at k0 v0;refine wp_region_quiet_below (by kernel_rfl) (by kernel_rfl) ?_
         repeat (go_big_quiet_step (fail))
         refine wpQuiet_nil ?_;intro w2 O;obtain⟨⟨dq,V⟩,A⟩:=O;have T2:Hid (TwoM w b1 b2 S1 S2 q E w2):=by show TwoM _ _ _ _ _ _ _ _;rw[A];exact T.o.later (below_regrown wr dq V)
         clear A kc kd c0 c1 Z c3 c4 cf d0 d1 Y d3 d4 df k0 v0 C0 D0 k1 v1 C1 D1 k2 v2 C2 D2;cases b with
         |true=>
          go_wp2;go_roundg (gk-1)
          case rel=>exact⟨L,rfl,by have:=HJ.o;omega,by rw[HJ.o];have e:=zg7.1 z;exact zds X.o HX.o (by rw[e];exact HY.o),T2.o⟩
          case measure=>omega
         |false=>
          go_wp2;go_ret;exact⟨⟨false,rfl,⟨fun k=>(by cases k),fun k=>(by have e:=HX.o;rw[k,HY.o] at e;cases e;rw[zg7.2 rfl] at z;cases z)⟩⟩,T2.o.2.2.2.2⟩
        ·have D: ¬(j:Int)<(q.st.length:Int):=by omega
         obtain rfl:j=q.st.length:=by omega
         have A3:=zc (zdt (by omega) X.o);clear X D H hj;go_wp2;go_loopg [9] q.ex.length (fun k i wr=>∃j:Nat,i= .int .i64 j/\j+k=q.ex.length/\q.ex.take j=E.ex.take j/\TwoM w b1 b2 S1 S2 q E wr)
         case atStart=>exact⟨0,rfl,by omega,rfl,T.o⟩
         case round=>
          obtain⟨j,rfl,hj,ht,hT⟩:=hrel;clear T c0 c1 Z c3 c4 cf d0 d1 Y d3 d4 df;have T:=zc hT;have X:=zc ht;clear hT ht;obtain⟨c0,c1,Z,c3,c4,cf⟩:=zj T.o.1;obtain⟨d0,d1,Y,d3,d4,df⟩:=zj T.o.2.1;by_cases H:j<q.ex.length
          ·have D:(j:Int)<(q.ex.length:Int):=by omega
           have aa:(j:Int)<(E.ex.length:Int):=by omega
           obtain⟨x,N⟩:=zbw H;obtain⟨y,U⟩:=zbw (show j<E.ex.length by omega);obtain⟨g1,ga,K⟩:=OwnR.elem (f:=exL) (m:=6) (fun _=>rfl) T.o.2.2.1.ex N;obtain⟨g2,gb,J⟩:=OwnR.elem (f:=exL) (m:=6) (fun _=>rfl) T.o.2.2.2.1.ex U;rw[ga] at c4;rw[gb] at d4;have C0:=zc (K 0 (by omega));have D0:=zc (J 0 (by omega));have C1:=zc (K 1 (by omega));have D1:=zc (J 1 (by omega));have C2:=zc (K 2 (by omega));have D2:=zc (J 2 (by omega));have C3:=zc (K 3 (by omega));have D3:=zc (J 3 (by omega));have C4:=zc (K 4 (by omega));have D4:=zc (J 4 (by omega));have C5:=zc (K 5 (by omega));have D5:=zc (J 5 (by omega));have HX:=zc N;have HY:=zc U;clear K J ga gb N U;obtain⟨L,I⟩: ∃L,L=j+1:=⟨_,rfl⟩;have ej:(j:Int)+1=(L:Int):=by omega
           have HJ:=zc I;clear I;obtain⟨b,z⟩: ∃b,zdx x y=b:=⟨_,rfl⟩;have ab: ∀W:World,Sem.run prog (binOp .neq 100 (.agg #[.int .i64 x.kind,.int .i64 x.num,.string x.name,.string x.field,.int .i64 x.l,.int .i64 x.r]) (.agg #[.int .i64 y.kind,.int .i64 y.num,.string y.name,.string y.field,.int .i64 y.l,.int .i64 y.r])) W= .ok (.bool !b) W:=fun W=>by rw[ah,z]
           have ag: ∀(M:BinOp) (a b:Operand) (W:World),Sem.run prog (eqGuard M 100 a b (.agg #[.int .i64 x.kind,.int .i64 x.num,.string x.name,.string x.field,.int .i64 x.l,.int .i64 x.r]) (.agg #[.int .i64 y.kind,.int .i64 y.num,.string y.name,.string y.field,.int .i64 y.l,.int .i64 y.r])) W= .ok () W:=fun M a b W=>ad M a b x y W;go_wp2;have kc:=cell_regrown c4;have kd:=cell_regrown d4;have k0:=cell_regrown C0.o;have v0:=cell_regrown D0.o;have k1:=cell_regrown C1.o;have v1:=cell_regrown D1.o;have k2:=cell_regrown C2.o;have v2:=cell_regrown D2.o;have k3:=cell_regrown C3.o;have v3:=cell_regrown D3.o;have k4:=cell_regrown C4.o;have v4:=cell_regrown D4.o;have k5:=cell_regrown C5.o;have v5:=cell_regrown D5.o;simp only[add_zero] at k0 v0;refine wp_region_quiet_below (by kernel_rfl) (by kernel_rfl) ?_
           repeat (go_big_quiet_step (fail))
           refine wpQuiet_nil ?_;intro w2 O;obtain⟨⟨dq,V⟩,A⟩:=O;have T2:Hid (TwoM w b1 b2 S1 S2 q E w2):=by show TwoM _ _ _ _ _ _ _ _;rw[A];exact T.o.later (below_regrown wr dq V)
           clear A kc kd c0 c1 Z c3 c4 cf d0 d1 Y d3 d4 df k0 v0 C0 D0 k1 v1 C1 D1 k2 v2 C2 D2 k3 v3 C3 D3 k4 v4 C4 D4 k5 v5 C5 D5;cases b with
           |true=>
            go_wp2;go_roundg (gk-1)
            case rel=>exact⟨L,rfl,by have:=HJ.o;omega,by rw[HJ.o];have e:=zg8.1 z;exact zds X.o HX.o (by rw[e];exact HY.o),T2.o⟩
            case measure=>omega
           |false=>
            go_wp2;go_ret;exact⟨⟨false,rfl,⟨fun k=>(by cases k),fun k=>(by have e:=HX.o;rw[k,HY.o] at e;cases e;rw[zg8.2 rfl] at z;cases z)⟩⟩,T2.o.2.2.2.2⟩
          ·have D: ¬(j:Int)<(q.ex.length:Int):=by omega
           obtain rfl:j=q.ex.length:=by omega
           have A4:=zc (zdt (by omega) X.o);clear X D H hj;go_wp2;go_ret;exact⟨⟨true,rfl,⟨fun _=>zke A0.o A1.o A2.o A3.o A4.o,fun _=>rfl⟩⟩,T.o.2.2.2.2⟩
end Go.Proofs.YtgcbmogmniahjaaGreat
