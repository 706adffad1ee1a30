/- Facts. -/
import Derived.Test.YtegdaafmaookjaaGreatP27
import Derived.Test.YtegdaafmaookjaaGreatP28
namespace Go.Proofs.YtegdaafmaookjaaGreat
open Go.Proofs.Tryz
set_option maxHeartbeats 6400000
set_option maxRecDepth 100000
open Go.RowKit Go.PlainAid Go.Sort Go.Deep
def lkL (l:Lk):List Value:=[.int .i64 l.frm,.string l.spec,.int .i64 l.to]
def zeb (x:Lk):Nat:=x.spec.size
def zeS (x:Lk):Prop:=x.spec.size<=9223372036854775807
variable (g b:Nat) (w:Option Addr) (c:Nat) (W:Lk) (C:Option Addr) (d:Nat) (S q:Rw) (n:Nat) (z:List Lk) (V:World) {s:World} {k:Nat} {m:List Value} {x:TypeId} {p:Rw} {t:Value}
theorem zs6 (left:Int) (w:World) (q:zeS W) (H:0<=left) (A:left<=1048576):
  Calls prog 66 #[.agg #[.int .i64 W.frm,.string W.spec,.int .i64 W.to],.int .i64 left] w fun e w'=>zc6 left (zeb W) e/\Bw w w':=by
 unfold zeS at q;go_enter func66,ntmps66;go_wp2
 ·go_ret;exact⟨⟨-1,rfl,by omega,by omega,fun h=>by omega⟩,bA0⟩
 ·go_ret;exact⟨⟨_,rfl,by omega,by omega,fun _=>by unfold zeb;omega⟩,bA0⟩
theorem zs7 (left:Int) (B:World) (hr:RowAt B w lkL 3 z) (hl:z.length<=9223372036854775807) (H: ∀x∈z,zeS x) (h0:0<=left) (h1:left<=1048576):
  Calls prog 36 #[.slice w z.length c,.int .i64 left] B fun e w'=>zc6 left (z.length+zE zeb z) e/\Bw B w':=by
 have HR:=zc hr;have HG:=zc H;clear hr H;by_cases ad:(z.length:Int)<=left
 case neg=>
  go_enter func36,ntmps36;go_wp2;go_ret;exact⟨⟨-1,rfl,by omega,by omega,fun h=>by omega⟩,Below.refl _ _⟩
 go_enter func36,ntmps36;go_wp2;go_loopg [1,5] z.length (fun k s1 s5 wr=>∃(j:Nat) (D:Int),s5= .int .i64 j/\s1= .int .i64 D/\j+k=z.length/\0<=D/\D<=left/\D+((z.length+zE zeb (z.take j):Nat):Int)=left/\Bw B wr)
 case atStart=>exact⟨0,_,rfl,rfl,by omega,by omega,by omega,by simp[zE],Below.refl _ _⟩
 case round=>
  obtain⟨j,D,rfl,rfl,hj,Z,ab,K,H⟩:=hrel;have HZ:=zc K;have U:=zc H;clear K H;by_cases Y:j<z.length
  ·have N:(j:Int)<(z.length:Int):=by omega
   obtain⟨x,V⟩: ∃x,z[j]? =some x:=⟨_,gE Y⟩;obtain⟨b,af,rfl,X⟩:=(HR.o.later U.o).get V;have q:=HG.o x (mG V);have HC:=zc (zeM zeb V);have c0:=X 0 _ rfl;have c1:=X 1 _ rfl;have c2:=X 2 _ rfl;simp only[Nat.add_zero] at c0;clear X V;obtain⟨O,A⟩: ∃O,O=j+1:=⟨_,rfl⟩;have ej:(j:Int)+1=(O:Int):=by omega
   have HJ:=zc A;clear A;go_wp2_with fail;refine (zs6 x D _ q Z (by omega)).mono ?_;rintro e w1 ⟨⟨z1,rfl,ag,ae,J⟩,M⟩;have L:=zc (U.o.trans (M.mono U.o.size));have ac:=zc J;clear M J q c0 c1 c2;by_cases I:0<=z1
   ·go_wp2;go_roundg (gk-1)
    case rel=>exact⟨O,z1,rfl,rfl,by have:=HJ.o;omega,I,by omega,by have:=HZ.o;have:=ac.o I;rw[HJ.o,HC.o];omega,L.o⟩
    case measure=>omega
   ·go_wp2;go_ret;exact⟨⟨-1,rfl,by omega,by omega,fun h=>by omega⟩,L.o⟩
  ·have N: ¬(j:Int)<(z.length:Int):=by omega
   obtain rfl:j=z.length:=by omega
   go_wp2;go_ret;exact⟨⟨D,rfl,by omega,ab,fun _=>by have:=HZ.o;rw[List.take_length] at this;exact this⟩,U.o⟩
theorem Tryz.infoTLk:(prog.info? 62).map (fun i=>(i.zero,i.size,i.bytes))=some (some (.agg #[.int .i64 0,.string {data:=#[]},.int .i64 0]),3,32):=by kernel_rfl
theorem zs8:
  Calls prog 75 #[.agg #[.int .i64 W.frm,.string W.spec,.int .i64 W.to]] V fun e w'=>e= .returned (.agg #[.int .i64 W.frm,.string W.spec,.int .i64 W.to])/\Bw V w':=by
 go_enter func75,ntmps75;go_wp2;refine bodyPost_ret (results_cell_row rfl _ _ (V.heap.size+1) 62 #[.int .i64 W.frm,.string W.spec,.int .i64 W.to] (0,0) _ rfl ?_ underlying62 rfl (by kernel_rfl)) rfl ?_
 ·rw[heap_alloc_old _ _ (by show _<((V.heap.push _).push _).size;simp)];exact heap_alloc2_new V _ _
 ·exact⟨rfl,((bA0).alloc (by show _<=(V.heap.push _).size;simp) _).alloc (by show _<=((V.heap.push _).push _).size;simp;omega) _⟩
theorem zs9 (B:World) (hr:RowAt B w lkL 3 z) (hl:z.length<=1048576):
  Calls prog 45 #[.slice w z.length c] B fun e w'=>zf0 B 62 3 z.length (z.flatMap lkL) e w':=by
 have HR:=zc hr;clear hr;obtain⟨i0,hi,Z,ab,ac⟩:=info_parts Tryz.infoTLk;go_enter func45,ntmps45;go_wp2_with (first|(at_make;refine wpList_make_full B rfl _ _ 30 rfl B.heap.size 62 i0 _ 3 underlying30 hi Z ab .i64 .i64 _ _ z.length (by rfl) (by rfl) rfl rfl (by rw[ac];omega) (by unfold maxLen;omega) (Nat.le_refl _) ?_));intro X A H;have ae:=zc ((Below.refl _ _).grown H (Nat.le_refl _) (fun k h=>by cases h):Bw B X);have J:Hid (OwnC X B.heap.size 62 3 B.heap.size z.length (z.flatMap lkL) 0):=⟨_,A,fun j hj=>absurd hj (Nat.not_lt_zero j)⟩;clear A H;obtain⟨g,M⟩: ∃g,g=B.heap.size:=⟨_,rfl⟩;have ad:=zc M;rw[<-M];rw[<-M] at J;have af:Hid (OwnC X B.heap.size 62 3 g z.length (z.flatMap lkL) 0):=by rw[<-M];exact J.o
 clear M J;go_wp2;go_loopg [4] z.length (fun k i wr=>∃j:Nat,i= .int .i64 j/\j+k=z.length/\OwnC wr B.heap.size 62 3 g z.length (z.flatMap lkL) (j*3)/\Bw B wr)
 case atStart=>exact⟨0,rfl,by omega,af.o,ae.o⟩
 case round=>
  obtain⟨j,rfl,hj,ho,hb⟩:=hrel;have HO:=zc ho;have U:=zc hb;clear ho hb;by_cases Y:j<z.length
  ·have N:(j:Int)<(z.length:Int):=by omega
   obtain⟨x,hx⟩: ∃x,z[j]? =some x:=⟨_,gE Y⟩;obtain⟨b,ah,rfl,V⟩:=(HR.o.later U.o).get hx;have HX:=zc hx;clear hx;have c0:=V 0 _ rfl;have c1:=V 1 _ rfl;have c2:=V 2 _ rfl;simp only[Nat.add_zero] at c0;clear V;obtain⟨O,L⟩: ∃O,O=j+1:=⟨_,rfl⟩;have ej:(j:Int)+1=(O:Int):=by omega
   have HJ:=zc L;clear L;go_wp2_with fail;refine (zs8 x _).mono ?_;rintro e w2 ⟨rfl,K⟩;have q:=zc (HO.o.later K);have ag:=zc (U.o.trans (K.mono U.o.size));clear K c0 c1 c2;obtain⟨v0,g0⟩:=q.o.has (j*3) (by omega);have f0:=q.o.free (j*3);obtain⟨v1,g1⟩:=q.o.has (j*3+1) (by omega);have f1:=q.o.free (j*3+1);obtain⟨v2,g2⟩:=q.o.has (j*3+2) (by omega);have f2:=q.o.free (j*3+2);have HN:=zc (((q.o.put (by omega) (zbx (f:=lkL) (m:=3) (fun _=>rfl) z j x 0 _ HX.o rfl)).put (by omega) (zbx (f:=lkL) (m:=3) (fun _=>rfl) z j x 1 _ HX.o rfl)).put (by omega) (zbx (f:=lkL) (m:=3) (fun _=>rfl) z j x 2 _ HX.o rfl));have I:B.heap.size<=g:=by have:=ad.o;omega
   go_wp2;go_roundg (gk-1)
   case rel=>exact⟨O,rfl,by have:=HJ.o;omega,by rw[HJ.o,Nat.succ_mul];exact HN.o,(((ag.o.setCell I _).setCell I _).setCell I _)⟩
   case measure=>omega
  ·have N: ¬(j:Int)<(z.length:Int):=by omega
   obtain rfl:j=z.length:=by omega
   go_wp2;go_ret;exact⟨g,rfl,HO.o.all (zev (f:=lkL) (fun _=>rfl) z),U.o⟩
theorem zsA:Calls prog 83 #[.agg #[.int .i64 W.frm,.string W.spec,.int .i64 W.to],.agg #[.int .i64 W.frm,.string W.spec,.int .i64 W.to]] V fun e w'=>e= .returned (.bool true)/\Bw V w':=by
 go_enter func83,ntmps83;go_wp2;go_ret;exact⟨rfl,(bA0).alloc (by show _<=(V.heap.push _).size;simp) _⟩
theorem zsB (B:World):Calls prog 52 #[.slice w 0 d,.slice C 0 n] B fun e w'=>e= .returned (.bool true)/\Bw B w':=by
 go_enter func52,ntmps52;go_wp2;go_loopg [5] 1 (fun k i wr=>k=1/\i= .int .i64 0/\wr=B)
 case atStart=>exact⟨rfl,rfl,rfl⟩
 case round=>
  obtain⟨rfl,rfl,rfl⟩:=hrel;go_wp2;go_ret;exact⟨rfl,Below.refl _ _⟩
theorem zsC (A:OwnR V g 62 3 S z.length (z.flatMap lkL)) (E:OwnR V b 62 3 q z.length (z.flatMap lkL)) (e1:S.a=some ⟨c,0,none⟩) (e2:q.a=some ⟨d,0,none⟩) (hl:z.length<=4294967296):
  Calls prog 52 #[.slice (some ⟨c,0,none⟩) z.length S.cap,.slice (some ⟨d,0,none⟩) z.length q.cap] V fun e w'=>e= .returned (.bool true)/\Bw V w':=by
 have H1:=zc A;have H2:=zc E;have E1:=zc e1;have E2:=zc e2;clear A E e1 e2;go_enter func52,ntmps52;go_wp2;go_loopg [5] z.length (fun k i wr=>∃j:Nat,i= .int .i64 j/\j+k=z.length/\Bw V wr)
 case atStart=>exact⟨0,rfl,by omega,Below.refl _ _⟩
 case round=>
  obtain⟨j,rfl,hj,hb⟩:=hrel;have I:=zc hb;clear hb;by_cases M:j<z.length
  ·have J:(j:Int)<(z.length:Int):=by omega
   obtain⟨x,hx⟩:=zeR M;obtain⟨F,ga,A⟩:=OwnR.elem (f:=lkL) (m:=3) (fun _=>rfl) (H1.o.keep fun k B=>I.o.block k (H1.o.typed B).2.1) hx;obtain rfl:F=c:=by have:=ga.symm.trans E1.o;simpa using this
   obtain⟨F,gb,E⟩:=OwnR.elem (f:=lkL) (m:=3) (fun _=>rfl) (H2.o.keep fun k B=>I.o.block k (H2.o.typed B).2.1) hx;obtain rfl:F=d:=by have:=gb.symm.trans E2.o;simpa using this
   have C0:=zc (A 0 (by omega));have D0:=zc (E 0 (by omega));have C1:=zc (A 1 (by omega));have D1:=zc (E 1 (by omega));have C2:=zc (A 2 (by omega));have D2:=zc (E 2 (by omega));clear A E ga gb hx;have cQ: ∀D os,Calls prog 83 #[.agg #[.int .i64 x.frm,.string x.spec,.int .i64 x.to],.agg #[.int .i64 x.frm,.string x.spec,.int .i64 x.to]] (grow (redrawn wr D) os) fun e Z=>e= .returned (.bool true)/\∃p:Regrown,Z=grow (redrawn wr p.d) p.os:=fun D os=>Calls.regrown_of (zsA x _);obtain⟨K,H⟩: ∃K,K=j+1:=⟨_,rfl⟩;have ej:(j:Int)+1=(K:Int):=by omega
   have HJ:=zc H;clear H;go_wp2;have k0:=cR0 C0.o;have l0:=cR0 D0.o;have k1:=cR0 C1.o;have l1:=cR0 D1.o;have k2:=cR0 C2.o;have l2:=cR0 D2.o;simp only[Nat.add_zero] at k0 l0;refine wp_region_quiet_below (by kernel_rfl) (by kernel_rfl) ?_
   repeat (go_big_quiet_step (exact cQ _ _))
   refine wpQuiet_nil ?_;intro w2 L;obtain⟨⟨dq,O⟩,h⟩:=L;have Y:Hid (Bw V w2):=by show Below _ _ _;rw[h];exact I.o.trans ((below_regrown wr dq O).mono I.o.size)
   clear h k0 l0 C0 D0 k1 l1 C1 D1 k2 l2 C2 D2 cQ;go_wp2;go_roundg (gk-1)
   case rel=>exact⟨K,rfl,by have:=HJ.o;omega,Y.o⟩
   case measure=>omega
  ·have J: ¬(j:Int)<(z.length:Int):=by omega
   go_wp2;go_ret;exact⟨rfl,I.o⟩
theorem zsD (h:Rw) (l:List Lk) (w:World) (K:OwnR w g 62 3 S l.length (l.flatMap lkL)) (J:OwnR w b 62 3 h l.length (l.flatMap lkL)) (O:l.length<=4294967296):
  Calls prog 52 #[.slice S.a l.length S.cap,.slice h.a l.length h.cap] w fun e w'=>e= .returned (.bool true)/\Bw w w':=by
 by_cases A:l.length=0
 ·rw[A];exact zsB _ _ _ _ w
 ·rcases K.nil_or with ⟨_,_,e⟩|⟨N,I⟩
  ·exact absurd e A
  ·rcases J.nil_or with ⟨_,_,e⟩|⟨M,L⟩
   ·exact absurd e A
   ·rw[I,L];exact zsC g b N M S h l w K J I L O
theorem zsE {H:Type} {enc:TypeId×Value->H} {q:Nat->Bool} {A:Bool} {n:Nat} {y:DataW H×List MemPlace} (h:DataW.trod enc prog s k q A n 93 m=some y) (hl:m.length=3): ∃x:Lk,m=lkL x/\zeS x:=by
 obtain⟨xs,B,_,_,_,O,V⟩:=DataW.trod_struct underlying93 h;have cS:prog.cellsOf 9=1:=by kernel_rfl
 have cI:prog.cellsOf 3=1:=by kernel_rfl
 obtain⟨N,K,M,rfl⟩:=list3 hl;obtain⟨y0,Y,y2,rfl⟩:=list3 (O.trans rfl);have J:DataW.trod enc prog s k q A B 3 (List.take (prog.cellsOf 3) (List.drop 0 [N,K,M]))=some y0:=V 0 _ rfl;rw[cI] at J;replace J:DataW.trod enc prog s k q A B 3 [N]=some y0:=J;have L:DataW.trod enc prog s k q A B 9 (List.take (prog.cellsOf 9) (List.drop 1 [N,K,M]))=some Y:=V 1 _ rfl;rw[cS] at L;replace L:DataW.trod enc prog s k q A B 9 [K]=some Y:=L;have I:DataW.trod enc prog s k q A B 3 (List.take (prog.cellsOf 3) (List.drop 2 [N,K,M]))=some y2:=V 2 _ rfl;rw[cI] at I;replace I:DataW.trod enc prog s k q A B 3 [M]=some y2:=I;obtain⟨s0,X,_,z0⟩:=DataW.trod_int underlying3 J;simp only[List.cons.injEq,and_true] at X;subst X;obtain⟨s1,e1,_,z1⟩:=DataW.trod_string underlying9 L;simp only[List.cons.injEq,and_true] at e1;subst e1;obtain⟨s2,Z,_,z2⟩:=DataW.trod_int underlying3 I;simp only[List.cons.injEq,and_true] at Z;subst Z;refine⟨⟨s0,s1,s2⟩,rfl,?_⟩;unfold zeS;unfold maxLen at z1;show _<=_;omega
theorem zlH (l:List BA0):l.map Value.string=l.flatMap (fun x=>[Value.string x]):=by
 induction l with
 |nil=>rfl
 |cons x l h=>rw[List.map_cons,List.flatMap_cons,h];rfl
def zsF (w:World) (m:Md) (e:Ending) (w':World):Prop:=∃S,e= .returned (zo S m)/\OwnMd w' w.heap.size S m/\Bw w w'
theorem zb7 {size n c i:Nat} {J:Array Value} (h:OwnR s k x size p n m) (K:s.heap[c]? =some (.cells J 59 (0,0))) (I:x≠59):OwnR (s.setCell ⟨c,i,none⟩ t) k x size p n m:=
 h.keep fun B g=>heap_setCell_other s ⟨c,i,none⟩ B t fun A=>by
  obtain⟨_,_,H,q⟩:=h.typed g;simp only at A;rw[A,K] at q;simp only[sI0,Obj.cells.injEq] at q;exact I q.2.1.symm
abbrev zsG (w:World) (b:Nat) (x0 x1 x2 x3 x4:Value):World:=((((w.setCell ⟨b,0,none⟩ x0).setCell ⟨b,1,none⟩ x1).setCell ⟨b,2,none⟩ x2).setCell ⟨b,3,none⟩ x3).setCell ⟨b,4,none⟩ x4
theorem zgx {size n c:Nat} {v1 v2 v3 v4 A L N K O:Value} (h:OwnR s k x size p n m) (M:s.heap[c]? =some (.cells #[t,v1,v2,v3,v4] 59 (0,0))) (q:x≠59):OwnR (zsG s c A L N K O) k x size p n m:=by
 have J:=zaj (i:=0) (u:=A) M;have I:=zaj (i:=1) (u:=L) J;have H:=zaj (i:=2) (u:=N) I;have U:=zaj (i:=3) (u:=K) H;exact zb7 (zb7 (zb7 (zb7 (zb7 h M q) J q) I q) H q) U q
theorem zsH (A:MA) (m:Md) (w:World) (hr:ModIn w A m) (f1:m.rq.length<=1048576) (f2:m.im.length<=1048576) (f3:m.ep.length<=1048576) (f4:m.st.length<=1048576) (f5:m.ex.length<=1048576):
  Calls prog 74 #[zgv A m] w fun e w'=>zsF w m e w':=by
 have HR:=zc hr;clear hr;unfold zgv;go_enter func74,ntmps74;go_upto_region 2 with fail;obtain⟨H,ac⟩: ∃H,H=w.heap.size:=⟨_,rfl⟩;rw[<-ac];refine zp (R:=(fun W=>W.heap[H]? =some (.cells #[.slice A.a0 m.rq.length A.c0,.slice A.a1 m.im.length A.c1,.slice A.a2 m.ep.length A.c2,.slice A.a3 m.st.length A.c3,.slice A.a4 m.ex.length A.c4] 91 (0,0))/\W.heap[H+1]? =some (.cells bxN 59 (0,0))/\W.heap[H+2]? =some (.cells bxN 59 (0,0))/\Bw w W)) ?_ ?_
 ·rw[ac];refine⟨?_,?_,?_,?_⟩
  ·rw[heap_alloc_old _ _ (by show _<((w.heap.push _).push _).size;simp;omega),heap_alloc_old _ _ (by show _<(w.heap.push _).size;simp)];exact hN0 w _
  ·rw[heap_alloc_old _ _ (by show _<((w.heap.push _).push _).size;simp)];exact heap_alloc2_new w _ _
  ·have:=hN0 ((w.alloc (.cells #[.slice A.a0 m.rq.length A.c0,.slice A.a1 m.im.length A.c1,.slice A.a2 m.ep.length A.c2,.slice A.a3 m.st.length A.c3,.slice A.a4 m.ex.length A.c4] 91)).alloc (.cells bxN 59)) (.cells bxN 59);simp only[zh] at this;exact this
  ·exact ((bA0).alloc (by show _<=(w.heap.push _).size;simp) _).alloc (by show _<=((w.heap.push _).push _).size;simp;omega) _
 have ab:w.heap.size<=H+2:=by omega
 have aa:w.heap.size<=H+1:=by omega
 clear ac;rintro W0 ⟨hx,hy,hz,h⟩;have X:=zc hx;have Y:=zc hy;have Z:=zc hz;have J:=zc h;clear hx hy hz h;obtain⟨V,L,M,O,U,N⟩:=zl X.o;go_wp2_with fail;refine (zlB A.a0 A.c0 m.rq W0 (HR.o.later J.o).1 f1).mono ?_;rintro e V0 ⟨g0,rfl,q,h⟩;have X2:=zc ((h.block _ (aLt X.o)).trans X.o);have Y2:=zc ((h.block _ (aLt Y.o)).trans Y.o);have I:=zc ((h.block _ (aLt Z.o)).trans Z.o);have K:=zc (J.o.trans (h.mono J.o.size));have P0:=zc (q.low J.o.size);clear q h V L M O U N X Y Z J;obtain⟨V,L,M,O,U,N⟩:=zl I.o;go_upto_region 3 with fail;refine zp (R:=(fun W=>W.heap[H]? =some (.cells #[.slice A.a0 m.rq.length A.c0,.slice A.a1 m.im.length A.c1,.slice A.a2 m.ep.length A.c2,.slice A.a3 m.st.length A.c3,.slice A.a4 m.ex.length A.c4] 91 (0,0))/\W.heap[H+1]? =some (.cells bxN 59 (0,0))/\W.heap[H+2]? =some (.cells #[.slice (some ⟨g0,0,none⟩) m.rq.length m.rq.length,.slice none 0 0,.slice none 0 0,.slice none 0 0,.slice none 0 0] 59 (0,0))/\Bw w W/\OwnR W w.heap.size 9 1 ⟨some ⟨g0,0,none⟩,m.rq.length⟩ m.rq.length (m.rq.flatMap (fun x=>[Value.string x])))) ⟨(heap_setCell_other _ _ _ _ (by show H≠H+2;omega)).trans X2.o,(heap_setCell_other _ _ _ _ (by show H+1≠H+2;omega)).trans Y2.o,(zaj I.o).trans (by simp),K.o.setCell ab _,zb7 P0.o I.o (by decide)⟩ ?_;clear X2 Y2 I K V L M O U N P0;rintro W1 ⟨hx,hy,hz,h,o0⟩;have X:=zc hx;have Y:=zc hy;have Z:=zc hz;have J:=zc h;have O0:=zc o0;clear hx hy hz h o0;obtain⟨V,L,M,O,U,N⟩:=zl X.o;go_wp2_with fail;refine (zsb A.a1 A.c1 m.im W1 (HR.o.later J.o).2.1 f2).mono ?_;rintro e V1 ⟨g1,rfl,q,h⟩;have X2:=zc ((h.block _ (aLt X.o)).trans X.o);have Y2:=zc ((h.block _ (aLt Y.o)).trans Y.o);have I:=zc ((h.block _ (aLt Z.o)).trans Z.o);have K:=zc (J.o.trans (h.mono J.o.size));have P0:=zc (O0.o.keep fun k g=>h.block k (O0.o.typed g).2.1);have P1:=zc (q.low J.o.size);clear q h V L M O U N X Y Z J O0;obtain⟨V,L,M,O,U,N⟩:=zl I.o;go_upto_region 4 with fail;refine zp (R:=(fun W=>W.heap[H]? =some (.cells #[.slice A.a0 m.rq.length A.c0,.slice A.a1 m.im.length A.c1,.slice A.a2 m.ep.length A.c2,.slice A.a3 m.st.length A.c3,.slice A.a4 m.ex.length A.c4] 91 (0,0))/\W.heap[H+1]? =some (.cells bxN 59 (0,0))/\W.heap[H+2]? =some (.cells #[.slice (some ⟨g0,0,none⟩) m.rq.length m.rq.length,.slice (some ⟨g1,0,none⟩) m.im.length m.im.length,.slice none 0 0,.slice none 0 0,.slice none 0 0] 59 (0,0))/\Bw w W/\OwnR W w.heap.size 9 1 ⟨some ⟨g0,0,none⟩,m.rq.length⟩ m.rq.length (m.rq.flatMap (fun x=>[Value.string x]))/\OwnR W w.heap.size 101 3 ⟨some ⟨g1,0,none⟩,m.im.length⟩ m.im.length (m.im.flatMap imL))) ⟨(heap_setCell_other _ _ _ _ (by show H≠H+2;omega)).trans X2.o,(heap_setCell_other _ _ _ _ (by show H+1≠H+2;omega)).trans Y2.o,(zaj I.o).trans (by simp),K.o.setCell ab _,zb7 P0.o I.o (by decide),zb7 P1.o I.o (by decide)⟩ ?_;clear X2 Y2 I K V L M O U N P0 P1;rintro W2 ⟨hx,hy,hz,h,o0,o1⟩;have X:=zc hx;have Y:=zc hy;have Z:=zc hz;have J:=zc h;have O0:=zc o0;have O1:=zc o1;clear hx hy hz h o0 o1;obtain⟨V,L,M,O,U,N⟩:=zl X.o;go_wp2_with fail;refine (zsd A.a2 A.c2 m.ep W2 (HR.o.later J.o).2.2.1 f3).mono ?_;rintro e V2 ⟨g2,rfl,q,h⟩;have X2:=zc ((h.block _ (aLt X.o)).trans X.o);have Y2:=zc ((h.block _ (aLt Y.o)).trans Y.o);have I:=zc ((h.block _ (aLt Z.o)).trans Z.o);have K:=zc (J.o.trans (h.mono J.o.size));have P0:=zc (O0.o.keep fun k g=>h.block k (O0.o.typed g).2.1);have P1:=zc (O1.o.keep fun k g=>h.block k (O1.o.typed g).2.1);have P2:=zc (q.low J.o.size);clear q h V L M O U N X Y Z J O0 O1;obtain⟨V,L,M,O,U,N⟩:=zl I.o;go_upto_region 5 with fail;refine zp (R:=(fun W=>W.heap[H]? =some (.cells #[.slice A.a0 m.rq.length A.c0,.slice A.a1 m.im.length A.c1,.slice A.a2 m.ep.length A.c2,.slice A.a3 m.st.length A.c3,.slice A.a4 m.ex.length A.c4] 91 (0,0))/\W.heap[H+1]? =some (.cells bxN 59 (0,0))/\W.heap[H+2]? =some (.cells #[.slice (some ⟨g0,0,none⟩) m.rq.length m.rq.length,.slice (some ⟨g1,0,none⟩) m.im.length m.im.length,.slice (some ⟨g2,0,none⟩) m.ep.length m.ep.length,.slice none 0 0,.slice none 0 0] 59 (0,0))/\Bw w W/\OwnR W w.heap.size 9 1 ⟨some ⟨g0,0,none⟩,m.rq.length⟩ m.rq.length (m.rq.flatMap (fun x=>[Value.string x]))/\OwnR W w.heap.size 101 3 ⟨some ⟨g1,0,none⟩,m.im.length⟩ m.im.length (m.im.flatMap imL)/\OwnR W w.heap.size 103 4 ⟨some ⟨g2,0,none⟩,m.ep.length⟩ m.ep.length (m.ep.flatMap epL))) ⟨(heap_setCell_other _ _ _ _ (by show H≠H+2;omega)).trans X2.o,(heap_setCell_other _ _ _ _ (by show H+1≠H+2;omega)).trans Y2.o,(zaj I.o).trans (by simp),K.o.setCell ab _,zb7 P0.o I.o (by decide),zb7 P1.o I.o (by decide),zb7 P2.o I.o (by decide)⟩ ?_;clear X2 Y2 I K V L M O U N P0 P1 P2;rintro W3 ⟨hx,hy,hz,h,o0,o1,o2⟩;have X:=zc hx;have Y:=zc hy;have Z:=zc hz;have J:=zc h;have O0:=zc o0;have O1:=zc o1;have O2:=zc o2;clear hx hy hz h o0 o1 o2;obtain⟨V,L,M,O,U,N⟩:=zl X.o;go_wp2_with fail;refine (zsf A.a3 A.c3 m.st W3 (HR.o.later J.o).2.2.2.1 f4).mono ?_;rintro e V3 ⟨g3,rfl,q,h⟩;have X2:=zc ((h.block _ (aLt X.o)).trans X.o);have Y2:=zc ((h.block _ (aLt Y.o)).trans Y.o);have I:=zc ((h.block _ (aLt Z.o)).trans Z.o);have K:=zc (J.o.trans (h.mono J.o.size));have P0:=zc (O0.o.keep fun k g=>h.block k (O0.o.typed g).2.1);have P1:=zc (O1.o.keep fun k g=>h.block k (O1.o.typed g).2.1);have P2:=zc (O2.o.keep fun k g=>h.block k (O2.o.typed g).2.1);have P3:=zc (q.low J.o.size);clear q h V L M O U N X Y Z J O0 O1 O2;obtain⟨V,L,M,O,U,N⟩:=zl I.o;go_upto_region 6 with fail;refine zp (R:=(fun W=>W.heap[H]? =some (.cells #[.slice A.a0 m.rq.length A.c0,.slice A.a1 m.im.length A.c1,.slice A.a2 m.ep.length A.c2,.slice A.a3 m.st.length A.c3,.slice A.a4 m.ex.length A.c4] 91 (0,0))/\W.heap[H+1]? =some (.cells bxN 59 (0,0))/\W.heap[H+2]? =some (.cells #[.slice (some ⟨g0,0,none⟩) m.rq.length m.rq.length,.slice (some ⟨g1,0,none⟩) m.im.length m.im.length,.slice (some ⟨g2,0,none⟩) m.ep.length m.ep.length,.slice (some ⟨g3,0,none⟩) m.st.length m.st.length,.slice none 0 0] 59 (0,0))/\Bw w W/\OwnR W w.heap.size 9 1 ⟨some ⟨g0,0,none⟩,m.rq.length⟩ m.rq.length (m.rq.flatMap (fun x=>[Value.string x]))/\OwnR W w.heap.size 101 3 ⟨some ⟨g1,0,none⟩,m.im.length⟩ m.im.length (m.im.flatMap imL)/\OwnR W w.heap.size 103 4 ⟨some ⟨g2,0,none⟩,m.ep.length⟩ m.ep.length (m.ep.flatMap epL)/\OwnR W w.heap.size 108 3 ⟨some ⟨g3,0,none⟩,m.st.length⟩ m.st.length (m.st.flatMap smL))) ⟨(heap_setCell_other _ _ _ _ (by show H≠H+2;omega)).trans X2.o,(heap_setCell_other _ _ _ _ (by show H+1≠H+2;omega)).trans Y2.o,(zaj I.o).trans (by simp),K.o.setCell ab _,zb7 P0.o I.o (by decide),zb7 P1.o I.o (by decide),zb7 P2.o I.o (by decide),zb7 P3.o I.o (by decide)⟩ ?_;clear X2 Y2 I K V L M O U N P0 P1 P2 P3;rintro W4 ⟨hx,hy,hz,h,o0,o1,o2,o3⟩;have X:=zc hx;have Y:=zc hy;have Z:=zc hz;have J:=zc h;have O0:=zc o0;have O1:=zc o1;have O2:=zc o2;have O3:=zc o3;clear hx hy hz h o0 o1 o2 o3;obtain⟨V,L,M,O,U,N⟩:=zl X.o;go_wp2_with fail;refine (zsh A.a4 A.c4 m.ex W4 (HR.o.later J.o).2.2.2.2 f5).mono ?_;rintro e V4 ⟨g4,rfl,q,h⟩;have X2:=zc ((h.block _ (aLt X.o)).trans X.o);have Y2:=zc ((h.block _ (aLt Y.o)).trans Y.o);have I:=zc ((h.block _ (aLt Z.o)).trans Z.o);have K:=zc (J.o.trans (h.mono J.o.size));have P0:=zc (O0.o.keep fun k g=>h.block k (O0.o.typed g).2.1);have P1:=zc (O1.o.keep fun k g=>h.block k (O1.o.typed g).2.1);have P2:=zc (O2.o.keep fun k g=>h.block k (O2.o.typed g).2.1);have P3:=zc (O3.o.keep fun k g=>h.block k (O3.o.typed g).2.1);have P4:=zc (q.low J.o.size);clear q h V L M O U N X Y Z J O0 O1 O2 O3;obtain⟨V,L,M,O,U,N⟩:=zl I.o;go_upto_region 7 with fail;refine zp (R:=(fun W=>W.heap[H]? =some (.cells #[.slice A.a0 m.rq.length A.c0,.slice A.a1 m.im.length A.c1,.slice A.a2 m.ep.length A.c2,.slice A.a3 m.st.length A.c3,.slice A.a4 m.ex.length A.c4] 91 (0,0))/\W.heap[H+1]? =some (.cells bxN 59 (0,0))/\W.heap[H+2]? =some (.cells #[.slice (some ⟨g0,0,none⟩) m.rq.length m.rq.length,.slice (some ⟨g1,0,none⟩) m.im.length m.im.length,.slice (some ⟨g2,0,none⟩) m.ep.length m.ep.length,.slice (some ⟨g3,0,none⟩) m.st.length m.st.length,.slice (some ⟨g4,0,none⟩) m.ex.length m.ex.length] 59 (0,0))/\Bw w W/\OwnR W w.heap.size 9 1 ⟨some ⟨g0,0,none⟩,m.rq.length⟩ m.rq.length (m.rq.flatMap (fun x=>[Value.string x]))/\OwnR W w.heap.size 101 3 ⟨some ⟨g1,0,none⟩,m.im.length⟩ m.im.length (m.im.flatMap imL)/\OwnR W w.heap.size 103 4 ⟨some ⟨g2,0,none⟩,m.ep.length⟩ m.ep.length (m.ep.flatMap epL)/\OwnR W w.heap.size 108 3 ⟨some ⟨g3,0,none⟩,m.st.length⟩ m.st.length (m.st.flatMap smL)/\OwnR W w.heap.size 106 6 ⟨some ⟨g4,0,none⟩,m.ex.length⟩ m.ex.length (m.ex.flatMap exL))) ⟨(heap_setCell_other _ _ _ _ (by show H≠H+2;omega)).trans X2.o,(heap_setCell_other _ _ _ _ (by show H+1≠H+2;omega)).trans Y2.o,(zaj I.o).trans (by simp),K.o.setCell ab _,zb7 P0.o I.o (by decide),zb7 P1.o I.o (by decide),zb7 P2.o I.o (by decide),zb7 P3.o I.o (by decide),zb7 P4.o I.o (by decide)⟩ ?_;clear X2 Y2 I K V L M O U N P0 P1 P2 P3 P4;rintro W5 ⟨hx,hy,hz,h,o0,o1,o2,o3,o4⟩;have Y:=zc hy;have Z:=zc hz;have J:=zc h;have O0:=zc o0;have O1:=zc o1;have O2:=zc o2;have O3:=zc o3;have O4:=zc o4;clear hx hy hz h o0 o1 o2 o3 o4;obtain⟨V,L,M,O,U,N⟩:=zl Z.o;obtain⟨d0,d1,d2,d3,d4,df⟩:=zl Y.o;go_wp2;refine bodyPost_ret (results_cell_row rfl _ _ (H+1) 59 #[.slice (some ⟨g0,0,none⟩) m.rq.length m.rq.length,.slice (some ⟨g1,0,none⟩) m.im.length m.im.length,.slice (some ⟨g2,0,none⟩) m.ep.length m.ep.length,.slice (some ⟨g3,0,none⟩) m.st.length m.st.length,.slice (some ⟨g4,0,none⟩) m.ex.length m.ex.length] (0,0) _ rfl ?_ underlying59 rfl (by kernel_rfl)) rfl ?_
 ·exact zdV Y.o
 ·refine⟨⟨⟨some ⟨g0,0,none⟩,m.rq.length⟩,⟨some ⟨g1,0,none⟩,m.im.length⟩,⟨some ⟨g2,0,none⟩,m.ep.length⟩,⟨some ⟨g3,0,none⟩,m.st.length⟩,⟨some ⟨g4,0,none⟩,m.ex.length⟩,⟨none,0⟩⟩,rfl,⟨?_,?_,?_,?_,?_⟩,((((J.o.setCell aa _).setCell aa _).setCell aa _).setCell aa _).setCell aa _⟩
  ·rw[zlH];exact zgx O0.o Y.o (by decide)
  ·exact zgx O1.o Y.o (by decide)
  ·exact zgx O2.o Y.o (by decide)
  ·exact zgx O3.o Y.o (by decide)
  ·exact zgx O4.o Y.o (by decide)
abbrev Bk (w:World) (b:Nat) (cs:Array Value) (t:TypeId):Prop:=w.heap[b]? =some (.cells cs t (0,0))
theorem Bk.later {w w':World} {b:Nat} {q:Array Value} {t:TypeId} (h:Bk w b q t) (A:Bw w w'):Bk w' b q t:=(A.block _ (aLt h)).trans h
theorem zi {w w' q:World} (h:Bw w w') (A:Below w'.heap.size w' q):Bw w q:=h.trans (A.mono h.size)
def maL (x:MA×Md):List Value:=[.slice x.1.a0 x.2.rq.length x.1.c0,.slice x.1.a1 x.2.im.length x.1.c1,.slice x.1.a2 x.2.ep.length x.1.c2,.slice x.1.a3 x.2.st.length x.1.c3,.slice x.1.a4 x.2.ex.length x.1.c4]
def mdL (x:Sv×Md):List Value:=[.slice x.1.rq.a x.2.rq.length x.1.rq.cap,.slice x.1.im.a x.2.im.length x.1.im.cap,.slice x.1.ep.a x.2.ep.length x.1.ep.cap,.slice x.1.st.a x.2.st.length x.1.st.cap,.slice x.1.ex.a x.2.ex.length x.1.ex.cap]
def zce (x:MA×Md):Nat:=zaU x.2
theorem zsM (a:Option Addr) (aa:Nat) (l:List (MA×Md)) (left:Int) (w:World) (hr:RowAt w a maL 5 l) (hi: ∀x∈l,ModIn w x.1 x.2) (hl:l.length<=9223372036854775807) (H: ∀x∈l,zgw x.2) (h0:0<=left) (h1:left<=1048576):
  Calls prog 35 #[.slice a l.length aa,.int .i64 left] w fun e w'=>zc6 left (l.length+zE zce l) e/\Bw w w':=by
 have HR:=zc hr;have HI:=zc hi;have HG:=zc H;clear hr H hi;by_cases ae:(l.length:Int)<=left
 case neg=>
  go_enter func35,ntmps35;go_wp2;go_ret;exact⟨⟨-1,rfl,by omega,by omega,fun h=>by omega⟩,Below.refl _ _⟩
 go_enter func35,ntmps35;go_wp2;go_loopg [1,5] l.length (fun k s1 s5 wr=>∃(j:Nat) (z:Int),s5= .int .i64 j/\s1= .int .i64 z/\j+k=l.length/\0<=z/\z<=left/\z+((l.length+zE zce (l.take j):Nat):Int)=left/\Bw w wr)
 case atStart=>exact⟨0,_,rfl,rfl,by omega,by omega,by omega,by simp[zE],Below.refl _ _⟩
 case round=>
  obtain⟨j,z,rfl,rfl,hj,Z,ac,L,H⟩:=hrel;have HZ:=zc L;have J:=zc H;clear L H;by_cases X:j<l.length
  ·have U:(j:Int)<(l.length:Int):=by omega
   obtain⟨x,N⟩: ∃x,l[j]? =some x:=⟨_,gE X⟩;obtain⟨b,ag,rfl,q⟩:=(HR.o.later J.o).get N;have ab:=zc ((HI.o x (mG N)).later J.o);have Y:=zc (HG.o x (mG N));have HC:=zc (zeM zce N);have c0:=q 0 _ rfl;have c1:=q 1 _ rfl;have c2:=q 2 _ rfl;have c3:=q 3 _ rfl;have c4:=q 4 _ rfl;simp only[Nat.add_zero] at c0;clear q N;obtain⟨V,A⟩: ∃V,V=j+1:=⟨_,rfl⟩;have ej:(j:Int)+1=(V:Int):=by omega
   have HJ:=zc A;clear A;go_wp2_with fail;refine (zrZ x.1 x.2 z _ ab.o Y.o Z (by omega)).mono ?_;rintro e w1 ⟨⟨z1,rfl,ah,af,K⟩,O⟩;have M:=zc (J.o.trans (O.mono J.o.size));have ad:=zc K;clear O K c0 c1 c2 c3 c4;by_cases I:0<=z1
   ·go_wp2;go_roundg (gk-1)
    case rel=>exact⟨V,z1,rfl,rfl,by have:=HJ.o;omega,I,by omega,by have:=HZ.o;have:=ad.o I;rw[HJ.o,HC.o];have:zce x=zaU x.2:=rfl;omega,M.o⟩
    case measure=>omega
   ·go_wp2;go_ret;exact⟨⟨-1,rfl,by omega,by omega,fun h=>by omega⟩,M.o⟩
  ·have U: ¬(j:Int)<(l.length:Int):=by omega
   obtain rfl:j=l.length:=by omega
   go_wp2;go_ret;exact⟨⟨z,rfl,by omega,ac,fun _=>by have:=HZ.o;rw[List.take_length] at this;exact this⟩,J.o⟩
structure GA where
 pa:Option Addr
 pc:Nat
 ma:Option Addr
 mc:Nat
 la:Option Addr
 lc:Nat
 ms:List (MA×Md)
structure Gr where
 ps:List BA0
 ms:List Md
 ls:List Lk
def grA (A:GA) (g:Gr):Value:=.agg #[.slice A.pa g.ps.length A.pc,.slice A.ma A.ms.length A.mc,.slice A.la g.ls.length A.lc]
structure GrIn (w:World) (A:GA) (g:Gr):Prop where
 ps:RowAt w A.pa (fun x=>[Value.string x]) 1 g.ps
 ms:RowAt w A.ma maL 5 A.ms
 md: ∀x∈A.ms,ModIn w x.1 x.2
 ls:RowAt w A.la lkL 3 g.ls
 same:A.ms.map (·.2)=g.ms
structure BigG (A:GA) (g:Gr):Prop where
 ps:g.ps.length<=9223372036854775807
 pS: ∀x∈g.ps,zew x
 ms:A.ms.length<=9223372036854775807
 mS: ∀x∈A.ms,zgw x.2
 ls:g.ls.length<=9223372036854775807
 lS: ∀x∈g.ls,zeS x
theorem GrIn.later {w w':World} {A:GA} {g:Gr} (h:GrIn w A g) (q:Bw w w'):GrIn w' A g:=⟨h.ps.later q,h.ms.later q,fun x H=>(h.md x H).later q,h.ls.later q,h.same⟩
def zcx (A:GA) (g:Gr):Nat:=(g.ps.length+zE zb6 g.ps)+(A.ms.length+zE zce A.ms)+(g.ls.length+zE zeb g.ls)
theorem zeT (A:GA) (g:Gr) (left:Int) (w:World) (hr:GrIn w A g) (q:BigG A g) (h0:0<=left) (h1:left<=1048576):
  Calls prog 10 #[grA A g,.int .i64 left] w fun e w'=>zc6 left (zcx A g) e/\Bw w w':=by
 have HR:=zc hr;have L:=zc q;clear hr q;unfold grA;go_enter func10,ntmps10;go_upto_region 1 with fail;obtain⟨M,H⟩: ∃M,M=w.alloc (.cells #[.slice A.pa g.ps.length A.pc,.slice A.ma A.ms.length A.mc,.slice A.la g.ls.length A.lc] 26):=⟨_,rfl⟩;rw[<-H];have Z:Hid (Bk M w.heap.size #[.slice A.pa g.ps.length A.pc,.slice A.ma A.ms.length A.mc,.slice A.la g.ls.length A.lc] 26):=by rw[H];exact hN0 w _
 have I:Hid (Bw w M):=by rw[H];exact bA0
 clear H;have M0:=zc (HR.o.later I.o);clear HR;obtain⟨X,O,U,V⟩:=zg Z.o;go_wp2_with fail;refine (zlA A.pa A.pc g.ps left M M0.o.ps L.o.ps L.o.pS (by omega) (by omega)).mono ?_;rintro e W1 ⟨⟨z0,rfl,y0,u0,v0⟩,q⟩;have J:=zc (zi I.o q);have Y:=zc (M0.o.later q);have X1:=zc (Z.o.later q);have V0:=zc v0;clear q v0 X O U V M0 Z I;by_cases t0:0<=z0
 case neg=>
  go_wp2;go_ret;exact⟨⟨-1,rfl,by omega,by omega,fun h=>by omega⟩,J.o⟩
 obtain⟨X,O,U,V⟩:=zg X1.o;go_wp2_with fail;refine (zsM A.ma A.mc A.ms z0 W1 Y.o.ms Y.o.md L.o.ms L.o.mS (by omega) (by omega)).mono ?_;rintro e W2 ⟨⟨z1,rfl,y1,u1,v1⟩,q⟩;have K:=zc (zi J.o q);have M2:=zc (Y.o.later q);have X2:=zc (X1.o.later q);have V1:=zc v1;clear q v1 X O U V Y X1 J;by_cases t1:0<=z1
 case neg=>
  go_wp2;go_ret;exact⟨⟨-1,rfl,by omega,by omega,fun h=>by omega⟩,K.o⟩
 obtain⟨X,O,U,V⟩:=zg X2.o;go_wp2_with fail;refine (zs7 A.la A.lc g.ls z1 W2 M2.o.ls L.o.ls L.o.lS (by omega) (by omega)).mono ?_;rintro e W3 ⟨⟨z2,rfl,y2,u2,v2⟩,q⟩;have N:=zc (zi K.o q);have M3:=zc (M2.o.later q);have X3:=zc (X2.o.later q);have V2:=zc v2;clear q v2 X O U V M2 X2 K;by_cases t2:0<=z2
 case neg=>
  go_wp2;go_ret;exact⟨⟨-1,rfl,by omega,by omega,fun h=>by omega⟩,N.o⟩
 go_wp2;go_ret;exact⟨⟨z2,rfl,by omega,by omega,fun _=>by have q0:=V0.o t0;have q1:=V1.o t1;have q2:=V2.o t2;unfold zcx;omega⟩,N.o⟩
theorem OwnMd.low {w:World} {b A:Nat} {S:Sv} {m:Md} (h:OwnMd w b S m) (q:A<=b):OwnMd w A S m:=⟨h.rq.low q,h.im.low q,h.ep.low q,h.st.low q,h.ex.low q⟩
theorem OwnR.aside {w:World} {base size n c i:Nat} {e t:TypeId} {r:Rw} {xs:List Value} {u:Value} {J:Array Value} (h:OwnR w base e size r n xs) (K:w.heap[c]? =some (.cells J t (0,0))) (I:e≠t):OwnR (w.setCell ⟨c,i,none⟩ u) base e size r n xs:=
 h.keep fun k g=>heap_setCell_other w ⟨c,i,none⟩ k u fun A=>by
  obtain⟨_,_,H,q⟩:=h.typed g;simp only at A;rw[A,K] at q;simp only[sI0,Obj.cells.injEq] at q;exact I q.2.1.symm
theorem OwnMd.aside {w:World} {b c i:Nat} {S:Sv} {m:Md} {t:TypeId} {u:Value} {H:Array Value} (h:OwnMd w b S m) (A:w.heap[c]? =some (.cells H t (0,0))) (q:t≠9/\t≠101/\t≠103/\t≠108/\t≠106):OwnMd (w.setCell ⟨c,i,none⟩ u) b S m:=
 ⟨h.rq.aside A q.1.symm,h.im.aside A q.2.1.symm,h.ep.aside A q.2.2.1.symm,h.st.aside A q.2.2.2.1.symm,h.ex.aside A q.2.2.2.2.symm⟩
theorem zhy {w:World} {b g o:Nat} {S:Sv} {m:Md} {H N O M V:Value} (h:OwnMd w b S m) (X: ∃q,w.heap[g]? =some (.cells q 59 (0,0))):
  OwnMd (((((w.setCell ⟨g,o,none⟩ H).setCell ⟨g,o+1,none⟩ N).setCell ⟨g,o+2,none⟩ O).setCell ⟨g,o+3,none⟩ M).setCell ⟨g,o+4,none⟩ V) b S m:=by
 obtain⟨q,K⟩:=X;have J:=zaj (i:=o) (u:=H) K;have I:=zaj (i:=o+1) (u:=N) J;have L:=zaj (i:=o+2) (u:=O) I;have U:=zaj (i:=o+3) (u:=M) L;have A:(59:TypeId)≠9/\(59:TypeId)≠101/\(59:TypeId)≠103/\(59:TypeId)≠108/\(59:TypeId)≠106:=by decide
 exact ((((h.aside K A).aside J A).aside I A).aside L A).aside U A
theorem OwnR.put {w:World} {base size n g:Nat} {e:TypeId} {r:Rw} {xs:List Value} (h:OwnR w base e size r n xs) (q:r.a=some ⟨g,0,none⟩) (j:Nat) (u:Value):OwnR (w.setCell ⟨g,j,none⟩ u) base e size r n (xs.set j u):=by
 obtain⟨a,A⟩:=r;simp only at q;subst q;exact (World.ownsRow.stored h j u).1
theorem OwnR.blkOf {r:Rw} {g:Nat} (h:r.a=some ⟨g,0,none⟩):r.blk=some g:=by rw[Rw.blk,h];rfl
theorem OwnR.free {w:World} {base size n g:Nat} {e:TypeId} {r:Rw} {xs:List Value} (h:OwnR w base e size r n xs) (A:r.a=some ⟨g,0,none⟩) (j:Nat):w.frozen? ⟨g,j,none⟩=false:=by
 obtain⟨_,_,q,H⟩:=h.typed (OwnR.blkOf A);simp[World.frozen?,H]
theorem OwnC.block {w:World} {base g n m c:Nat} {e:TypeId} {H:List Value} (h:OwnC w base e m g n H c): ∃q,w.heap[g]? =some (.cells q e (0,0)):=by
 obtain⟨I,A,_⟩:=h;exact (OwnR.typed (r:=⟨some ⟨g,0,none⟩,n⟩) A rfl).2.2
theorem OwnC.more {w:World} {base g n m c:Nat} {e:TypeId} {q J:List Value} (h:OwnC w base e m g n q c) (L:c<=q.length):OwnC w base e m g n (q++J) c:=by
 obtain⟨I,H,A⟩:=h;exact⟨I,H,fun i K=>by rw[List.getElem?_append_left (by omega)];exact A i K⟩
theorem zsN {α β:Type} {S:List α} {l:List β} {s:α} {x:β} (h:l[S.length]? =some x):(S++[s]).zip l=S.zip l++[(s,x)]:=by
 induction S generalizing l with
 |nil=>cases l with
  |nil=>cases h
  |cons y l=>cases h;simp
 |cons a S q=>cases l with
  |nil=>cases h
  |cons y l=>simp only[List.cons_append,List.zip_cons_cons];rw[q h]
def zsO (w:World) (l:List Md) (e:Ending) (w':World):Prop:=∃(g:Nat) (S:List Sv),S.length=l.length/\e= .returned (.slice (some ⟨g,0,none⟩) l.length l.length)/\OwnR w' w.heap.size 59 5 ⟨some ⟨g,0,none⟩,l.length⟩ l.length ((S.zip l).flatMap mdL)/\(∀x∈S.zip l,OwnMd w' w.heap.size x.1 x.2)/\Bw w w'
theorem Tryz.infoTMd:(prog.info? 59).map (fun i=>(i.zero,i.size,i.bytes))=some (some (.agg bxN),5,120):=by kernel_rfl
def zex (m:Md):Prop:=m.rq.length<=1048576/\m.im.length<=1048576/\m.ep.length<=1048576/\m.st.length<=1048576/\m.ex.length<=1048576
theorem zsP (a:Option Addr) (ao:Nat) (l:List (MA×Md)) (w:World) (hr:RowAt w a maL 5 l) (hi: ∀x∈l,ModIn w x.1 x.2) (hf: ∀x∈l,zex x.2) (hl:l.length<=1048576):
  Calls prog 44 #[.slice a l.length ao] w fun e w'=>zsO w (l.map (·.2)) e w':=by
 have HR:=zc hr;have HI:=zc hi;have HF:=zc hf;have N:Hid ((l.map (·.2)).length=l.length):=List.length_map ..;clear hr hi hf;obtain⟨i0,hi,ag,ap,al⟩:=info_parts Tryz.infoTMd;go_enter func44,ntmps44;go_wp2_with (first|(at_make;refine wpList_make_full w rfl _ _ 29 rfl w.heap.size 59 i0 _ 5 underlying29 hi ag ap .i64 .i64 _ _ l.length (by rfl) (by rfl) rfl rfl (by rw[al];omega) (by unfold maxLen;omega) (Nat.le_refl _) ?_));intro w1 H L;have am:=zc ((Below.refl _ _).grown L (Nat.le_refl _) (fun k h=>by cases h):Bw w w1);have Y:Hid (OwnC w1 w.heap.size 59 5 w.heap.size l.length [] 0):=⟨_,H,fun j hj=>absurd hj (Nat.not_lt_zero j)⟩;clear H L;obtain⟨g,hg⟩: ∃g,g=w.heap.size:=⟨_,rfl⟩;have ah:=zc hg;rw[<-hg];have ai:Hid (OwnC w1 w.heap.size 59 5 g l.length [] 0):=by rw[hg];exact Y.o
 clear hg Y;go_wp2;go_loopg [4] l.length (fun k i wr=>∃(j:Nat) (S:List Sv),i= .int .i64 j/\j+k=l.length/\S.length=j/\OwnC wr w.heap.size 59 5 g l.length ((S.zip (l.map (·.2))).flatMap mdL) (j*5)/\(∀x∈S.zip (l.map (·.2)),OwnMd wr w.heap.size x.1 x.2)/\Bw w wr)
 case atStart=>exact⟨0,[],rfl,by omega,rfl,ai.o,(fun x M=>by cases M),am.o⟩
 case round=>
  obtain⟨j,S,rfl,hj,hs,ho,hm,hb⟩:=hrel;have HO:=zc ho;have HM:=zc hm;have O:=zc hb;have HS:=zc hs;clear ho hb hm hs;by_cases af:j<l.length
  ·have aa:(j:Int)<(l.length:Int):=by omega
   obtain⟨x,M⟩: ∃x,l[j]? =some x:=⟨_,gE af⟩;obtain⟨b,ar,rfl,U⟩:=(HR.o.later O.o).get M;have ak:=zc ((HI.o x (mG M)).later O.o);have J:=zc (HF.o x (mG M));have HX:Hid ((l.map (·.2))[j]? =some x.2):=by show _=_;rw[List.getElem?_map,M];rfl
   clear M;have c0:=U 0 _ rfl;have c1:=U 1 _ rfl;have c2:=U 2 _ rfl;have c3:=U 3 _ rfl;have c4:=U 4 _ rfl;simp only[Nat.add_zero] at c0;clear U;obtain⟨j1,Z⟩: ∃j1,j1=j+1:=⟨_,rfl⟩;have ej:(j:Int)+1=(j1:Int):=by omega
   have HJ:=zc Z;clear Z;go_wp2_with fail;refine (zsH x.1 x.2 _ ak.o J.o.1 J.o.2.1 J.o.2.2.1 J.o.2.2.2.1 J.o.2.2.2.2).mono ?_;rintro e w2 ⟨X,rfl,ab,K⟩;have q:=zc (HO.o.later K);have an:Hid (∀y∈S.zip (l.map (·.2)),OwnMd w2 w.heap.size y.1 y.2):=fun y V=>(HM.o y V).later K;have aq:=zc (ab.low O.o.size);have aj:=zc (O.o.trans (K.mono O.o.size));clear K ab c0 c1 c2 c3 c4 HO HM O;obtain⟨v0,g0⟩:=q.o.has (j*5) (by omega);have f0:=q.o.free (j*5);obtain⟨v1,g1⟩:=q.o.has (j*5+1) (by omega);have f1:=q.o.free (j*5+1);obtain⟨v2,g2⟩:=q.o.has (j*5+2) (by omega);have f2:=q.o.free (j*5+2);obtain⟨v3,g3⟩:=q.o.has (j*5+3) (by omega);have f3:=q.o.free (j*5+3);obtain⟨v4,g4⟩:=q.o.has (j*5+4) (by omega);have f4:=q.o.free (j*5+4);have HZ:Hid ((S++[X]).zip (l.map (·.2))=S.zip (l.map (·.2))++[(X,x.2)]):=zsN (by rw[HS.o];exact HX.o);have ae:((S.zip (l.map (·.2))).flatMap mdL).length=j*5:=by rw[zev (f:=mdL) (m:=5) (fun _=>rfl),List.length_zip,HS.o,List.length_map];congr 1;omega
   have A: ∀i v,(mdL (X,x.2))[i]? =some v->(((S++[X]).zip (l.map (·.2))).flatMap mdL)[j*5+i]? =some v:=by
    intro i v hv;rw[HZ.o,List.flatMap_append,List.getElem?_append_right (by omega),ae,show j*5+i-j*5=i by omega]
    simpa using hv
   have ad:Hid (OwnC w2 w.heap.size 59 5 g l.length (((S++[X]).zip (l.map (·.2))).flatMap mdL) (j*5)):=by
    show OwnC ..;rw[HZ.o,List.flatMap_append];exact q.o.more (by omega)
   have HN:=zc (((((ad.o.put (by omega) (A 0 _ rfl)).put (by omega) (A 1 _ rfl)).put (by omega) (A 2 _ rfl)).put (by omega) (A 3 _ rfl)).put (by omega) (A 4 _ rfl));have ac:=zc q.o.block;clear A ae ad;have I:w.heap.size<=g:=by have:=ah.o;omega
   unfold zo;go_wp2;go_roundg (gk-1)
   case rel=>
    refine⟨j1,S++[X],rfl,by have:=HJ.o;omega,by rw[List.length_append,HS.o,HJ.o];rfl,by rw[HJ.o,Nat.succ_mul];exact HN.o,fun y V=>?_,(((((aj.o.setCell I _).setCell I _).setCell I _).setCell I _).setCell I _)⟩;rw[HZ.o,List.mem_append,List.mem_singleton] at V;rcases V with V|rfl
    ·exact zhy (an.o y V) ac.o
    ·exact zhy aq.o ac.o
   case measure=>omega
  ·have aa: ¬(j:Int)<(l.length:Int):=by omega
   obtain rfl:j=l.length:=by omega
   go_wp2;go_ret;have hz:(S.zip (l.map (·.2))).length=l.length:=by rw[List.length_zip,HS.o,List.length_map,Nat.min_self]
   refine⟨g,S,HS.o.trans N.o.symm,by rw[N.o];rfl,?_,HM.o,O.o⟩;rw[N.o];exact HO.o.all (by rw[zev (f:=mdL) (m:=5) (fun _=>rfl),hz])
theorem zey {w:World} {base:Nat} {r:Rw} {S:List Sv} {l:List Md} (q:S.length=l.length) (h:OwnR w base 59 5 r l.length ((S.zip l).flatMap mdL)):OwnR w base 59 5 r (S.zip l).length ((S.zip l).flatMap mdL):=by
 rw[List.length_zip,q,Nat.min_self];exact h
theorem zec {α β:Type} {S:List α} {l:List β} (w:S.length=l.length) {j:Nat} {x:β} (h:l[j]? =some x): ∃s,(S.zip l)[j]? =some (s,x):=by
 have q:=(gS h).1;refine⟨S[j],?_⟩;rw[List.getElem?_zip_eq_some];exact⟨gE (by omega),h⟩
structure GS where
 pr:Rw
 mr:Rw
 sv:List Sv
 lr:Rw
def grD (G:GS) (g:Gr):Value:=.agg #[.slice G.pr.a g.ps.length G.pr.cap,.slice G.mr.a g.ms.length G.mr.cap,.slice G.lr.a g.ls.length G.lr.cap]
abbrev grC (G:GS) (g:Gr):Array Value:=#[.slice G.pr.a g.ps.length G.pr.cap,.slice G.mr.a g.ms.length G.mr.cap,.slice G.lr.a g.ls.length G.lr.cap]
theorem zn (w:World) (o:Obj):Bw w (w.alloc o):=bA0
structure GrOwn (w:World) (base:Nat) (G:GS) (g:Gr):Prop where
 ps:OwnR w base 9 1 G.pr g.ps.length (g.ps.flatMap fun x=>[Value.string x])
 ms:OwnR w base 59 5 G.mr g.ms.length ((G.sv.zip g.ms).flatMap mdL)
 md: ∀x∈G.sv.zip g.ms,OwnMd w base x.1 x.2
 ls:OwnR w base 62 3 G.lr g.ls.length (g.ls.flatMap lkL)
 len:G.sv.length=g.ms.length
variable {w:World} {g:Nat} {W:Gr} {C:GA} {S:Value}
theorem OwnR.later {w':World} {size n:Nat} {e:TypeId} {r:Rw} {xs:List Value} (h:OwnR w g e size r n xs) (q:Bw w w'):OwnR w' g e size r n xs:=h.keep fun k z=>q.block k (h.typed z).2.1
theorem GrOwn.later {w':World} {G:GS} {z:Gr} (h:GrOwn w g G z) (q:Bw w w'):GrOwn w' g G z:=⟨h.ps.later q,h.ms.later q,fun x A=>(h.md x A).later q,h.ls.later q,h.len⟩
abbrev z0a (t:TypeId):Prop:=t≠9/\t≠101/\t≠103/\t≠108/\t≠106
abbrev lgC (A:GA) (g:Gr):Array Value:=#[.slice A.pa g.ps.length A.pc,.slice A.ma A.ms.length A.mc,.slice A.la g.ls.length A.lc]
structure GrTmp (w W:World) (A:GA) (g:Gr) (gx:Nat) (v0 v1 v2:Value):Prop where
 x:Bk W gx (lgC A g) 26
 y:Bk W (gx+1) #[.slice none 0 0,.slice none 0 0,.slice none 0 0] 32
 z:Bk W (gx+2) #[v0,v1,v2] 32
 b:Bw w W
theorem GrTmp.later {s I:World} {H:Nat} {v1 v2:Value} (h:GrTmp w s C W H S v1 v2) (q:Bw s I):GrTmp w I C W H S v1 v2:=⟨h.x.later q,h.y.later q,h.z.later q,zi h.b q⟩
theorem GrTmp.set {s:World} {q:Nat} {v1 v2 u:Value} (h:GrTmp w s C W q S v1 v2) (H:w.heap.size<=q) (i:Nat):GrTmp w (s.setCell ⟨q+2,i,none⟩ u) C W q (if i=0 then u else S) (if i=1 then u else v1) (if i=2 then u else v2):=by
 refine⟨?_,?_,?_,h.b.setCell (by show _<=q+2;omega) _⟩
 ·exact (heap_setCell_other s ⟨q+2,i,none⟩ q u (by simp)).trans h.x
 ·exact (heap_setCell_other s ⟨q+2,i,none⟩ (q+1) u (by simp)).trans h.y
 ·refine (zaj (i:=i) (u:=u) h.z).trans ?_
  match i with
  |0=>rfl
  |1=>rfl
  |2=>rfl
  |i+3=>rfl
def zsQ (w:World) (g:Gr) (e:Ending) (w':World):Prop:=∃G,e= .returned (grD G g)/\GrOwn w' w.heap.size G g/\Bw w w'
theorem zaY (A:GA) (g:Gr) (w:World) (hr:GrIn w A g) (hf: ∀x∈A.ms,zex x.2) (f1:g.ps.length<=1048576) (f2:A.ms.length<=1048576) (f3:g.ls.length<=1048576):
  Calls prog 12 #[grA A g] w fun e w'=>zsQ w g e w':=by
 have HR:=zc hr;have HF:=zc hf;have HL:Hid (A.ms.length=g.ms.length):=by have:=congrArg List.length hr.same;rw[List.length_map] at this;exact this
 clear hr hf;unfold grA;go_enter func12,ntmps12;go_upto_region 2 with fail;obtain⟨U,ab⟩: ∃U,U=w.heap.size:=⟨_,rfl⟩;rw[<-ab];refine zp (R:=fun W=>GrTmp w W A g U (.slice none 0 0) (.slice none 0 0) (.slice none 0 0)) ?_ ?_
 ·rw[ab];refine⟨?_,?_,?_,?_⟩
  ·show _=_;rw[heap_alloc_old _ _ (by show _<((w.heap.push _).push _).size;simp;omega),heap_alloc_old _ _ (by show _<(w.heap.push _).size;simp)];exact hN0 w _
  ·show _=_;rw[heap_alloc_old _ _ (by show _<((w.heap.push _).push _).size;simp)];exact heap_alloc2_new w _ _
  ·have:=hN0 ((w.alloc (.cells (lgC A g) 26)).alloc (.cells #[.slice none 0 0,.slice none 0 0,.slice none 0 0] 32)) (.cells #[.slice none 0 0,.slice none 0 0,.slice none 0 0] 32);simp only[zh] at this;exact this
  ·exact ((bA0).alloc (by show _<=(w.heap.push _).size;simp) _).alloc (by show _<=((w.heap.push _).push _).size;simp;omega) _
 have Z:w.heap.size<=U:=by omega
 clear ab;intro W0 O;have T0:=zc O;clear O;obtain⟨M,J,K,L⟩:=zg T0.o.x;go_wp2_with fail;refine (zlB A.pa A.pc g.ps W0 (HR.o.later T0.o.b).ps f1).mono ?_;rintro e V0 ⟨X,rfl,h,I⟩;have H:=zc (T0.o.later I);have P0:=zc (h.low T0.o.b.size);clear h I M J K L T0;obtain⟨M,J,K,L⟩:=zg H.o.z;go_upto_region 3 with fail;refine zp (R:=fun W=>GrTmp w W A g U (.slice (some ⟨X,0,none⟩) g.ps.length g.ps.length) (.slice none 0 0) (.slice none 0 0)/\OwnR W w.heap.size 9 1 ⟨some ⟨X,0,none⟩,g.ps.length⟩ g.ps.length (g.ps.flatMap fun x=>[Value.string x])) ⟨H.o.set Z 0,P0.o.aside H.o.z (by decide)⟩ ?_;clear H P0 M J K L;rintro W1 ⟨O,ho⟩;have H:=zc O;have P0:=zc ho;clear O ho;obtain⟨M,J,K,L⟩:=zg H.o.x;go_wp2_with fail;refine (zsP A.ma A.mc A.ms W1 (HR.o.later H.o.b).ms (HR.o.later H.o.b).md HF.o f2).mono ?_;rw[HR.o.same];rintro e V1 ⟨g1,S,ac,rfl,h,ad,I⟩;have N:=zc (H.o.later I);have P1:=zc (P0.o.later I);have P2:=zc (h.low H.o.b.size);have P3:Hid (∀x∈S.zip g.ms,OwnMd V1 w.heap.size x.1 x.2):=fun x V=>(ad x V).low H.o.b.size;have ae:=zc ac;clear h I ad ac M J K L H P0;obtain⟨M,J,K,L⟩:=zg N.o.z;go_upto_region 4 with fail;refine zp (R:=fun W=>GrTmp w W A g U (.slice (some ⟨X,0,none⟩) g.ps.length g.ps.length) (.slice (some ⟨g1,0,none⟩) g.ms.length g.ms.length) (.slice none 0 0)/\OwnR W w.heap.size 9 1 ⟨some ⟨X,0,none⟩,g.ps.length⟩ g.ps.length (g.ps.flatMap fun x=>[Value.string x])/\OwnR W w.heap.size 59 5 ⟨some ⟨g1,0,none⟩,g.ms.length⟩ g.ms.length ((S.zip g.ms).flatMap mdL)/\∀x∈S.zip g.ms,OwnMd W w.heap.size x.1 x.2) ⟨N.o.set Z 1,P1.o.aside N.o.z (by decide),P2.o.aside N.o.z (by decide),fun x V=>(P3.o x V).aside N.o.z (by decide)⟩ ?_;clear N P1 P2 P3 M J K L;rintro W2 ⟨O,Y,h2,h3⟩;have N:=zc O;have P1:=zc Y;have P2:=zc h2;have P3:=zc h3;clear O Y h2 h3;obtain⟨M,J,K,L⟩:=zg N.o.x;go_wp2_with fail;refine (zs9 A.la A.lc g.ls W2 (HR.o.later N.o.b).ls f3).mono ?_;rintro e V2 ⟨g2,rfl,h,I⟩;have q:=zc (N.o.later I);have Q1:=zc (P1.o.later I);have Q2:=zc (P2.o.later I);have Q3:Hid (∀x∈S.zip g.ms,OwnMd V2 w.heap.size x.1 x.2):=fun x V=>(P3.o x V).later I;have Q4:=zc (h.low N.o.b.size);clear h I M J K L N P1 P2 P3;obtain⟨M,J,K,L⟩:=zg q.o.z;go_upto_region 5 with fail;refine zp (R:=fun W=>GrTmp w W A g U (.slice (some ⟨X,0,none⟩) g.ps.length g.ps.length) (.slice (some ⟨g1,0,none⟩) g.ms.length g.ms.length) (.slice (some ⟨g2,0,none⟩) g.ls.length g.ls.length)/\GrOwn W w.heap.size ⟨⟨some ⟨X,0,none⟩,g.ps.length⟩,⟨some ⟨g1,0,none⟩,g.ms.length⟩,S,⟨some ⟨g2,0,none⟩,g.ls.length⟩⟩ g) ⟨q.o.set Z 2,Q1.o.aside q.o.z (by decide),Q2.o.aside q.o.z (by decide),fun x V=>(Q3.o x V).aside q.o.z (by decide),Q4.o.aside q.o.z (by decide),ae.o⟩ ?_;clear q Q1 Q2 Q3 Q4 M J K L;rintro W3 ⟨O,ho⟩;have q:=zc O;have O3:=zc ho;clear O ho;obtain⟨M,J,K,L⟩:=zg q.o.z;obtain⟨d0,d1,d2,df⟩:=zg q.o.y;go_wp2;refine bodyPost_ret (results_cell_row rfl _ _ (U+1) 32 #[.slice (some ⟨X,0,none⟩) g.ps.length g.ps.length,.slice (some ⟨g1,0,none⟩) g.ms.length g.ms.length,.slice (some ⟨g2,0,none⟩) g.ls.length g.ls.length] (0,0) _ rfl (put3 q.o.y) underlying32 rfl (by kernel_rfl)) rfl ?_;have aa:w.heap.size<=U+1:=by omega
 have h0:=q.o.y;have Y:=zaj (i:=0) (u:=.slice (some ⟨X,0,none⟩) g.ps.length g.ps.length) h0;have h2:=zaj (i:=1) (u:=.slice (some ⟨g1,0,none⟩) g.ms.length g.ms.length) Y;exact⟨_,rfl,⟨((O3.o.ps.aside h0 (by decide)).aside Y (by decide)).aside h2 (by decide),((O3.o.ms.aside h0 (by decide)).aside Y (by decide)).aside h2 (by decide),fun x V=>(((O3.o.md x V).aside h0 (by decide)).aside Y (by decide)).aside h2 (by decide),((O3.o.ls.aside h0 (by decide)).aside Y (by decide)).aside h2 (by decide),O3.o.len⟩,((q.o.b.setCell aa _).setCell aa _).setCell aa _⟩
set_option maxHeartbeats 12800000
def zf2 (ps:List BA0) (i:Nat):Prop:=(ps.getD i sNone).toList.isEmpty=false/\((zaR (ps.getD i sNone)).toList==(ps.getD i sNone).toList)=true/\inL (ps.take i) (ps.getD i sNone)=false
def zcp (ps:List BA0) (i:Nat):Prop:=zbe (ps.getD i sNone)=true/\((zaR (ps.getD i sNone)).toList==(ps.getD i sNone).toList)=true/\inL (ps.take i) (ps.getD i sNone)=false
theorem zlO (q:List BA0) (i:Nat):zf2 q i↔zcp q i:=by
 constructor
 ·rintro⟨w,h,A⟩;exact⟨zrO w h,h,A⟩
 ·rintro⟨w,h,A⟩;refine⟨?_,h,A⟩;have:=(zet.1 w).1;generalize q.getD i sNone=p at this;cases H:p.toList with
  |nil=>
   rw[Lib.toList_data] at H;have e:p.data.toList.length=p.data.size:=Array.length_toList;rw[H] at e;have I:p.size=p.data.size:=rfl;rw[I,<-e] at this;exact absurd this (by decide)
  |cons=>rfl
def zw (g:Gr):List (List BA0):=g.ms.map (·.rq)
def zdH (ms:List Md):Prop:=∀m∈ms,MOk m/\zax m=0
def GrS (g:Gr):Prop:=(1<=g.ms.length/\g.ms.length<=8)/\g.ps.length=g.ms.length/\(∀i,i<g.ms.length->zf2 g.ps i)/\zdH g.ms/\zgq (zw g) g.ls/\∀j,j<g.ms.length->(zai g.ls g.ms.length (zbh g.ms.length))[j]? =some true
def GrI (g:Gr):Prop:=(1<=g.ms.length/\g.ms.length<=8)/\g.ps.length=g.ms.length/\(∀i,i<g.ps.length->zcp g.ps i)/\zdH g.ms/\zbM (zw g) g.ls/\(dfs (zaQ (zw g) g.ls) g.ms.length 0 (List.replicate g.ms.length false,[])).2.length=g.ms.length
theorem zh0 {g:Gr} (h:zdH g.ms): ∀rq∈zw g,rq.Nodup:=by
 intro rq w;obtain⟨m,q,rfl⟩:=List.mem_map.1 w;exact (h m q).1.parts.nd
theorem zcf (g:Gr):(zw g).length=g.ms.length:=List.length_map ..
theorem zh1 (g:Gr):GrS g↔GrI g:=by
 constructor
 ·rintro⟨H,A,I,h,q,w⟩;have J:=(zlv (zh0 h)).1 q;refine⟨H,A,fun i K=>(zlO _ _).1 (I i (by omega)),h,J,?_⟩;have:=(zl0 (zh0 h) J (by rw[zcf];omega)).1;rw[zcf] at this;exact this w
 ·rintro⟨H,A,I,h,q,w⟩;refine⟨H,A,fun i K=>(zlO _ _).2 (I i (by omega)),h,(zlv (zh0 h)).2 q,?_⟩;have:=(zl0 (zh0 h) q (by rw[zcf];omega)).2;rw[zcf] at this;exact this w
def GdM (m:Md):Prop:=zaU m<=1048576/\zay m.ex
structure GdG (g:Gr):Prop where
 ms: ∀m∈g.ms,GdM m
 ps: ∀p∈g.ps,p.size<=1048576
 pl:g.ps.length<=1048576
 ml:g.ms.length<=1048576
 ll:g.ls.length<=1048576
 rq:zar (zw g)<=1048576
def zf3 (f:FuncId):Prop:=∀(base:Nat) (S:Sv) (m:Md) (w:World),OwnMd w base S m->GdM m->Calls prog f #[zo S m,.bool false] w fun e w'=>SameOut (MOk m) e/\Bw w w'
def zf4 (f:FuncId):Prop:=∀(base:Nat) (S:Sv) (m:Md) (w:World),OwnMd w base S m->GdM m->MOk m->Calls prog f #[zo S m,.bool false] w fun e w'=>e= .returned (.int .i64 (zax m))/\Bw w w'
theorem SameOut.of {P:Prop} {e:Ending} (h:SameOut P e) {b:Bool} (w:b=true↔P):e= .returned (.bool b):=by
 obtain⟨c,rfl,q⟩:=h;have:c=b:=by
  cases c<;>cases b<;>simp_all
 rw[this]
variable {g:Nat} {w:World} {W:Ending}
theorem zh2 {q:List (List BA0)} {rq:List BA0} (h:q[g]? =some rq):zar (q.take (g+1))=zar (q.take g)+rq.length:=by
 obtain⟨w,rfl⟩:=gS h;rw[tG w,zar,zar,List.map_append,List.sum_append];simp
theorem zh3 (h:List (List BA0)) (i:Nat):zar (h.take i)<=zar h:=by
 have:zar h=zar (h.take i)+zar (h.drop i):=by
  unfold zar;rw[<-List.sum_append,<-List.map_append,List.take_append_drop]
 omega
theorem OwnR.cap {size n:Nat} {e:TypeId} {r:Rw} {xs:List Value} (h:OwnR w g e size r n xs):n<=r.cap:=by
 rcases h.2 with ⟨q,J⟩|⟨C,H,A,q,_,_,I,_⟩
 ·omega
 ·simp only[vI] at q;rw[q.2.2];exact I
theorem zez {q:World} {p:Regrown} (h:q=grow (redrawn w p.d) p.os):Bw w q:=by
 rw[h];exact below_regrown w p.d p.os
theorem zb8 {P:Prop} (h: ¬P) (q:W= .returned (.bool false)):SameOut P W:=⟨false,q,by simp[h]⟩
theorem zja {P:Prop} (h:P) (q:W= .returned (.bool true)):SameOut P W:=⟨true,q,by simp[h]⟩
theorem zsY (ac: ∀(x y:Im) (W:World),Sem.run prog (binOp .neq 101 (.agg #[.string x.spec,.string x.first,.string x.loc]) (.agg #[.string y.spec,.string y.first,.string y.loc])) W= .ok (.bool (!zdA x y)) W) (ak: ∀(U:BinOp) (a b:Operand) (x y:Im) (W:World),Sem.run prog (eqGuard U 101 a b (.agg #[.string x.spec,.string x.first,.string x.loc]) (.agg #[.string y.spec,.string y.first,.string y.loc])) W= .ok () W) (ai: ∀(x y:Ep) (W:World),Sem.run prog (binOp .neq 103 (.agg #[.int .i64 x.kind,.string x.name,.string x.loc,.string x.spec]) (.agg #[.int .i64 y.kind,.string y.name,.string y.loc,.string y.spec])) W= .ok (.bool (!zdB x y)) W) (af: ∀(U:BinOp) (a b:Operand) (x y:Ep) (W:World),Sem.run prog (eqGuard U 103 a b (.agg #[.int .i64 x.kind,.string x.name,.string x.loc,.string x.spec]) (.agg #[.int .i64 y.kind,.string y.name,.string y.loc,.string y.spec])) W= .ok () W) (aj: ∀(x y:Sm) (W:World),Sem.run prog (binOp .neq 108 (.agg #[.int .i64 x.kind,.string x.name,.int .i64 x.expr]) (.agg #[.int .i64 y.kind,.string y.name,.int .i64 y.expr])) W= .ok (.bool (!zdC x y)) W) (ae: ∀(U:BinOp) (a b:Operand) (x y:Sm) (W:World),Sem.run prog (eqGuard U 108 a b (.agg #[.int .i64 x.kind,.string x.name,.int .i64 x.expr]) (.agg #[.int .i64 y.kind,.string y.name,.int .i64 y.expr])) W= .ok () W) (ah: ∀(x y:Ex) (W:World),Sem.run prog (binOp .neq 106 (.agg #[.int .i64 x.kind,.int .i64 x.num,.string x.name,.string x.field,.int .i64 x.l,.int .i64 x.r]) (.agg #[.int .i64 y.kind,.int .i64 y.num,.string y.name,.string y.field,.int .i64 y.l,.int .i64 y.r])) W= .ok (.bool (!zdD x y)) W) (ad: ∀(U:BinOp) (a b:Operand) (x y:Ex) (W:World),Sem.run prog (eqGuard U 106 a b (.agg #[.int .i64 x.kind,.int .i64 x.num,.string x.name,.string x.field,.int .i64 x.l,.int .i64 x.r]) (.agg #[.int .i64 y.kind,.int .i64 y.num,.string y.name,.string y.field,.int .i64 y.l,.int .i64 y.r])) W= .ok () W) (b1 b2:Nat) (S1 S2:Sv) (q J:Md) (w:World) (N:OwnMd w b1 S1 q) (M:OwnMd w b2 S2 J) (hf:zeq q):
  Calls prog 70 #[zo S1 q,zo S2 J] w fun e w'=>SameOut (q=J) e/\Bw w w':=by
 have H1:=zc N;have H2:=zc M;obtain⟨f1,f2,f3,f4,f5⟩:=hf;clear N M;unfold zo;go_enter func70,ntmps70;go_upto_region 1 with fail;refine zp (R:=TwoM w b1 b2 S1 S2 q J) (ziH w b1 b2 S1 S2 q J H1.o H2.o) ?_;clear H1 H2;intro w0 h;have T:=zc h;clear h;obtain⟨c0,c1,c2,c3,c4,cf⟩:=zl T.o.1;obtain⟨d0,d1,d2,d3,d4,df⟩:=zl T.o.2.1;by_cases q0:(q.rq.length:Int)=(J.rq.length:Int)
 case neg=>
  go_wp2;go_ret;exact⟨⟨false,rfl,⟨fun k=>(by cases k),fun k=>absurd (by rw[k]) q0⟩⟩,T.o.2.2.2.2⟩
 by_cases q1:(q.im.length:Int)=(J.im.length:Int)
 case neg=>
  go_wp2;go_ret;exact⟨⟨false,rfl,⟨fun k=>(by cases k),fun k=>absurd (by rw[k]) q1⟩⟩,T.o.2.2.2.2⟩
 by_cases q2:(q.ep.length:Int)=(J.ep.length:Int)
 case neg=>
  go_wp2;go_ret;exact⟨⟨false,rfl,⟨fun k=>(by cases k),fun k=>absurd (by rw[k]) q2⟩⟩,T.o.2.2.2.2⟩
 by_cases q3:(q.st.length:Int)=(J.st.length:Int)
 case neg=>
  go_wp2;go_ret;exact⟨⟨false,rfl,⟨fun k=>(by cases k),fun k=>absurd (by rw[k]) q3⟩⟩,T.o.2.2.2.2⟩
 by_cases q4:(q.ex.length:Int)=(J.ex.length:Int)
 case neg=>
  go_wp2;go_ret;exact⟨⟨false,rfl,⟨fun k=>(by cases k),fun k=>absurd (by rw[k]) q4⟩⟩,T.o.2.2.2.2⟩
 go_wp2;go_loopg [5] q.rq.length (fun k i wr=>∃j:Nat,i= .int .i64 j/\j+k=q.rq.length/\q.rq.take j=J.rq.take j/\TwoM w b1 b2 S1 S2 q J wr)
 case atStart=>exact⟨0,rfl,by omega,rfl,T.o⟩
 case round=>
  obtain⟨j,rfl,hj,ht,hT⟩:=hrel;clear T c0 c1 c2 c3 c4 cf d0 d1 d2 d3 d4 df;have T:=zc hT;have HT:=zc ht;clear hT ht;obtain⟨c0,c1,c2,c3,c4,cf⟩:=zl T.o.1;obtain⟨d0,d1,d2,d3,d4,df⟩:=zl T.o.2.1;by_cases K:j<q.rq.length
  ·have I:(j:Int)<(q.rq.length:Int):=by omega
   have aa:(j:Int)<(J.rq.length:Int):=by omega
   obtain⟨x,V⟩:=zb4 K;obtain⟨y,Y⟩:=zb4 (show j<J.rq.length by omega);obtain⟨g1,ga,N⟩:=OwnR.elem (f:=(fun x=>[Value.string x])) (m:=1) (fun _=>rfl) (show OwnR wr b1 9 1 S1.rq q.rq.length (q.rq.flatMap (fun x=>[Value.string x])) by rw[<-zfy];exact T.o.2.2.1.rq) V;obtain⟨g2,gb,M⟩:=OwnR.elem (f:=(fun x=>[Value.string x])) (m:=1) (fun _=>rfl) (show OwnR wr b2 9 1 S2.rq J.rq.length (J.rq.flatMap (fun x=>[Value.string x])) by rw[<-zfy];exact T.o.2.2.2.1.rq) Y;rw[ga] at c0;rw[gb] at d0;have C0:=zc (N 0 (by omega));have D0:=zc (M 0 (by omega));have HX:=zc V;have HY:=zc Y;clear N M ga gb V Y;obtain⟨O,L⟩: ∃O,O=j+1:=⟨_,rfl⟩;have ej:(j:Int)+1=(O:Int):=by omega
   have HJ:=zc L;clear L;obtain⟨b,A⟩: ∃b,ziG x y=b:=⟨_,rfl⟩;have al:(x.toList==y.toList)=b:=A;go_wp2;have kc:=cR0 c0;have kd:=cR0 d0;have k0:=cR0 C0.o;have v0:=cR0 D0.o;simp only[Nat.add_zero,Nat.mul_one] at k0 v0;refine wp_region_quiet_below (by kernel_rfl) (by kernel_rfl) ?_
   repeat (go_big_quiet_step (fail))
   refine wpQuiet_nil ?_;intro w2 X;obtain⟨⟨dq,Z⟩,H⟩:=X;have T2:Hid (TwoM w b1 b2 S1 S2 q J w2):=by show TwoM _ _ _ _ _ _ _ _;rw[H];exact T.o.later (below_regrown wr dq Z)
   clear H kc kd c0 c1 c2 c3 c4 cf d0 d1 d2 d3 d4 df k0 v0 C0 D0;cases b with
   |true=>
    go_wp2;go_roundg (gk-1)
    case rel=>exact⟨O,rfl,by have:=HJ.o;omega,by rw[HJ.o];have e:=zhj.1 A;exact zd8 HT.o HX.o (by rw[e];exact HY.o),T2.o⟩
    case measure=>omega
   |false=>
    go_wp2;go_ret;exact⟨⟨false,rfl,⟨fun k=>(by cases k),fun k=>(by have e:=HX.o;rw[k,HY.o] at e;cases e;rw[zhj.2 rfl] at A;cases A)⟩⟩,T2.o.2.2.2.2⟩
  ·have I: ¬(j:Int)<(q.rq.length:Int):=by omega
   obtain rfl:j=q.rq.length:=by omega
   have A0:=zc (zd9 (by omega) HT.o);clear HT I K hj;go_wp2;go_loopg [6] q.im.length (fun k i wr=>∃j:Nat,i= .int .i64 j/\j+k=q.im.length/\q.im.take j=J.im.take j/\TwoM w b1 b2 S1 S2 q J wr)
   case atStart=>exact⟨0,rfl,by omega,rfl,T.o⟩
   case round=>
    obtain⟨j,rfl,hj,ht,hT⟩:=hrel;clear T c0 c1 c2 c3 c4 cf d0 d1 d2 d3 d4 df;have T:=zc hT;have HT:=zc ht;clear hT ht;obtain⟨c0,c1,c2,c3,c4,cf⟩:=zl T.o.1;obtain⟨d0,d1,d2,d3,d4,df⟩:=zl T.o.2.1;by_cases K:j<q.im.length
    ·have I:(j:Int)<(q.im.length:Int):=by omega
     have aa:(j:Int)<(J.im.length:Int):=by omega
     obtain⟨x,V⟩:=zb4 K;obtain⟨y,Y⟩:=zb4 (show j<J.im.length by omega);obtain⟨g1,ga,N⟩:=OwnR.elem (f:=imL) (m:=3) (fun _=>rfl) T.o.2.2.1.im V;obtain⟨g2,gb,M⟩:=OwnR.elem (f:=imL) (m:=3) (fun _=>rfl) T.o.2.2.2.1.im Y;rw[ga] at c1;rw[gb] at d1;have C0:=zc (N 0 (by omega));have D0:=zc (M 0 (by omega));have C1:=zc (N 1 (by omega));have D1:=zc (M 1 (by omega));have C2:=zc (N 2 (by omega));have D2:=zc (M 2 (by omega));have HX:=zc V;have HY:=zc Y;clear N M ga gb V Y;obtain⟨O,L⟩: ∃O,O=j+1:=⟨_,rfl⟩;have ej:(j:Int)+1=(O:Int):=by omega
     have HJ:=zc L;clear L;obtain⟨b,A⟩: ∃b,zdA x y=b:=⟨_,rfl⟩;have ab: ∀W:World,Sem.run prog (binOp .neq 101 (.agg #[.string x.spec,.string x.first,.string x.loc]) (.agg #[.string y.spec,.string y.first,.string y.loc])) W= .ok (.bool !b) W:=fun W=>by rw[ac,A]
     have ag: ∀(U:BinOp) (a b:Operand) (W:World),Sem.run prog (eqGuard U 101 a b (.agg #[.string x.spec,.string x.first,.string x.loc]) (.agg #[.string y.spec,.string y.first,.string y.loc])) W= .ok () W:=fun U a b W=>ak U a b x y W;go_wp2;have kc:=cR0 c1;have kd:=cR0 d1;have k0:=cR0 C0.o;have v0:=cR0 D0.o;have k1:=cR0 C1.o;have v1:=cR0 D1.o;have k2:=cR0 C2.o;have v2:=cR0 D2.o;simp only[Nat.add_zero] at k0 v0;refine wp_region_quiet_below (by kernel_rfl) (by kernel_rfl) ?_
     repeat (go_big_quiet_step (fail))
     refine wpQuiet_nil ?_;intro w2 X;obtain⟨⟨dq,Z⟩,H⟩:=X;have T2:Hid (TwoM w b1 b2 S1 S2 q J w2):=by show TwoM _ _ _ _ _ _ _ _;rw[H];exact T.o.later (below_regrown wr dq Z)
     clear H kc kd c0 c1 c2 c3 c4 cf d0 d1 d2 d3 d4 df k0 v0 C0 D0 k1 v1 C1 D1 k2 v2 C2 D2;cases b with
     |true=>
      go_wp2;go_roundg (gk-1)
      case rel=>exact⟨O,rfl,by have:=HJ.o;omega,by rw[HJ.o];have e:=zhk.1 A;exact zd8 HT.o HX.o (by rw[e];exact HY.o),T2.o⟩
      case measure=>omega
     |false=>
      go_wp2;go_ret;exact⟨⟨false,rfl,⟨fun k=>(by cases k),fun k=>(by have e:=HX.o;rw[k,HY.o] at e;cases e;rw[zhk.2 rfl] at A;cases A)⟩⟩,T2.o.2.2.2.2⟩
    ·have I: ¬(j:Int)<(q.im.length:Int):=by omega
     obtain rfl:j=q.im.length:=by omega
     have A1:=zc (zd9 (by omega) HT.o);clear HT I K hj;go_wp2;go_loopg [7] q.ep.length (fun k i wr=>∃j:Nat,i= .int .i64 j/\j+k=q.ep.length/\q.ep.take j=J.ep.take j/\TwoM w b1 b2 S1 S2 q J wr)
     case atStart=>exact⟨0,rfl,by omega,rfl,T.o⟩
     case round=>
      obtain⟨j,rfl,hj,ht,hT⟩:=hrel;clear T c0 c1 c2 c3 c4 cf d0 d1 d2 d3 d4 df;have T:=zc hT;have HT:=zc ht;clear hT ht;obtain⟨c0,c1,c2,c3,c4,cf⟩:=zl T.o.1;obtain⟨d0,d1,d2,d3,d4,df⟩:=zl T.o.2.1;by_cases K:j<q.ep.length
      ·have I:(j:Int)<(q.ep.length:Int):=by omega
       have aa:(j:Int)<(J.ep.length:Int):=by omega
       obtain⟨x,V⟩:=zb4 K;obtain⟨y,Y⟩:=zb4 (show j<J.ep.length by omega);obtain⟨g1,ga,N⟩:=OwnR.elem (f:=epL) (m:=4) (fun _=>rfl) T.o.2.2.1.ep V;obtain⟨g2,gb,M⟩:=OwnR.elem (f:=epL) (m:=4) (fun _=>rfl) T.o.2.2.2.1.ep Y;rw[ga] at c2;rw[gb] at d2;have C0:=zc (N 0 (by omega));have D0:=zc (M 0 (by omega));have C1:=zc (N 1 (by omega));have D1:=zc (M 1 (by omega));have C2:=zc (N 2 (by omega));have D2:=zc (M 2 (by omega));have C3:=zc (N 3 (by omega));have D3:=zc (M 3 (by omega));have HX:=zc V;have HY:=zc Y;clear N M ga gb V Y;obtain⟨O,L⟩: ∃O,O=j+1:=⟨_,rfl⟩;have ej:(j:Int)+1=(O:Int):=by omega
       have HJ:=zc L;clear L;obtain⟨b,A⟩: ∃b,zdB x y=b:=⟨_,rfl⟩;have ab: ∀W:World,Sem.run prog (binOp .neq 103 (.agg #[.int .i64 x.kind,.string x.name,.string x.loc,.string x.spec]) (.agg #[.int .i64 y.kind,.string y.name,.string y.loc,.string y.spec])) W= .ok (.bool !b) W:=fun W=>by rw[ai,A]
       have ag: ∀(U:BinOp) (a b:Operand) (W:World),Sem.run prog (eqGuard U 103 a b (.agg #[.int .i64 x.kind,.string x.name,.string x.loc,.string x.spec]) (.agg #[.int .i64 y.kind,.string y.name,.string y.loc,.string y.spec])) W= .ok () W:=fun U a b W=>af U a b x y W;go_wp2;have kc:=cR0 c2;have kd:=cR0 d2;have k0:=cR0 C0.o;have v0:=cR0 D0.o;have k1:=cR0 C1.o;have v1:=cR0 D1.o;have k2:=cR0 C2.o;have v2:=cR0 D2.o;have k3:=cR0 C3.o;have v3:=cR0 D3.o;simp only[Nat.add_zero] at k0 v0;refine wp_region_quiet_below (by kernel_rfl) (by kernel_rfl) ?_
       repeat (go_big_quiet_step (fail))
       refine wpQuiet_nil ?_;intro w2 X;obtain⟨⟨dq,Z⟩,H⟩:=X;have T2:Hid (TwoM w b1 b2 S1 S2 q J w2):=by show TwoM _ _ _ _ _ _ _ _;rw[H];exact T.o.later (below_regrown wr dq Z)
       clear H kc kd c0 c1 c2 c3 c4 cf d0 d1 d2 d3 d4 df k0 v0 C0 D0 k1 v1 C1 D1 k2 v2 C2 D2 k3 v3 C3 D3;cases b with
       |true=>
        go_wp2;go_roundg (gk-1)
        case rel=>exact⟨O,rfl,by have:=HJ.o;omega,by rw[HJ.o];have e:=zhl.1 A;exact zd8 HT.o HX.o (by rw[e];exact HY.o),T2.o⟩
        case measure=>omega
       |false=>
        go_wp2;go_ret;exact⟨⟨false,rfl,⟨fun k=>(by cases k),fun k=>(by have e:=HX.o;rw[k,HY.o] at e;cases e;rw[zhl.2 rfl] at A;cases A)⟩⟩,T2.o.2.2.2.2⟩
      ·have I: ¬(j:Int)<(q.ep.length:Int):=by omega
       obtain rfl:j=q.ep.length:=by omega
       have A2:=zc (zd9 (by omega) HT.o);clear HT I K hj;go_wp2;go_loopg [8] q.st.length (fun k i wr=>∃j:Nat,i= .int .i64 j/\j+k=q.st.length/\q.st.take j=J.st.take j/\TwoM w b1 b2 S1 S2 q J wr)
       case atStart=>exact⟨0,rfl,by omega,rfl,T.o⟩
       case round=>
        obtain⟨j,rfl,hj,ht,hT⟩:=hrel;clear T c0 c1 c2 c3 c4 cf d0 d1 d2 d3 d4 df;have T:=zc hT;have HT:=zc ht;clear hT ht;obtain⟨c0,c1,c2,c3,c4,cf⟩:=zl T.o.1;obtain⟨d0,d1,d2,d3,d4,df⟩:=zl T.o.2.1;by_cases K:j<q.st.length
        ·have I:(j:Int)<(q.st.length:Int):=by omega
         have aa:(j:Int)<(J.st.length:Int):=by omega
         obtain⟨x,V⟩:=zb4 K;obtain⟨y,Y⟩:=zb4 (show j<J.st.length by omega);obtain⟨g1,ga,N⟩:=OwnR.elem (f:=smL) (m:=3) (fun _=>rfl) T.o.2.2.1.st V;obtain⟨g2,gb,M⟩:=OwnR.elem (f:=smL) (m:=3) (fun _=>rfl) T.o.2.2.2.1.st Y;rw[ga] at c3;rw[gb] at d3;have C0:=zc (N 0 (by omega));have D0:=zc (M 0 (by omega));have C1:=zc (N 1 (by omega));have D1:=zc (M 1 (by omega));have C2:=zc (N 2 (by omega));have D2:=zc (M 2 (by omega));have HX:=zc V;have HY:=zc Y;clear N M ga gb V Y;obtain⟨O,L⟩: ∃O,O=j+1:=⟨_,rfl⟩;have ej:(j:Int)+1=(O:Int):=by omega
         have HJ:=zc L;clear L;obtain⟨b,A⟩: ∃b,zdC x y=b:=⟨_,rfl⟩;have ab: ∀W:World,Sem.run prog (binOp .neq 108 (.agg #[.int .i64 x.kind,.string x.name,.int .i64 x.expr]) (.agg #[.int .i64 y.kind,.string y.name,.int .i64 y.expr])) W= .ok (.bool !b) W:=fun W=>by rw[aj,A]
         have ag: ∀(U:BinOp) (a b:Operand) (W:World),Sem.run prog (eqGuard U 108 a b (.agg #[.int .i64 x.kind,.string x.name,.int .i64 x.expr]) (.agg #[.int .i64 y.kind,.string y.name,.int .i64 y.expr])) W= .ok () W:=fun U a b W=>ae U a b x y W;go_wp2;have kc:=cR0 c3;have kd:=cR0 d3;have k0:=cR0 C0.o;have v0:=cR0 D0.o;have k1:=cR0 C1.o;have v1:=cR0 D1.o;have k2:=cR0 C2.o;have v2:=cR0 D2.o;simp only[Nat.add_zero] at k0 v0;refine wp_region_quiet_below (by kernel_rfl) (by kernel_rfl) ?_
         repeat (go_big_quiet_step (fail))
         refine wpQuiet_nil ?_;intro w2 X;obtain⟨⟨dq,Z⟩,H⟩:=X;have T2:Hid (TwoM w b1 b2 S1 S2 q J w2):=by show TwoM _ _ _ _ _ _ _ _;rw[H];exact T.o.later (below_regrown wr dq Z)
         clear H kc kd c0 c1 c2 c3 c4 cf d0 d1 d2 d3 d4 df k0 v0 C0 D0 k1 v1 C1 D1 k2 v2 C2 D2;cases b with
         |true=>
          go_wp2;go_roundg (gk-1)
          case rel=>exact⟨O,rfl,by have:=HJ.o;omega,by rw[HJ.o];have e:=zhm.1 A;exact zd8 HT.o HX.o (by rw[e];exact HY.o),T2.o⟩
          case measure=>omega
         |false=>
          go_wp2;go_ret;exact⟨⟨false,rfl,⟨fun k=>(by cases k),fun k=>(by have e:=HX.o;rw[k,HY.o] at e;cases e;rw[zhm.2 rfl] at A;cases A)⟩⟩,T2.o.2.2.2.2⟩
        ·have I: ¬(j:Int)<(q.st.length:Int):=by omega
         obtain rfl:j=q.st.length:=by omega
         have A3:=zc (zd9 (by omega) HT.o);clear HT I K hj;go_wp2;go_loopg [9] q.ex.length (fun k i wr=>∃j:Nat,i= .int .i64 j/\j+k=q.ex.length/\q.ex.take j=J.ex.take j/\TwoM w b1 b2 S1 S2 q J wr)
         case atStart=>exact⟨0,rfl,by omega,rfl,T.o⟩
         case round=>
          obtain⟨j,rfl,hj,ht,hT⟩:=hrel;clear T c0 c1 c2 c3 c4 cf d0 d1 d2 d3 d4 df;have T:=zc hT;have HT:=zc ht;clear hT ht;obtain⟨c0,c1,c2,c3,c4,cf⟩:=zl T.o.1;obtain⟨d0,d1,d2,d3,d4,df⟩:=zl T.o.2.1;by_cases K:j<q.ex.length
          ·have I:(j:Int)<(q.ex.length:Int):=by omega
           have aa:(j:Int)<(J.ex.length:Int):=by omega
           obtain⟨x,V⟩:=zb4 K;obtain⟨y,Y⟩:=zb4 (show j<J.ex.length by omega);obtain⟨g1,ga,N⟩:=OwnR.elem (f:=exL) (m:=6) (fun _=>rfl) T.o.2.2.1.ex V;obtain⟨g2,gb,M⟩:=OwnR.elem (f:=exL) (m:=6) (fun _=>rfl) T.o.2.2.2.1.ex Y;rw[ga] at c4;rw[gb] at d4;have C0:=zc (N 0 (by omega));have D0:=zc (M 0 (by omega));have C1:=zc (N 1 (by omega));have D1:=zc (M 1 (by omega));have C2:=zc (N 2 (by omega));have D2:=zc (M 2 (by omega));have C3:=zc (N 3 (by omega));have D3:=zc (M 3 (by omega));have C4:=zc (N 4 (by omega));have D4:=zc (M 4 (by omega));have C5:=zc (N 5 (by omega));have D5:=zc (M 5 (by omega));have HX:=zc V;have HY:=zc Y;clear N M ga gb V Y;obtain⟨O,L⟩: ∃O,O=j+1:=⟨_,rfl⟩;have ej:(j:Int)+1=(O:Int):=by omega
           have HJ:=zc L;clear L;obtain⟨b,A⟩: ∃b,zdD x y=b:=⟨_,rfl⟩;have ab: ∀W:World,Sem.run prog (binOp .neq 106 (.agg #[.int .i64 x.kind,.int .i64 x.num,.string x.name,.string x.field,.int .i64 x.l,.int .i64 x.r]) (.agg #[.int .i64 y.kind,.int .i64 y.num,.string y.name,.string y.field,.int .i64 y.l,.int .i64 y.r])) W= .ok (.bool !b) W:=fun W=>by rw[ah,A]
           have ag: ∀(U:BinOp) (a b:Operand) (W:World),Sem.run prog (eqGuard U 106 a b (.agg #[.int .i64 x.kind,.int .i64 x.num,.string x.name,.string x.field,.int .i64 x.l,.int .i64 x.r]) (.agg #[.int .i64 y.kind,.int .i64 y.num,.string y.name,.string y.field,.int .i64 y.l,.int .i64 y.r])) W= .ok () W:=fun U a b W=>ad U a b x y W;go_wp2;have kc:=cR0 c4;have kd:=cR0 d4;have k0:=cR0 C0.o;have v0:=cR0 D0.o;have k1:=cR0 C1.o;have v1:=cR0 D1.o;have k2:=cR0 C2.o;have v2:=cR0 D2.o;have k3:=cR0 C3.o;have v3:=cR0 D3.o;have k4:=cR0 C4.o;have v4:=cR0 D4.o;have k5:=cR0 C5.o;have v5:=cR0 D5.o;simp only[Nat.add_zero] at k0 v0;refine wp_region_quiet_below (by kernel_rfl) (by kernel_rfl) ?_
           repeat (go_big_quiet_step (fail))
           refine wpQuiet_nil ?_;intro w2 X;obtain⟨⟨dq,Z⟩,H⟩:=X;have T2:Hid (TwoM w b1 b2 S1 S2 q J w2):=by show TwoM _ _ _ _ _ _ _ _;rw[H];exact T.o.later (below_regrown wr dq Z)
           clear H kc kd c0 c1 c2 c3 c4 cf d0 d1 d2 d3 d4 df k0 v0 C0 D0 k1 v1 C1 D1 k2 v2 C2 D2 k3 v3 C3 D3 k4 v4 C4 D4 k5 v5 C5 D5;cases b with
           |true=>
            go_wp2;go_roundg (gk-1)
            case rel=>exact⟨O,rfl,by have:=HJ.o;omega,by rw[HJ.o];have e:=zhn.1 A;exact zd8 HT.o HX.o (by rw[e];exact HY.o),T2.o⟩
            case measure=>omega
           |false=>
            go_wp2;go_ret;exact⟨⟨false,rfl,⟨fun k=>(by cases k),fun k=>(by have e:=HX.o;rw[k,HY.o] at e;cases e;rw[zhn.2 rfl] at A;cases A)⟩⟩,T2.o.2.2.2.2⟩
          ·have I: ¬(j:Int)<(q.ex.length:Int):=by omega
           obtain rfl:j=q.ex.length:=by omega
           have A4:=zc (zd9 (by omega) HT.o);clear HT I K hj;go_wp2;go_ret;exact⟨⟨true,rfl,⟨fun _=>zla A0.o A1.o A2.o A3.o A4.o,fun _=>rfl⟩⟩,T.o.2.2.2.2⟩
