/- Facts. -/
import Derived.Test.YtegdaafmaookjaaGreatP29
import Derived.Test.YtegdaafmaookjaaGreatP82
namespace Go.Proofs.YtegdaafmaookjaaGreat
open Go.Proofs.Tryz
set_option maxRecDepth 100000
set_option maxHeartbeats 6400000
open Go.RowKit Go.PlainAid Go.Sort
theorem zy2 (q A:Option Addr) (H h:Nat) (w:World):Calls prog 51 #[.slice q 0 H,.slice A 0 h] w fun e w'=>e= .returned (.bool true)/\Bw w w':=by
 go_enter func51,ntmps51;go_wp2;go_loopg [5] 1 (fun k i wr=>k=1/\i= .int .i64 0/\wr=w)
 case atStart=>exact⟨rfl,rfl,rfl⟩
 case round=>
  obtain⟨rfl,rfl,rfl⟩:=hrel;go_wp2;go_ret;exact⟨rfl,Below.refl _ _⟩
variable (w:World) (g b:Nat) (W C:GS) {q:World} {c:Nat}
theorem zy3 (g1 g2:Nat) (Y r2:Rw) (U V:List Sv) (l:List Md) (w:World) (hu:U.length=l.length) (hv:V.length=l.length) (q:OwnR w g 59 5 Y l.length ((U.zip l).flatMap mdL)) (h:OwnR w b 59 5 r2 l.length ((V.zip l).flatMap mdL)) (m1: ∀x∈U.zip l,OwnMd w g x.1 x.2) (m2: ∀x∈V.zip l,OwnMd w b x.1 x.2) (e1:Y.a=some ⟨g1,0,none⟩) (e2:r2.a=some ⟨g2,0,none⟩) (hl:l.length<=4294967296) (hf: ∀m∈l,zeq m):
  Calls prog 51 #[.slice (some ⟨g1,0,none⟩) l.length Y.cap,.slice (some ⟨g2,0,none⟩) l.length r2.cap] w fun e w'=>e= .returned (.bool true)/\Bw w w':=by
 have H1:=zc (zey hu q);have H2:=zc (zey hv h);have M1:=zc m1;have M2:=zc m2;have E1:=zc e1;have E2:=zc e2;have HU:=zc hu;have HV:=zc hv;have HF:=zc hf;clear q h e1 e2 m1 m2 hu hv hf;go_enter func51,ntmps51;go_wp2;go_loopg [5] l.length (fun k i wr=>∃j:Nat,i= .int .i64 j/\j+k=l.length/\Bw w wr)
 case atStart=>exact⟨0,rfl,by omega,Below.refl _ _⟩
 case round=>
  obtain⟨j,rfl,hj,hb⟩:=hrel;have H:=zc hb;clear hb;by_cases O:j<l.length
  ·have J:(j:Int)<(l.length:Int):=by omega
   obtain⟨x,M⟩:=zeR O;obtain⟨s,hs⟩:=zec HU.o M;obtain⟨t,Z⟩:=zec HV.o M;obtain⟨g',ga,q⟩:=OwnR.elem (f:=mdL) (m:=5) (fun _=>rfl) (H1.o.later H.o) hs;obtain rfl:g'=g1:=by have:=ga.symm.trans E1.o;simpa using this
   obtain⟨g',gb,h⟩:=OwnR.elem (f:=mdL) (m:=5) (fun _=>rfl) (H2.o.later H.o) Z;obtain rfl:g'=g2:=by have:=gb.symm.trans E2.o;simpa using this
   have cQ: ∀d L,Calls prog 82 #[zo s x,zo t x] (grow (redrawn wr d) L) fun e ac=>e= .returned (.bool true)/\∃p:Regrown,ac=grow (redrawn wr p.d) p.os:=fun d L=>Calls.regrown_of (zy1 g b s t x _ (((M1.o _ (mG hs)).later H.o).later (below_regrown wr d L)) (((M2.o _ (mG Z)).later H.o).later (below_regrown wr d L)) (HF.o x (mG M)));unfold zo at cQ;have C0:=zc (q 0 (by omega));have D0:=zc (h 0 (by omega));have C1:=zc (q 1 (by omega));have D1:=zc (h 1 (by omega));have C2:=zc (q 2 (by omega));have D2:=zc (h 2 (by omega));have C3:=zc (q 3 (by omega));have D3:=zc (h 3 (by omega));have C4:=zc (q 4 (by omega));have D4:=zc (h 4 (by omega));clear q h ga gb M hs Z;obtain⟨K,I⟩: ∃K,K=j+1:=⟨_,rfl⟩;have ej:(j:Int)+1=(K:Int):=by omega
   have HJ:=zc I;clear I;go_wp2;have k0:=cR0 C0.o;have l0:=cR0 D0.o;have k1:=cR0 C1.o;have l1:=cR0 D1.o;have k2:=cR0 C2.o;have l2:=cR0 D2.o;have k3:=cR0 C3.o;have l3:=cR0 D3.o;have k4:=cR0 C4.o;have l4:=cR0 D4.o;simp only[Nat.add_zero] at k0 l0;refine wp_region_quiet_below (by kernel_rfl) (by kernel_rfl) ?_
   repeat (go_big_quiet_step (exact cQ _ _))
   refine wpQuiet_nil ?_;intro w2 N;obtain⟨⟨dq,aa⟩,A⟩:=N;have ab:Hid (Bw w w2):=by show Below _ _ _;rw[A];exact H.o.trans ((below_regrown wr dq aa).mono H.o.size)
   clear A k0 l0 C0 D0 k1 l1 C1 D1 k2 l2 C2 D2 k3 l3 C3 D3 k4 l4 C4 D4 cQ;go_wp2;go_roundg (gk-1)
   case rel=>exact⟨K,rfl,by have:=HJ.o;omega,ab.o⟩
   case measure=>omega
  ·have J: ¬(j:Int)<(l.length:Int):=by omega
   go_wp2;go_ret;exact⟨rfl,H.o⟩
def zia (g:Gr):Prop:=g.ps.length<=4294967296/\g.ms.length<=4294967296/\g.ls.length<=4294967296/\∀m∈g.ms,zeq m
theorem zy4 (z:Gr) (w:World) (H:GrOwn w g W z) (A:GrOwn w b C z) (J:zia z):
  Calls prog 51 #[.slice W.mr.a z.ms.length W.mr.cap,.slice C.mr.a z.ms.length C.mr.cap] w fun e w'=>e= .returned (.bool true)/\Bw w w':=by
 by_cases I:z.ms.length=0
 ·rw[I];exact zy2 _ _ _ _ w
 ·rcases H.ms.nil_or with ⟨_,_,e⟩|⟨O,L⟩
  ·exact absurd e I
  ·rcases A.ms.nil_or with ⟨_,_,e⟩|⟨N,M⟩
   ·exact absurd e I
   ·rw[L,M];exact zy3 g b O N W.mr C.mr W.sv C.sv z.ms w H.len A.len H.ms A.ms H.md A.md L M J.2.1 J.2.2.2
structure TwoG (w0:World) (b1 b2:Nat) (G1 G2:GS) (g:Gr) (w:World):Prop where
 x:Bk w w0.heap.size (grC G1 g) 32
 y:Bk w (w0.heap.size+1) (grC G2 g) 32
 o1:GrOwn w b1 G1 g
 o2:GrOwn w b2 G2 g
 b:Bw w0 w
theorem TwoG.later {w w':World} {b2:Nat} {A H:GS} {g:Gr} (h:TwoG q c b2 A H g w) (z:Bw w w'):TwoG q c b2 A H g w':=⟨h.x.later z,h.y.later z,h.o1.later z,h.o2.later z,zi h.b z⟩
theorem zy5 (z:Gr) (K:GrOwn w g W z) (J:GrOwn w b C z):TwoG w g b W C z ((w.alloc (.cells (grC W z) 32)).alloc (.cells (grC C z) 32)):=by
 have H:=zn w (.cells (grC W z) 32);have A:=zn (w.alloc (.cells (grC W z) 32)) (.cells (grC C z) 32);refine⟨Bk.later (hN0 w _) A,?_,(K.later H).later A,(J.later H).later A,zi H A⟩;have:=hN0 (w.alloc (.cells (grC W z) 32)) (.cells (grC C z) 32);rw[zh] at this;exact this
theorem zfe (b2:Nat) (H A:GS) (z:Gr) (w:World) (h1:GrOwn w g H z) (h2:GrOwn w b2 A z) (hf:zia z):
  Calls prog 14 #[grD H z,grD A z] w fun e w'=>e= .returned (.bool true)/\Bw w w':=by
 have H1:=zc h1;have H2:=zc h2;have HF:=zc hf;clear h1 h2 hf;unfold grD;go_enter func14,ntmps14;go_upto_region 1 with fail;refine zp (R:=TwoG w g b2 H A z) (zy5 w g b2 H A z H1.o H2.o) ?_;clear H1 H2;intro w0 h;have K:=zc h;clear h;obtain⟨Z,U,V,Y⟩:=zg K.o.x;obtain⟨X,O,N,M⟩:=zg K.o.y;go_wp2_with fail;refine (zlC g b2 H.pr A.pr z.ps w0 K.o.o1.ps K.o.o2.ps HF.o.1).mono ?_;rintro e w1 ⟨rfl,q⟩;have J:=zc (K.o.later q);clear q Z U V Y X O N M K;obtain⟨Z,U,V,Y⟩:=zg J.o.x;obtain⟨X,O,N,M⟩:=zg J.o.y;go_wp2_with fail;refine (zy4 g b2 H A z w1 J.o.o1 J.o.o2 HF.o).mono ?_;rintro e w2 ⟨rfl,q⟩;have L:=zc (J.o.later q);clear q Z U V Y X O N M J;obtain⟨Z,U,V,Y⟩:=zg L.o.x;obtain⟨X,O,N,M⟩:=zg L.o.y;go_wp2_with fail;refine (zsD g b2 H.lr A.lr z.ls w2 L.o.o1.ls L.o.o2.ls HF.o.2.2.1).mono ?_;rintro e w3 ⟨rfl,q⟩;have T3:=zc (L.o.later q);clear q Z U V Y X O N M L;go_wp2;go_ret;exact⟨rfl,T3.o.b⟩
open Go.Deep
theorem zff {H:Type} {enc:TypeId×Value->H} {s:Nat->Bool} {I:Bool} {M:Nat} {K:List Value} {z:DataW H×List MemPlace} (h:DataW.trod enc prog q c s I M 26 K=some z):
  ∃(A:GA) (g:Gr),K=(grA A g).cells.toList/\GrIn q A g/\BigG A g/\∀x∈A.ms,zay x.2.ex:=by
 obtain⟨xs,k,_,_,J,V,Y⟩:=DataW.trod_struct underlying26 h;have cM:prog.cellsOf 26=3:=by kernel_rfl
 rw[cM] at J;have k0:prog.cellsOf 22=1:=by kernel_rfl
 have k1:prog.cellsOf 23=1:=by kernel_rfl
 have k2:prog.cellsOf 24=1:=by kernel_rfl
 obtain⟨U,N,O,rfl⟩:=list3 J;obtain⟨y0,y1,y2,rfl⟩:=list3 (V.trans rfl);have g0:DataW.trod enc prog q c s I k 22 (List.take (prog.cellsOf 22) (List.drop 0 [U,N,O]))=some y0:=Y 0 _ rfl;rw[k0] at g0;have g1:DataW.trod enc prog q c s I k 23 (List.take (prog.cellsOf 23) (List.drop 1 [U,N,O]))=some y1:=Y 1 _ rfl;rw[k1] at g1;have g2:DataW.trod enc prog q c s I k 24 (List.take (prog.cellsOf 24) (List.drop 2 [U,N,O]))=some y2:=Y 2 _ rfl;rw[k2] at g2;obtain⟨a0,c0,l0,e0,b0,r0,q0⟩:=zeu sNone (α:=BA0) (f:=(fun x=>[Value.string x])) (m:=1) (Q:=zew) (by omega) (fun _=>rfl) underlying22 (by kernel_rfl) (fun n K y h J=>zlG h J) (show DataW.trod enc prog q c s I k 22 [U]=some y0 from g0);subst e0
 obtain⟨a1,c1,Z,e1,b1,r1,X⟩:=zeu (⟨none,none,none,none,none,0,0,0,0,0⟩,⟨[],[],[],[],[]⟩) (α:=MA×Md) (f:=maL) (m:=5) (Q:=fun x=>ModIn q x.1 x.2/\zgw x.2/\zay x.2.ex) (by omega) (fun _=>rfl) underlying23 (by kernel_rfl) (fun n K y h _=>by
  obtain⟨A,m,e,hm⟩:=zs5 h
  exact⟨(A,m),e,hm⟩) (show DataW.trod enc prog q c s I k 23 [N]=some y1 from g1)
 subst e1;obtain⟨a2,c2,l2,e2,b2,r2,q2⟩:=zeu ⟨0,sNone,0⟩ (α:=Lk) (f:=lkL) (m:=3) (Q:=zeS) (by omega) (fun _=>rfl) underlying24 (by kernel_rfl) (fun n K y h J=>zsE h J) (show DataW.trod enc prog q c s I k 24 [O]=some y2 from g2);subst e2;unfold maxLen at b0 b1 b2;exact⟨⟨a0,c0,a1,c1,a2,c2,Z⟩,⟨l0,Z.map (·.2),l2⟩,rfl,⟨r0,r1,fun x L=>(X x L).1,r2,rfl⟩,⟨by show l0.length<=_;omega,q0,by show Z.length<=_;omega,fun x L=>(X x L).2.1,by show l2.length<=_;omega,q2⟩,fun x L=>(X x L).2.2⟩
