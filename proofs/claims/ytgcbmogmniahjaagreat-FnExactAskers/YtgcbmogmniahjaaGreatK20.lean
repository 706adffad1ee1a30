/- Facts and walks. -/
import Derived.Laws.OwnMore
import Derived.Test.YtgcbmogmniahjaaGreatK15
namespace Go.Proofs.YtgcbmogmniahjaaGreat
open Go.Proofs.Tryz
set_option maxRecDepth 100000
set_option maxHeartbeats 3200000
open Go.RowKit Go.PlainAid Go.Sort
theorem ze3 {α:Type} {l:List α} {j:Nat} (h:j<l.length): ∃x,l[j]? =some x:=⟨_,List.getElem?_eq_getElem h⟩
variable (g b:Nat) (w W:Option Addr) (c d:Nat) (C S:Rw)
theorem zqy (s:World):Calls prog 38 #[.slice w 0 c,.slice W 0 d] s fun e q=>e= .returned (.bool true)/\Bw s q:=by
 go_enter func38,ntmps38;go_wp2;go_loopg [5] 1 (fun k i wr=>k=1/\i= .int .i64 0/\wr=s)
 case atStart=>exact⟨rfl,rfl,rfl⟩
 case round=>
  obtain⟨rfl,rfl,rfl⟩:=hrel;go_wp2;go_ret;exact⟨rfl,Below.refl _ _⟩
theorem zqz (l:List BA) (w:World) (D:OwnR w g 9 1 C l.length (l.flatMap (fun x=>[Value.string x]))) (q:OwnR w b 9 1 S l.length (l.flatMap (fun x=>[Value.string x]))) (e1:C.a=some ⟨c,0,none⟩) (e2:S.a=some ⟨d,0,none⟩) (hl:l.length<=4294967296):
  Calls prog 38 #[.slice (some ⟨c,0,none⟩) l.length C.cap,.slice (some ⟨d,0,none⟩) l.length S.cap] w fun e w'=>e= .returned (.bool true)/\Bw w w':=by
 have H1:=zc D;have H2:=zc q;have E1:=zc e1;have E2:=zc e2;clear D q e1 e2;go_enter func38,ntmps38;go_wp2;go_loopg [5] l.length (fun k i wr=>∃j:Nat,i= .int .i64 j/\j+k=l.length/\Bw w wr)
 case atStart=>exact⟨0,rfl,by omega,Below.refl _ _⟩
 case round=>
  obtain⟨j,rfl,hj,hb⟩:=hrel;have A:=zc hb;clear hb;by_cases J:j<l.length
  ·have E:(j:Int)<(l.length:Int):=by omega
   obtain⟨x,V⟩:=ze3 J;obtain⟨N,Y,D⟩:=OwnR.elem (f:=(fun x=>[Value.string x])) (m:=1) (fun _=>rfl) (H1.o.keep fun k s=>A.o.block k (H1.o.typed s).2.1) V;obtain rfl:N=c:=by have:=Y.symm.trans E1.o;simpa using this
   obtain⟨N,Z,q⟩:=OwnR.elem (f:=(fun x=>[Value.string x])) (m:=1) (fun _=>rfl) (H2.o.keep fun k s=>A.o.block k (H2.o.typed s).2.1) V;obtain rfl:N=d:=by have:=Z.symm.trans E2.o;simpa using this
   have C0:=zc (D 0 (by omega));have D0:=zc (q 0 (by omega));clear D q Y Z V;obtain⟨H,z⟩: ∃H,H=j+1:=⟨_,rfl⟩;have ej:(j:Int)+1=(H:Int):=by omega
   have HJ:=zc z;clear z;go_wp2;have k0:=cell_regrown C0.o;have l0:=cell_regrown D0.o;simp only[Nat.add_zero,Nat.mul_one] at k0 l0;refine wp_region_quiet_below (by kernel_rfl) (by kernel_rfl) ?_
   repeat (go_big_quiet_step (fail))
   refine wpQuiet_nil ?_;intro w2 I;obtain⟨⟨dq,L⟩,h⟩:=I;have U:Hid (Bw w w2):=by show Below _ _ _;rw[h];exact A.o.trans ((below_regrown wr dq L).mono A.o.size)
   clear h k0 l0 C0 D0;go_wp2;go_roundg (gk-1)
   case rel=>exact⟨H,rfl,by have:=HJ.o;omega,U.o⟩
   case measure=>omega
  ·have E: ¬(j:Int)<(l.length:Int):=by omega
   go_wp2;go_ret;exact⟨rfl,A.o⟩
theorem zkF (l:List BA) (w:World) (H:OwnR w g 9 1 C l.length (l.flatMap (fun x=>[Value.string x]))) (E:OwnR w b 9 1 S l.length (l.flatMap (fun x=>[Value.string x]))) (M:l.length<=4294967296):
  Calls prog 38 #[.slice C.a l.length C.cap,.slice S.a l.length S.cap] w fun e L=>e= .returned (.bool true)/\Bw w L:=by
 by_cases z:l.length=0
 ·rw[z];exact zqy _ _ _ _ w
 ·rcases H.nil_or with ⟨_,_,e⟩|⟨K,D⟩
  ·exact absurd e z
  ·rcases E.nil_or with ⟨_,_,e⟩|⟨J,I⟩
   ·exact absurd e z
   ·rw[D,I];exact zqz g b K J C S l w H E D I M
theorem zq0 (x:Im) (w:World):Calls prog 142 #[.agg #[.string x.spec,.string x.first,.string x.loc],.agg #[.string x.spec,.string x.first,.string x.loc]] w fun e h=>e= .returned (.bool true)/\Bw w h:=by
 go_enter func142,ntmps142;go_wp2;go_ret;exact⟨rfl,(bA0).alloc (by show _<=(w.heap.push _).size;simp) _⟩
theorem zq1 (s:World):Calls prog 103 #[.slice w 0 c,.slice W 0 d] s fun e q=>e= .returned (.bool true)/\Bw s q:=by
 go_enter func103,ntmps103;go_wp2;go_loopg [5] 1 (fun k i wr=>k=1/\i= .int .i64 0/\wr=s)
 case atStart=>exact⟨rfl,rfl,rfl⟩
 case round=>
  obtain⟨rfl,rfl,rfl⟩:=hrel;go_wp2;go_ret;exact⟨rfl,Below.refl _ _⟩
theorem zq2 (l:List Im) (w:World) (z:OwnR w g 95 3 C l.length (l.flatMap imL)) (q:OwnR w b 95 3 S l.length (l.flatMap imL)) (e1:C.a=some ⟨c,0,none⟩) (e2:S.a=some ⟨d,0,none⟩) (hl:l.length<=4294967296):
  Calls prog 103 #[.slice (some ⟨c,0,none⟩) l.length C.cap,.slice (some ⟨d,0,none⟩) l.length S.cap] w fun e w'=>e= .returned (.bool true)/\Bw w w':=by
 have H1:=zc z;have H2:=zc q;have E1:=zc e1;have E2:=zc e2;clear z q e1 e2;go_enter func103,ntmps103;go_wp2;go_loopg [5] l.length (fun k i wr=>∃j:Nat,i= .int .i64 j/\j+k=l.length/\Bw w wr)
 case atStart=>exact⟨0,rfl,by omega,Below.refl _ _⟩
 case round=>
  obtain⟨j,rfl,hj,hb⟩:=hrel;have D:=zc hb;clear hb;by_cases J:j<l.length
  ·have E:(j:Int)<(l.length:Int):=by omega
   obtain⟨x,X⟩:=ze3 J;obtain⟨N,Z,z⟩:=OwnR.elem (f:=imL) (m:=3) (fun _=>rfl) (H1.o.keep fun k s=>D.o.block k (H1.o.typed s).2.1) X;obtain rfl:N=c:=by have:=Z.symm.trans E1.o;simpa using this
   obtain⟨N,gb,q⟩:=OwnR.elem (f:=imL) (m:=3) (fun _=>rfl) (H2.o.keep fun k s=>D.o.block k (H2.o.typed s).2.1) X;obtain rfl:N=d:=by have:=gb.symm.trans E2.o;simpa using this
   have C0:=zc (z 0 (by omega));have D0:=zc (q 0 (by omega));have C1:=zc (z 1 (by omega));have D1:=zc (q 1 (by omega));have C2:=zc (z 2 (by omega));have D2:=zc (q 2 (by omega));clear z q Z gb X;have cQ: ∀n os,Calls prog 142 #[.agg #[.string x.spec,.string x.first,.string x.loc],.agg #[.string x.spec,.string x.first,.string x.loc]] (grow (redrawn wr n) os) fun e V=>e= .returned (.bool true)/\∃p:Regrown,V=grow (redrawn wr p.d) p.os:=fun n os=>Calls.regrown_of (zq0 x _);obtain⟨H,A⟩: ∃H,H=j+1:=⟨_,rfl⟩;have ej:(j:Int)+1=(H:Int):=by omega
   have HJ:=zc A;clear A;go_wp2;have k0:=cell_regrown C0.o;have l0:=cell_regrown D0.o;have k1:=cell_regrown C1.o;have l1:=cell_regrown D1.o;have k2:=cell_regrown C2.o;have l2:=cell_regrown D2.o;simp only[Nat.add_zero] at k0 l0;refine wp_region_quiet_below (by kernel_rfl) (by kernel_rfl) ?_
   repeat (go_big_quiet_step (exact cQ _ _))
   refine wpQuiet_nil ?_;intro w2 I;obtain⟨⟨dq,L⟩,h⟩:=I;have U:Hid (Bw w w2):=by show Below _ _ _;rw[h];exact D.o.trans ((below_regrown wr dq L).mono D.o.size)
   clear h k0 l0 C0 D0 k1 l1 C1 D1 k2 l2 C2 D2 cQ;go_wp2;go_roundg (gk-1)
   case rel=>exact⟨H,rfl,by have:=HJ.o;omega,U.o⟩
   case measure=>omega
  ·have E: ¬(j:Int)<(l.length:Int):=by omega
   go_wp2;go_ret;exact⟨rfl,D.o⟩
theorem zq3 (l:List Im) (w:World) (H:OwnR w g 95 3 C l.length (l.flatMap imL)) (E:OwnR w b 95 3 S l.length (l.flatMap imL)) (M:l.length<=4294967296):
  Calls prog 103 #[.slice C.a l.length C.cap,.slice S.a l.length S.cap] w fun e L=>e= .returned (.bool true)/\Bw w L:=by
 by_cases z:l.length=0
 ·rw[z];exact zq1 _ _ _ _ w
 ·rcases H.nil_or with ⟨_,_,e⟩|⟨K,D⟩
  ·exact absurd e z
  ·rcases E.nil_or with ⟨_,_,e⟩|⟨J,I⟩
   ·exact absurd e z
   ·rw[D,I];exact zq2 g b K J C S l w H E D I M
theorem zq4 (x:Ep) (w:World):Calls prog 143 #[.agg #[.int .i64 x.kind,.string x.name,.string x.loc,.string x.spec],.agg #[.int .i64 x.kind,.string x.name,.string x.loc,.string x.spec]] w fun e h=>e= .returned (.bool true)/\Bw w h:=by
 go_enter func143,ntmps143;go_wp2;go_ret;exact⟨rfl,(bA0).alloc (by show _<=(w.heap.push _).size;simp) _⟩
theorem zq5 (s:World):Calls prog 104 #[.slice w 0 c,.slice W 0 d] s fun e q=>e= .returned (.bool true)/\Bw s q:=by
 go_enter func104,ntmps104;go_wp2;go_loopg [5] 1 (fun k i wr=>k=1/\i= .int .i64 0/\wr=s)
 case atStart=>exact⟨rfl,rfl,rfl⟩
 case round=>
  obtain⟨rfl,rfl,rfl⟩:=hrel;go_wp2;go_ret;exact⟨rfl,Below.refl _ _⟩
theorem zq6 (l:List Ep) (w:World) (q:OwnR w g 97 4 C l.length (l.flatMap epL)) (h:OwnR w b 97 4 S l.length (l.flatMap epL)) (e1:C.a=some ⟨c,0,none⟩) (e2:S.a=some ⟨d,0,none⟩) (hl:l.length<=4294967296):
  Calls prog 104 #[.slice (some ⟨c,0,none⟩) l.length C.cap,.slice (some ⟨d,0,none⟩) l.length S.cap] w fun e w'=>e= .returned (.bool true)/\Bw w w':=by
 have H1:=zc q;have H2:=zc h;have E1:=zc e1;have E2:=zc e2;clear q h e1 e2;go_enter func104,ntmps104;go_wp2;go_loopg [5] l.length (fun k i wr=>∃j:Nat,i= .int .i64 j/\j+k=l.length/\Bw w wr)
 case atStart=>exact⟨0,rfl,by omega,Below.refl _ _⟩
 case round=>
  obtain⟨j,rfl,hj,hb⟩:=hrel;have D:=zc hb;clear hb;by_cases J:j<l.length
  ·have E:(j:Int)<(l.length:Int):=by omega
   obtain⟨x,X⟩:=ze3 J;obtain⟨N,Z,q⟩:=OwnR.elem (f:=epL) (m:=4) (fun _=>rfl) (H1.o.keep fun k s=>D.o.block k (H1.o.typed s).2.1) X;obtain rfl:N=c:=by have:=Z.symm.trans E1.o;simpa using this
   obtain⟨N,gb,h⟩:=OwnR.elem (f:=epL) (m:=4) (fun _=>rfl) (H2.o.keep fun k s=>D.o.block k (H2.o.typed s).2.1) X;obtain rfl:N=d:=by have:=gb.symm.trans E2.o;simpa using this
   have C0:=zc (q 0 (by omega));have D0:=zc (h 0 (by omega));have C1:=zc (q 1 (by omega));have D1:=zc (h 1 (by omega));have C2:=zc (q 2 (by omega));have D2:=zc (h 2 (by omega));have C3:=zc (q 3 (by omega));have D3:=zc (h 3 (by omega));clear q h Z gb X;have cQ: ∀n os,Calls prog 143 #[.agg #[.int .i64 x.kind,.string x.name,.string x.loc,.string x.spec],.agg #[.int .i64 x.kind,.string x.name,.string x.loc,.string x.spec]] (grow (redrawn wr n) os) fun e V=>e= .returned (.bool true)/\∃p:Regrown,V=grow (redrawn wr p.d) p.os:=fun n os=>Calls.regrown_of (zq4 x _);obtain⟨H,A⟩: ∃H,H=j+1:=⟨_,rfl⟩;have ej:(j:Int)+1=(H:Int):=by omega
   have HJ:=zc A;clear A;go_wp2;have k0:=cell_regrown C0.o;have l0:=cell_regrown D0.o;have k1:=cell_regrown C1.o;have l1:=cell_regrown D1.o;have k2:=cell_regrown C2.o;have l2:=cell_regrown D2.o;have k3:=cell_regrown C3.o;have l3:=cell_regrown D3.o;simp only[Nat.add_zero] at k0 l0;refine wp_region_quiet_below (by kernel_rfl) (by kernel_rfl) ?_
   repeat (go_big_quiet_step (exact cQ _ _))
   refine wpQuiet_nil ?_;intro w2 I;obtain⟨⟨dq,L⟩,z⟩:=I;have U:Hid (Bw w w2):=by show Below _ _ _;rw[z];exact D.o.trans ((below_regrown wr dq L).mono D.o.size)
   clear z k0 l0 C0 D0 k1 l1 C1 D1 k2 l2 C2 D2 k3 l3 C3 D3 cQ;go_wp2;go_roundg (gk-1)
   case rel=>exact⟨H,rfl,by have:=HJ.o;omega,U.o⟩
   case measure=>omega
  ·have E: ¬(j:Int)<(l.length:Int):=by omega
   go_wp2;go_ret;exact⟨rfl,D.o⟩
theorem zq7 (l:List Ep) (w:World) (H:OwnR w g 97 4 C l.length (l.flatMap epL)) (E:OwnR w b 97 4 S l.length (l.flatMap epL)) (M:l.length<=4294967296):
  Calls prog 104 #[.slice C.a l.length C.cap,.slice S.a l.length S.cap] w fun e L=>e= .returned (.bool true)/\Bw w L:=by
 by_cases z:l.length=0
 ·rw[z];exact zq5 _ _ _ _ w
 ·rcases H.nil_or with ⟨_,_,e⟩|⟨K,D⟩
  ·exact absurd e z
  ·rcases E.nil_or with ⟨_,_,e⟩|⟨J,I⟩
   ·exact absurd e z
   ·rw[D,I];exact zq6 g b K J C S l w H E D I M
theorem zq8 (x:Sm) (w:World):Calls prog 144 #[.agg #[.int .i64 x.kind,.string x.name,.int .i64 x.expr],.agg #[.int .i64 x.kind,.string x.name,.int .i64 x.expr]] w fun e h=>e= .returned (.bool true)/\Bw w h:=by
 go_enter func144,ntmps144;go_wp2;go_ret;exact⟨rfl,(bA0).alloc (by show _<=(w.heap.push _).size;simp) _⟩
theorem zq9 (s:World):Calls prog 105 #[.slice w 0 c,.slice W 0 d] s fun e q=>e= .returned (.bool true)/\Bw s q:=by
 go_enter func105,ntmps105;go_wp2;go_loopg [5] 1 (fun k i wr=>k=1/\i= .int .i64 0/\wr=s)
 case atStart=>exact⟨rfl,rfl,rfl⟩
 case round=>
  obtain⟨rfl,rfl,rfl⟩:=hrel;go_wp2;go_ret;exact⟨rfl,Below.refl _ _⟩
theorem zqA (l:List Sm) (w:World) (z:OwnR w g 102 3 C l.length (l.flatMap smL)) (q:OwnR w b 102 3 S l.length (l.flatMap smL)) (e1:C.a=some ⟨c,0,none⟩) (e2:S.a=some ⟨d,0,none⟩) (hl:l.length<=4294967296):
  Calls prog 105 #[.slice (some ⟨c,0,none⟩) l.length C.cap,.slice (some ⟨d,0,none⟩) l.length S.cap] w fun e w'=>e= .returned (.bool true)/\Bw w w':=by
 have H1:=zc z;have H2:=zc q;have E1:=zc e1;have E2:=zc e2;clear z q e1 e2;go_enter func105,ntmps105;go_wp2;go_loopg [5] l.length (fun k i wr=>∃j:Nat,i= .int .i64 j/\j+k=l.length/\Bw w wr)
 case atStart=>exact⟨0,rfl,by omega,Below.refl _ _⟩
 case round=>
  obtain⟨j,rfl,hj,hb⟩:=hrel;have D:=zc hb;clear hb;by_cases J:j<l.length
  ·have E:(j:Int)<(l.length:Int):=by omega
   obtain⟨x,X⟩:=ze3 J;obtain⟨N,Z,z⟩:=OwnR.elem (f:=smL) (m:=3) (fun _=>rfl) (H1.o.keep fun k s=>D.o.block k (H1.o.typed s).2.1) X;obtain rfl:N=c:=by have:=Z.symm.trans E1.o;simpa using this
   obtain⟨N,gb,q⟩:=OwnR.elem (f:=smL) (m:=3) (fun _=>rfl) (H2.o.keep fun k s=>D.o.block k (H2.o.typed s).2.1) X;obtain rfl:N=d:=by have:=gb.symm.trans E2.o;simpa using this
   have C0:=zc (z 0 (by omega));have D0:=zc (q 0 (by omega));have C1:=zc (z 1 (by omega));have D1:=zc (q 1 (by omega));have C2:=zc (z 2 (by omega));have D2:=zc (q 2 (by omega));clear z q Z gb X;have cQ: ∀n os,Calls prog 144 #[.agg #[.int .i64 x.kind,.string x.name,.int .i64 x.expr],.agg #[.int .i64 x.kind,.string x.name,.int .i64 x.expr]] (grow (redrawn wr n) os) fun e V=>e= .returned (.bool true)/\∃p:Regrown,V=grow (redrawn wr p.d) p.os:=fun n os=>Calls.regrown_of (zq8 x _);obtain⟨H,A⟩: ∃H,H=j+1:=⟨_,rfl⟩;have ej:(j:Int)+1=(H:Int):=by omega
   have HJ:=zc A;clear A;go_wp2;have k0:=cell_regrown C0.o;have l0:=cell_regrown D0.o;have k1:=cell_regrown C1.o;have l1:=cell_regrown D1.o;have k2:=cell_regrown C2.o;have l2:=cell_regrown D2.o;simp only[Nat.add_zero] at k0 l0;refine wp_region_quiet_below (by kernel_rfl) (by kernel_rfl) ?_
   repeat (go_big_quiet_step (exact cQ _ _))
   refine wpQuiet_nil ?_;intro w2 I;obtain⟨⟨dq,L⟩,h⟩:=I;have U:Hid (Bw w w2):=by show Below _ _ _;rw[h];exact D.o.trans ((below_regrown wr dq L).mono D.o.size)
   clear h k0 l0 C0 D0 k1 l1 C1 D1 k2 l2 C2 D2 cQ;go_wp2;go_roundg (gk-1)
   case rel=>exact⟨H,rfl,by have:=HJ.o;omega,U.o⟩
   case measure=>omega
  ·have E: ¬(j:Int)<(l.length:Int):=by omega
   go_wp2;go_ret;exact⟨rfl,D.o⟩
theorem zqB (l:List Sm) (w:World) (H:OwnR w g 102 3 C l.length (l.flatMap smL)) (E:OwnR w b 102 3 S l.length (l.flatMap smL)) (M:l.length<=4294967296):
  Calls prog 105 #[.slice C.a l.length C.cap,.slice S.a l.length S.cap] w fun e L=>e= .returned (.bool true)/\Bw w L:=by
 by_cases z:l.length=0
 ·rw[z];exact zq9 _ _ _ _ w
 ·rcases H.nil_or with ⟨_,_,e⟩|⟨K,D⟩
  ·exact absurd e z
  ·rcases E.nil_or with ⟨_,_,e⟩|⟨J,I⟩
   ·exact absurd e z
   ·rw[D,I];exact zqA g b K J C S l w H E D I M
theorem zqC (x:Ex) (w:World):Calls prog 145 #[.agg #[.int .i64 x.kind,.int .i64 x.num,.string x.name,.string x.field,.int .i64 x.l,.int .i64 x.r],.agg #[.int .i64 x.kind,.int .i64 x.num,.string x.name,.string x.field,.int .i64 x.l,.int .i64 x.r]] w fun e h=>e= .returned (.bool true)/\Bw w h:=by
 go_enter func145,ntmps145;go_wp2;go_ret;exact⟨rfl,(bA0).alloc (by show _<=(w.heap.push _).size;simp) _⟩
theorem zqD (s:World):Calls prog 106 #[.slice w 0 c,.slice W 0 d] s fun e q=>e= .returned (.bool true)/\Bw s q:=by
 go_enter func106,ntmps106;go_wp2;go_loopg [5] 1 (fun k i wr=>k=1/\i= .int .i64 0/\wr=s)
 case atStart=>exact⟨rfl,rfl,rfl⟩
 case round=>
  obtain⟨rfl,rfl,rfl⟩:=hrel;go_wp2;go_ret;exact⟨rfl,Below.refl _ _⟩
theorem zqE (l:List Ex) (w:World) (q:OwnR w g 100 6 C l.length (l.flatMap exL)) (h:OwnR w b 100 6 S l.length (l.flatMap exL)) (e1:C.a=some ⟨c,0,none⟩) (e2:S.a=some ⟨d,0,none⟩) (hl:l.length<=4294967296):
  Calls prog 106 #[.slice (some ⟨c,0,none⟩) l.length C.cap,.slice (some ⟨d,0,none⟩) l.length S.cap] w fun e w'=>e= .returned (.bool true)/\Bw w w':=by
 have H1:=zc q;have H2:=zc h;have E1:=zc e1;have E2:=zc e2;clear q h e1 e2;go_enter func106,ntmps106;go_wp2;go_loopg [5] l.length (fun k i wr=>∃j:Nat,i= .int .i64 j/\j+k=l.length/\Bw w wr)
 case atStart=>exact⟨0,rfl,by omega,Below.refl _ _⟩
 case round=>
  obtain⟨j,rfl,hj,hb⟩:=hrel;have D:=zc hb;clear hb;by_cases J:j<l.length
  ·have E:(j:Int)<(l.length:Int):=by omega
   obtain⟨x,X⟩:=ze3 J;obtain⟨N,Z,q⟩:=OwnR.elem (f:=exL) (m:=6) (fun _=>rfl) (H1.o.keep fun k s=>D.o.block k (H1.o.typed s).2.1) X;obtain rfl:N=c:=by have:=Z.symm.trans E1.o;simpa using this
   obtain⟨N,gb,h⟩:=OwnR.elem (f:=exL) (m:=6) (fun _=>rfl) (H2.o.keep fun k s=>D.o.block k (H2.o.typed s).2.1) X;obtain rfl:N=d:=by have:=gb.symm.trans E2.o;simpa using this
   have C0:=zc (q 0 (by omega));have D0:=zc (h 0 (by omega));have C1:=zc (q 1 (by omega));have D1:=zc (h 1 (by omega));have C2:=zc (q 2 (by omega));have D2:=zc (h 2 (by omega));have C3:=zc (q 3 (by omega));have D3:=zc (h 3 (by omega));have C4:=zc (q 4 (by omega));have D4:=zc (h 4 (by omega));have C5:=zc (q 5 (by omega));have D5:=zc (h 5 (by omega));clear q h Z gb X;have cQ: ∀n os,Calls prog 145 #[.agg #[.int .i64 x.kind,.int .i64 x.num,.string x.name,.string x.field,.int .i64 x.l,.int .i64 x.r],.agg #[.int .i64 x.kind,.int .i64 x.num,.string x.name,.string x.field,.int .i64 x.l,.int .i64 x.r]] (grow (redrawn wr n) os) fun e V=>e= .returned (.bool true)/\∃p:Regrown,V=grow (redrawn wr p.d) p.os:=fun n os=>Calls.regrown_of (zqC x _);obtain⟨H,A⟩: ∃H,H=j+1:=⟨_,rfl⟩;have ej:(j:Int)+1=(H:Int):=by omega
   have HJ:=zc A;clear A;go_wp2;have k0:=cell_regrown C0.o;have l0:=cell_regrown D0.o;have k1:=cell_regrown C1.o;have l1:=cell_regrown D1.o;have k2:=cell_regrown C2.o;have l2:=cell_regrown D2.o;have k3:=cell_regrown C3.o;have l3:=cell_regrown D3.o;have k4:=cell_regrown C4.o;have l4:=cell_regrown D4.o;have k5:=cell_regrown C5.o;have l5:=cell_regrown D5.o;simp only[Nat.add_zero] at k0 l0;refine wp_region_quiet_below (by kernel_rfl) (by kernel_rfl) ?_
   repeat (go_big_quiet_step (exact cQ _ _))
   refine wpQuiet_nil ?_;intro w2 I;obtain⟨⟨dq,L⟩,z⟩:=I;have U:Hid (Bw w w2):=by show Below _ _ _;rw[z];exact D.o.trans ((below_regrown wr dq L).mono D.o.size)
   clear z k0 l0 C0 D0 k1 l1 C1 D1 k2 l2 C2 D2 k3 l3 C3 D3 k4 l4 C4 D4 k5 l5 C5 D5 cQ;go_wp2;go_roundg (gk-1)
   case rel=>exact⟨H,rfl,by have:=HJ.o;omega,U.o⟩
   case measure=>omega
  ·have E: ¬(j:Int)<(l.length:Int):=by omega
   go_wp2;go_ret;exact⟨rfl,D.o⟩
theorem zqF (l:List Ex) (w:World) (H:OwnR w g 100 6 C l.length (l.flatMap exL)) (E:OwnR w b 100 6 S l.length (l.flatMap exL)) (M:l.length<=4294967296):
  Calls prog 106 #[.slice C.a l.length C.cap,.slice S.a l.length S.cap] w fun e L=>e= .returned (.bool true)/\Bw w L:=by
 by_cases z:l.length=0
 ·rw[z];exact zqD _ _ _ _ w
 ·rcases H.nil_or with ⟨_,_,e⟩|⟨K,D⟩
  ·exact absurd e z
  ·rcases E.nil_or with ⟨_,_,e⟩|⟨J,I⟩
   ·exact absurd e z
   ·rw[D,I];exact zqE g b K J C S l w H E D I M
end Go.Proofs.YtgcbmogmniahjaaGreat
