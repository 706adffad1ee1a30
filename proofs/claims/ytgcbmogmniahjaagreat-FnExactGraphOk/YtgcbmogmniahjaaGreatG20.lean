/- Facts and walks that the theorem stands on. -/
import Derived.Laws.OwnMore
import Derived.Test.YtgcbmogmniahjaaGreatG15
namespace Go.Proofs.YtgcbmogmniahjaaGreat
open Go.Proofs.Tryz
set_option maxRecDepth 100000
set_option maxHeartbeats 3200000
open Go.RowKit Go.PlainAid Go.Sort
theorem zel {α:Type} {l:List α} {j:Nat} (h:j<l.length): ∃x,l[j]? =some x:=⟨_,List.getElem?_eq_getElem h⟩
theorem zpD (z A:Option Addr) (D h:Nat) (w:World):Calls prog 38 #[.slice z 0 D,.slice A 0 h] w fun e q=>e= .returned (.bool true)/\Below w.heap.size w q:=by
 go_enter func38,ntmps38;go_wp2;go_loopg [5] 1 (fun k i wr=>k=1/\i= .int .i64 0/\wr=w)
 case atStart=>exact⟨rfl,rfl,rfl⟩
 case round=>
  obtain⟨rfl,rfl,rfl⟩:=hrel;go_wp2;go_ret;exact⟨rfl,Below.refl _ _⟩
theorem zpE (b1 b2 O M:Nat) (K X:Rw) (l:List BA) (w:World) (D:OwnR w b1 9 1 K l.length (l.flatMap (fun x=>[Value.string x]))) (q:OwnR w b2 9 1 X l.length (l.flatMap (fun x=>[Value.string x]))) (e1:K.a=some ⟨O,0,none⟩) (e2:X.a=some ⟨M,0,none⟩) (hl:l.length<=4294967296):
  Calls prog 38 #[.slice (some ⟨O,0,none⟩) l.length K.cap,.slice (some ⟨M,0,none⟩) l.length X.cap] w fun e w'=>e= .returned (.bool true)/\Below w.heap.size w w':=by
 have H1:=zc D;have H2:=zc q;have E1:=zc e1;have E2:=zc e2;clear D q e1 e2;go_enter func38,ntmps38;go_wp2;go_loopg [5] l.length (fun k i wr=>∃j:Nat,i= .int .i64 j/\j+k=l.length/\Below w.heap.size w wr)
 case atStart=>exact⟨0,rfl,by omega,Below.refl _ _⟩
 case round=>
  obtain⟨j,rfl,hj,hb⟩:=hrel;have A:=zc hb;clear hb;by_cases J:j<l.length
  ·have E:(j:Int)<(l.length:Int):=by omega
   obtain⟨x,V⟩:=zel J;obtain⟨N,Y,D⟩:=OwnR.elem (f:=(fun x=>[Value.string x])) (m:=1) (fun _=>rfl) (H1.o.keep fun k g=>A.o.block k (H1.o.typed g).2.1) V;obtain rfl:N=O:=by have:=Y.symm.trans E1.o;simpa using this
   obtain⟨N,Z,q⟩:=OwnR.elem (f:=(fun x=>[Value.string x])) (m:=1) (fun _=>rfl) (H2.o.keep fun k g=>A.o.block k (H2.o.typed g).2.1) V;obtain rfl:N=M:=by have:=Z.symm.trans E2.o;simpa using this
   have C0:=zc (D 0 (by omega));have D0:=zc (q 0 (by omega));clear D q Y Z V;obtain⟨H,z⟩: ∃H,H=j+1:=⟨_,rfl⟩;have ej:(j:Int)+1=(H:Int):=by omega
   have HJ:=zc z;clear z;go_wp2;have k0:=cell_regrown C0.o;have l0:=cell_regrown D0.o;simp only[Nat.add_zero,Nat.mul_one] at k0 l0;refine wp_region_quiet_below (by kernel_rfl) (by kernel_rfl) ?_
   repeat (go_big_quiet_step (fail))
   refine wpQuiet_nil ?_;intro w2 I;obtain⟨⟨dq,L⟩,h⟩:=I;have U:Hid (Below w.heap.size w w2):=by show Below _ _ _;rw[h];exact A.o.trans ((below_regrown wr dq L).mono A.o.size)
   clear h k0 l0 C0 D0;go_wp2;go_roundg (gk-1)
   case rel=>exact⟨H,rfl,by have:=HJ.o;omega,U.o⟩
   case measure=>omega
  ·have E: ¬(j:Int)<(l.length:Int):=by omega
   go_wp2;go_ret;exact⟨rfl,A.o⟩
theorem zkk (A b2:Nat) (q h:Rw) (l:List BA) (w:World) (H:OwnR w A 9 1 q l.length (l.flatMap (fun x=>[Value.string x]))) (E:OwnR w b2 9 1 h l.length (l.flatMap (fun x=>[Value.string x]))) (M:l.length<=4294967296):
  Calls prog 38 #[.slice q.a l.length q.cap,.slice h.a l.length h.cap] w fun e L=>e= .returned (.bool true)/\Below w.heap.size w L:=by
 by_cases z:l.length=0
 ·rw[z];exact zpD _ _ _ _ w
 ·rcases H.nil_or with ⟨_,_,e⟩|⟨K,D⟩
  ·exact absurd e z
  ·rcases E.nil_or with ⟨_,_,e⟩|⟨J,I⟩
   ·exact absurd e z
   ·rw[D,I];exact zpE A b2 K J q h l w H E D I M
theorem zpF (x:Im) (w:World):Calls prog 142 #[.agg #[.string x.spec,.string x.first,.string x.loc],.agg #[.string x.spec,.string x.first,.string x.loc]] w fun e h=>e= .returned (.bool true)/\Below w.heap.size w h:=by
 go_enter func142,ntmps142;go_wp2;go_ret;exact⟨rfl,((Below.refl _ _).alloc (Nat.le_refl _) _).alloc (by show _<=(w.heap.push _).size;simp) _⟩
theorem zpG (z A:Option Addr) (D h:Nat) (w:World):Calls prog 103 #[.slice z 0 D,.slice A 0 h] w fun e q=>e= .returned (.bool true)/\Below w.heap.size w q:=by
 go_enter func103,ntmps103;go_wp2;go_loopg [5] 1 (fun k i wr=>k=1/\i= .int .i64 0/\wr=w)
 case atStart=>exact⟨rfl,rfl,rfl⟩
 case round=>
  obtain⟨rfl,rfl,rfl⟩:=hrel;go_wp2;go_ret;exact⟨rfl,Below.refl _ _⟩
theorem zpH (b1 b2 O M:Nat) (K Y:Rw) (l:List Im) (w:World) (z:OwnR w b1 95 3 K l.length (l.flatMap imL)) (q:OwnR w b2 95 3 Y l.length (l.flatMap imL)) (e1:K.a=some ⟨O,0,none⟩) (e2:Y.a=some ⟨M,0,none⟩) (hl:l.length<=4294967296):
  Calls prog 103 #[.slice (some ⟨O,0,none⟩) l.length K.cap,.slice (some ⟨M,0,none⟩) l.length Y.cap] w fun e w'=>e= .returned (.bool true)/\Below w.heap.size w w':=by
 have H1:=zc z;have H2:=zc q;have E1:=zc e1;have E2:=zc e2;clear z q e1 e2;go_enter func103,ntmps103;go_wp2;go_loopg [5] l.length (fun k i wr=>∃j:Nat,i= .int .i64 j/\j+k=l.length/\Below w.heap.size w wr)
 case atStart=>exact⟨0,rfl,by omega,Below.refl _ _⟩
 case round=>
  obtain⟨j,rfl,hj,hb⟩:=hrel;have D:=zc hb;clear hb;by_cases J:j<l.length
  ·have E:(j:Int)<(l.length:Int):=by omega
   obtain⟨x,X⟩:=zel J;obtain⟨N,Z,z⟩:=OwnR.elem (f:=imL) (m:=3) (fun _=>rfl) (H1.o.keep fun k g=>D.o.block k (H1.o.typed g).2.1) X;obtain rfl:N=O:=by have:=Z.symm.trans E1.o;simpa using this
   obtain⟨N,gb,q⟩:=OwnR.elem (f:=imL) (m:=3) (fun _=>rfl) (H2.o.keep fun k g=>D.o.block k (H2.o.typed g).2.1) X;obtain rfl:N=M:=by have:=gb.symm.trans E2.o;simpa using this
   have C0:=zc (z 0 (by omega));have D0:=zc (q 0 (by omega));have C1:=zc (z 1 (by omega));have D1:=zc (q 1 (by omega));have C2:=zc (z 2 (by omega));have D2:=zc (q 2 (by omega));clear z q Z gb X;have cQ: ∀d os,Calls prog 142 #[.agg #[.string x.spec,.string x.first,.string x.loc],.agg #[.string x.spec,.string x.first,.string x.loc]] (grow (redrawn wr d) os) fun e V=>e= .returned (.bool true)/\∃p:Regrown,V=grow (redrawn wr p.d) p.os:=fun d os=>Calls.regrown_of (zpF x _);obtain⟨H,A⟩: ∃H,H=j+1:=⟨_,rfl⟩;have ej:(j:Int)+1=(H:Int):=by omega
   have HJ:=zc A;clear A;go_wp2;have k0:=cell_regrown C0.o;have l0:=cell_regrown D0.o;have k1:=cell_regrown C1.o;have l1:=cell_regrown D1.o;have k2:=cell_regrown C2.o;have l2:=cell_regrown D2.o;simp only[Nat.add_zero] at k0 l0;refine wp_region_quiet_below (by kernel_rfl) (by kernel_rfl) ?_
   repeat (go_big_quiet_step (exact cQ _ _))
   refine wpQuiet_nil ?_;intro w2 I;obtain⟨⟨dq,L⟩,h⟩:=I;have U:Hid (Below w.heap.size w w2):=by show Below _ _ _;rw[h];exact D.o.trans ((below_regrown wr dq L).mono D.o.size)
   clear h k0 l0 C0 D0 k1 l1 C1 D1 k2 l2 C2 D2 cQ;go_wp2;go_roundg (gk-1)
   case rel=>exact⟨H,rfl,by have:=HJ.o;omega,U.o⟩
   case measure=>omega
  ·have E: ¬(j:Int)<(l.length:Int):=by omega
   go_wp2;go_ret;exact⟨rfl,D.o⟩
theorem zpI (A b2:Nat) (q h:Rw) (l:List Im) (w:World) (H:OwnR w A 95 3 q l.length (l.flatMap imL)) (E:OwnR w b2 95 3 h l.length (l.flatMap imL)) (M:l.length<=4294967296):
  Calls prog 103 #[.slice q.a l.length q.cap,.slice h.a l.length h.cap] w fun e L=>e= .returned (.bool true)/\Below w.heap.size w L:=by
 by_cases z:l.length=0
 ·rw[z];exact zpG _ _ _ _ w
 ·rcases H.nil_or with ⟨_,_,e⟩|⟨K,D⟩
  ·exact absurd e z
  ·rcases E.nil_or with ⟨_,_,e⟩|⟨J,I⟩
   ·exact absurd e z
   ·rw[D,I];exact zpH A b2 K J q h l w H E D I M
theorem zpJ (x:Ep) (w:World):Calls prog 143 #[.agg #[.int .i64 x.kind,.string x.name,.string x.loc,.string x.spec],.agg #[.int .i64 x.kind,.string x.name,.string x.loc,.string x.spec]] w fun e h=>e= .returned (.bool true)/\Below w.heap.size w h:=by
 go_enter func143,ntmps143;go_wp2;go_ret;exact⟨rfl,((Below.refl _ _).alloc (Nat.le_refl _) _).alloc (by show _<=(w.heap.push _).size;simp) _⟩
theorem zpK (z A:Option Addr) (D h:Nat) (w:World):Calls prog 104 #[.slice z 0 D,.slice A 0 h] w fun e q=>e= .returned (.bool true)/\Below w.heap.size w q:=by
 go_enter func104,ntmps104;go_wp2;go_loopg [5] 1 (fun k i wr=>k=1/\i= .int .i64 0/\wr=w)
 case atStart=>exact⟨rfl,rfl,rfl⟩
 case round=>
  obtain⟨rfl,rfl,rfl⟩:=hrel;go_wp2;go_ret;exact⟨rfl,Below.refl _ _⟩
theorem zpL (b1 b2 O M:Nat) (K Y:Rw) (l:List Ep) (w:World) (q:OwnR w b1 97 4 K l.length (l.flatMap epL)) (h:OwnR w b2 97 4 Y l.length (l.flatMap epL)) (e1:K.a=some ⟨O,0,none⟩) (e2:Y.a=some ⟨M,0,none⟩) (hl:l.length<=4294967296):
  Calls prog 104 #[.slice (some ⟨O,0,none⟩) l.length K.cap,.slice (some ⟨M,0,none⟩) l.length Y.cap] w fun e w'=>e= .returned (.bool true)/\Below w.heap.size w w':=by
 have H1:=zc q;have H2:=zc h;have E1:=zc e1;have E2:=zc e2;clear q h e1 e2;go_enter func104,ntmps104;go_wp2;go_loopg [5] l.length (fun k i wr=>∃j:Nat,i= .int .i64 j/\j+k=l.length/\Below w.heap.size w wr)
 case atStart=>exact⟨0,rfl,by omega,Below.refl _ _⟩
 case round=>
  obtain⟨j,rfl,hj,hb⟩:=hrel;have D:=zc hb;clear hb;by_cases J:j<l.length
  ·have E:(j:Int)<(l.length:Int):=by omega
   obtain⟨x,X⟩:=zel J;obtain⟨N,Z,q⟩:=OwnR.elem (f:=epL) (m:=4) (fun _=>rfl) (H1.o.keep fun k g=>D.o.block k (H1.o.typed g).2.1) X;obtain rfl:N=O:=by have:=Z.symm.trans E1.o;simpa using this
   obtain⟨N,gb,h⟩:=OwnR.elem (f:=epL) (m:=4) (fun _=>rfl) (H2.o.keep fun k g=>D.o.block k (H2.o.typed g).2.1) X;obtain rfl:N=M:=by have:=gb.symm.trans E2.o;simpa using this
   have C0:=zc (q 0 (by omega));have D0:=zc (h 0 (by omega));have C1:=zc (q 1 (by omega));have D1:=zc (h 1 (by omega));have C2:=zc (q 2 (by omega));have D2:=zc (h 2 (by omega));have C3:=zc (q 3 (by omega));have D3:=zc (h 3 (by omega));clear q h Z gb X;have cQ: ∀d os,Calls prog 143 #[.agg #[.int .i64 x.kind,.string x.name,.string x.loc,.string x.spec],.agg #[.int .i64 x.kind,.string x.name,.string x.loc,.string x.spec]] (grow (redrawn wr d) os) fun e V=>e= .returned (.bool true)/\∃p:Regrown,V=grow (redrawn wr p.d) p.os:=fun d os=>Calls.regrown_of (zpJ x _);obtain⟨H,A⟩: ∃H,H=j+1:=⟨_,rfl⟩;have ej:(j:Int)+1=(H:Int):=by omega
   have HJ:=zc A;clear A;go_wp2;have k0:=cell_regrown C0.o;have l0:=cell_regrown D0.o;have k1:=cell_regrown C1.o;have l1:=cell_regrown D1.o;have k2:=cell_regrown C2.o;have l2:=cell_regrown D2.o;have k3:=cell_regrown C3.o;have l3:=cell_regrown D3.o;simp only[Nat.add_zero] at k0 l0;refine wp_region_quiet_below (by kernel_rfl) (by kernel_rfl) ?_
   repeat (go_big_quiet_step (exact cQ _ _))
   refine wpQuiet_nil ?_;intro w2 I;obtain⟨⟨dq,L⟩,z⟩:=I;have U:Hid (Below w.heap.size w w2):=by show Below _ _ _;rw[z];exact D.o.trans ((below_regrown wr dq L).mono D.o.size)
   clear z k0 l0 C0 D0 k1 l1 C1 D1 k2 l2 C2 D2 k3 l3 C3 D3 cQ;go_wp2;go_roundg (gk-1)
   case rel=>exact⟨H,rfl,by have:=HJ.o;omega,U.o⟩
   case measure=>omega
  ·have E: ¬(j:Int)<(l.length:Int):=by omega
   go_wp2;go_ret;exact⟨rfl,D.o⟩
theorem zpM (A b2:Nat) (q h:Rw) (l:List Ep) (w:World) (H:OwnR w A 97 4 q l.length (l.flatMap epL)) (E:OwnR w b2 97 4 h l.length (l.flatMap epL)) (M:l.length<=4294967296):
  Calls prog 104 #[.slice q.a l.length q.cap,.slice h.a l.length h.cap] w fun e L=>e= .returned (.bool true)/\Below w.heap.size w L:=by
 by_cases z:l.length=0
 ·rw[z];exact zpK _ _ _ _ w
 ·rcases H.nil_or with ⟨_,_,e⟩|⟨K,D⟩
  ·exact absurd e z
  ·rcases E.nil_or with ⟨_,_,e⟩|⟨J,I⟩
   ·exact absurd e z
   ·rw[D,I];exact zpL A b2 K J q h l w H E D I M
theorem zpN (x:Sm) (w:World):Calls prog 144 #[.agg #[.int .i64 x.kind,.string x.name,.int .i64 x.expr],.agg #[.int .i64 x.kind,.string x.name,.int .i64 x.expr]] w fun e h=>e= .returned (.bool true)/\Below w.heap.size w h:=by
 go_enter func144,ntmps144;go_wp2;go_ret;exact⟨rfl,((Below.refl _ _).alloc (Nat.le_refl _) _).alloc (by show _<=(w.heap.push _).size;simp) _⟩
theorem zpO (z A:Option Addr) (D h:Nat) (w:World):Calls prog 105 #[.slice z 0 D,.slice A 0 h] w fun e q=>e= .returned (.bool true)/\Below w.heap.size w q:=by
 go_enter func105,ntmps105;go_wp2;go_loopg [5] 1 (fun k i wr=>k=1/\i= .int .i64 0/\wr=w)
 case atStart=>exact⟨rfl,rfl,rfl⟩
 case round=>
  obtain⟨rfl,rfl,rfl⟩:=hrel;go_wp2;go_ret;exact⟨rfl,Below.refl _ _⟩
theorem zpP (b1 b2 O M:Nat) (K Y:Rw) (l:List Sm) (w:World) (z:OwnR w b1 102 3 K l.length (l.flatMap smL)) (q:OwnR w b2 102 3 Y l.length (l.flatMap smL)) (e1:K.a=some ⟨O,0,none⟩) (e2:Y.a=some ⟨M,0,none⟩) (hl:l.length<=4294967296):
  Calls prog 105 #[.slice (some ⟨O,0,none⟩) l.length K.cap,.slice (some ⟨M,0,none⟩) l.length Y.cap] w fun e w'=>e= .returned (.bool true)/\Below w.heap.size w w':=by
 have H1:=zc z;have H2:=zc q;have E1:=zc e1;have E2:=zc e2;clear z q e1 e2;go_enter func105,ntmps105;go_wp2;go_loopg [5] l.length (fun k i wr=>∃j:Nat,i= .int .i64 j/\j+k=l.length/\Below w.heap.size w wr)
 case atStart=>exact⟨0,rfl,by omega,Below.refl _ _⟩
 case round=>
  obtain⟨j,rfl,hj,hb⟩:=hrel;have D:=zc hb;clear hb;by_cases J:j<l.length
  ·have E:(j:Int)<(l.length:Int):=by omega
   obtain⟨x,X⟩:=zel J;obtain⟨N,Z,z⟩:=OwnR.elem (f:=smL) (m:=3) (fun _=>rfl) (H1.o.keep fun k g=>D.o.block k (H1.o.typed g).2.1) X;obtain rfl:N=O:=by have:=Z.symm.trans E1.o;simpa using this
   obtain⟨N,gb,q⟩:=OwnR.elem (f:=smL) (m:=3) (fun _=>rfl) (H2.o.keep fun k g=>D.o.block k (H2.o.typed g).2.1) X;obtain rfl:N=M:=by have:=gb.symm.trans E2.o;simpa using this
   have C0:=zc (z 0 (by omega));have D0:=zc (q 0 (by omega));have C1:=zc (z 1 (by omega));have D1:=zc (q 1 (by omega));have C2:=zc (z 2 (by omega));have D2:=zc (q 2 (by omega));clear z q Z gb X;have cQ: ∀d os,Calls prog 144 #[.agg #[.int .i64 x.kind,.string x.name,.int .i64 x.expr],.agg #[.int .i64 x.kind,.string x.name,.int .i64 x.expr]] (grow (redrawn wr d) os) fun e V=>e= .returned (.bool true)/\∃p:Regrown,V=grow (redrawn wr p.d) p.os:=fun d os=>Calls.regrown_of (zpN x _);obtain⟨H,A⟩: ∃H,H=j+1:=⟨_,rfl⟩;have ej:(j:Int)+1=(H:Int):=by omega
   have HJ:=zc A;clear A;go_wp2;have k0:=cell_regrown C0.o;have l0:=cell_regrown D0.o;have k1:=cell_regrown C1.o;have l1:=cell_regrown D1.o;have k2:=cell_regrown C2.o;have l2:=cell_regrown D2.o;simp only[Nat.add_zero] at k0 l0;refine wp_region_quiet_below (by kernel_rfl) (by kernel_rfl) ?_
   repeat (go_big_quiet_step (exact cQ _ _))
   refine wpQuiet_nil ?_;intro w2 I;obtain⟨⟨dq,L⟩,h⟩:=I;have U:Hid (Below w.heap.size w w2):=by show Below _ _ _;rw[h];exact D.o.trans ((below_regrown wr dq L).mono D.o.size)
   clear h k0 l0 C0 D0 k1 l1 C1 D1 k2 l2 C2 D2 cQ;go_wp2;go_roundg (gk-1)
   case rel=>exact⟨H,rfl,by have:=HJ.o;omega,U.o⟩
   case measure=>omega
  ·have E: ¬(j:Int)<(l.length:Int):=by omega
   go_wp2;go_ret;exact⟨rfl,D.o⟩
theorem zpQ (A b2:Nat) (q h:Rw) (l:List Sm) (w:World) (H:OwnR w A 102 3 q l.length (l.flatMap smL)) (E:OwnR w b2 102 3 h l.length (l.flatMap smL)) (M:l.length<=4294967296):
  Calls prog 105 #[.slice q.a l.length q.cap,.slice h.a l.length h.cap] w fun e L=>e= .returned (.bool true)/\Below w.heap.size w L:=by
 by_cases z:l.length=0
 ·rw[z];exact zpO _ _ _ _ w
 ·rcases H.nil_or with ⟨_,_,e⟩|⟨K,D⟩
  ·exact absurd e z
  ·rcases E.nil_or with ⟨_,_,e⟩|⟨J,I⟩
   ·exact absurd e z
   ·rw[D,I];exact zpP A b2 K J q h l w H E D I M
theorem zpR (x:Ex) (w:World):Calls prog 145 #[.agg #[.int .i64 x.kind,.int .i64 x.num,.string x.name,.string x.field,.int .i64 x.l,.int .i64 x.r],.agg #[.int .i64 x.kind,.int .i64 x.num,.string x.name,.string x.field,.int .i64 x.l,.int .i64 x.r]] w fun e h=>e= .returned (.bool true)/\Below w.heap.size w h:=by
 go_enter func145,ntmps145;go_wp2;go_ret;exact⟨rfl,((Below.refl _ _).alloc (Nat.le_refl _) _).alloc (by show _<=(w.heap.push _).size;simp) _⟩
theorem zpS (z A:Option Addr) (D h:Nat) (w:World):Calls prog 106 #[.slice z 0 D,.slice A 0 h] w fun e q=>e= .returned (.bool true)/\Below w.heap.size w q:=by
 go_enter func106,ntmps106;go_wp2;go_loopg [5] 1 (fun k i wr=>k=1/\i= .int .i64 0/\wr=w)
 case atStart=>exact⟨rfl,rfl,rfl⟩
 case round=>
  obtain⟨rfl,rfl,rfl⟩:=hrel;go_wp2;go_ret;exact⟨rfl,Below.refl _ _⟩
theorem zpT (b1 b2 O M:Nat) (K Y:Rw) (l:List Ex) (w:World) (q:OwnR w b1 100 6 K l.length (l.flatMap exL)) (h:OwnR w b2 100 6 Y l.length (l.flatMap exL)) (e1:K.a=some ⟨O,0,none⟩) (e2:Y.a=some ⟨M,0,none⟩) (hl:l.length<=4294967296):
  Calls prog 106 #[.slice (some ⟨O,0,none⟩) l.length K.cap,.slice (some ⟨M,0,none⟩) l.length Y.cap] w fun e w'=>e= .returned (.bool true)/\Below w.heap.size w w':=by
 have H1:=zc q;have H2:=zc h;have E1:=zc e1;have E2:=zc e2;clear q h e1 e2;go_enter func106,ntmps106;go_wp2;go_loopg [5] l.length (fun k i wr=>∃j:Nat,i= .int .i64 j/\j+k=l.length/\Below w.heap.size w wr)
 case atStart=>exact⟨0,rfl,by omega,Below.refl _ _⟩
 case round=>
  obtain⟨j,rfl,hj,hb⟩:=hrel;have D:=zc hb;clear hb;by_cases J:j<l.length
  ·have E:(j:Int)<(l.length:Int):=by omega
   obtain⟨x,X⟩:=zel J;obtain⟨N,Z,q⟩:=OwnR.elem (f:=exL) (m:=6) (fun _=>rfl) (H1.o.keep fun k g=>D.o.block k (H1.o.typed g).2.1) X;obtain rfl:N=O:=by have:=Z.symm.trans E1.o;simpa using this
   obtain⟨N,gb,h⟩:=OwnR.elem (f:=exL) (m:=6) (fun _=>rfl) (H2.o.keep fun k g=>D.o.block k (H2.o.typed g).2.1) X;obtain rfl:N=M:=by have:=gb.symm.trans E2.o;simpa using this
   have C0:=zc (q 0 (by omega));have D0:=zc (h 0 (by omega));have C1:=zc (q 1 (by omega));have D1:=zc (h 1 (by omega));have C2:=zc (q 2 (by omega));have D2:=zc (h 2 (by omega));have C3:=zc (q 3 (by omega));have D3:=zc (h 3 (by omega));have C4:=zc (q 4 (by omega));have D4:=zc (h 4 (by omega));have C5:=zc (q 5 (by omega));have D5:=zc (h 5 (by omega));clear q h Z gb X;have cQ: ∀d os,Calls prog 145 #[.agg #[.int .i64 x.kind,.int .i64 x.num,.string x.name,.string x.field,.int .i64 x.l,.int .i64 x.r],.agg #[.int .i64 x.kind,.int .i64 x.num,.string x.name,.string x.field,.int .i64 x.l,.int .i64 x.r]] (grow (redrawn wr d) os) fun e V=>e= .returned (.bool true)/\∃p:Regrown,V=grow (redrawn wr p.d) p.os:=fun d os=>Calls.regrown_of (zpR x _);obtain⟨H,A⟩: ∃H,H=j+1:=⟨_,rfl⟩;have ej:(j:Int)+1=(H:Int):=by omega
   have HJ:=zc A;clear A;go_wp2;have k0:=cell_regrown C0.o;have l0:=cell_regrown D0.o;have k1:=cell_regrown C1.o;have l1:=cell_regrown D1.o;have k2:=cell_regrown C2.o;have l2:=cell_regrown D2.o;have k3:=cell_regrown C3.o;have l3:=cell_regrown D3.o;have k4:=cell_regrown C4.o;have l4:=cell_regrown D4.o;have k5:=cell_regrown C5.o;have l5:=cell_regrown D5.o;simp only[Nat.add_zero] at k0 l0;refine wp_region_quiet_below (by kernel_rfl) (by kernel_rfl) ?_
   repeat (go_big_quiet_step (exact cQ _ _))
   refine wpQuiet_nil ?_;intro w2 I;obtain⟨⟨dq,L⟩,z⟩:=I;have U:Hid (Below w.heap.size w w2):=by show Below _ _ _;rw[z];exact D.o.trans ((below_regrown wr dq L).mono D.o.size)
   clear z k0 l0 C0 D0 k1 l1 C1 D1 k2 l2 C2 D2 k3 l3 C3 D3 k4 l4 C4 D4 k5 l5 C5 D5 cQ;go_wp2;go_roundg (gk-1)
   case rel=>exact⟨H,rfl,by have:=HJ.o;omega,U.o⟩
   case measure=>omega
  ·have E: ¬(j:Int)<(l.length:Int):=by omega
   go_wp2;go_ret;exact⟨rfl,D.o⟩
theorem zpU (A b2:Nat) (q h:Rw) (l:List Ex) (w:World) (H:OwnR w A 100 6 q l.length (l.flatMap exL)) (E:OwnR w b2 100 6 h l.length (l.flatMap exL)) (M:l.length<=4294967296):
  Calls prog 106 #[.slice q.a l.length q.cap,.slice h.a l.length h.cap] w fun e L=>e= .returned (.bool true)/\Below w.heap.size w L:=by
 by_cases z:l.length=0
 ·rw[z];exact zpS _ _ _ _ w
 ·rcases H.nil_or with ⟨_,_,e⟩|⟨K,D⟩
  ·exact absurd e z
  ·rcases E.nil_or with ⟨_,_,e⟩|⟨J,I⟩
   ·exact absurd e z
   ·rw[D,I];exact zpT A b2 K J q h l w H E D I M
end Go.Proofs.YtgcbmogmniahjaaGreat
