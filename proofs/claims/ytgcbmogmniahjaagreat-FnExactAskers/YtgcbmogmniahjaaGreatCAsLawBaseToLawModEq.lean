/-
  What the laws' helpers over rows lean on. No program is spoken of.
  What the laws' comparers of lists answer where both show the same: the walks.
-/
import Derived.Laws.OwnMore
import Derived.Test.YtgcbmogmniahjaaGreatCAsImplParseJToEqRow
namespace Go.Proofs.YtgcbmogmniahjaaGreat
set_option maxRecDepth 100000
set_option maxHeartbeats 3200000
open Go.RowKit Go.PlainAid Go.Sort
theorem ze3 {α:Type} {l:List α} {j:Nat} (h:j<l.length): ∃x,l[j]? =some x:=⟨_,List.getElem?_eq_getElem h⟩
theorem zqy (z A:Option Addr) (D h:Nat) (w:World):Calls Tryz.prog 38 #[.slice z 0 D,.slice A 0 h] w fun e q=>e= .returned (.bool true)∧Below w.heap.size w q:=by
 go_enter Tryz.func38,Tryz.ntmps38
 go_wp2
 go_loopg [5] 1 (fun k i wr=>k=1∧i= .int .i64 0∧wr=w)
 case atStart=>exact⟨rfl,rfl,rfl⟩
 case round=>
  obtain⟨rfl,rfl,rfl⟩:=hrel
  go_wp2
  go_ret
  exact⟨rfl,Below.refl _ _⟩
theorem zqz (b1 b2 O M:Nat) (K X:Rw) (l:List ByteArray) (w:World) (D:OwnR w b1 9 1 K l.length (l.flatMap (fun x=>[Value.string x]))) (q:OwnR w b2 9 1 X l.length (l.flatMap (fun x=>[Value.string x]))) (e1:K.a=some ⟨O,0,none⟩) (e2:X.a=some ⟨M,0,none⟩) (hl:l.length≤4294967296):
  Calls Tryz.prog 38 #[.slice (some ⟨O,0,none⟩) l.length K.cap,.slice (some ⟨M,0,none⟩) l.length X.cap] w fun e w'=>e= .returned (.bool true)∧Below w.heap.size w w':=by
 have H1:=zc D
 have H2:=zc q
 have E1:=zc e1
 have E2:=zc e2
 clear D q e1 e2
 go_enter Tryz.func38,Tryz.ntmps38
 go_wp2
 go_loopg [5] l.length (fun k i wr=>∃j:Nat,i= .int .i64 j∧j+k=l.length∧Below w.heap.size w wr)
 case atStart=>exact⟨0,rfl,by omega,Below.refl _ _⟩
 case round=>
  obtain⟨j,rfl,hj,hb⟩:=hrel
  have A:=zc hb
  clear hb
  by_cases J:j<l.length
  ·have E:(j:Int)<(l.length:Int):=by omega
   obtain⟨x,V⟩:=ze3 J
   obtain⟨N,Y,D⟩:=OwnR.elem (f:=(fun x=>[Value.string x])) (m:=1) (fun _=>rfl) (H1.out.keep fun k g=>A.out.block k (H1.out.typed g).2.1) V
   obtain rfl:N=O:=by have:=Y.symm.trans E1.out;simpa using this
   obtain⟨N,Z,q⟩:=OwnR.elem (f:=(fun x=>[Value.string x])) (m:=1) (fun _=>rfl) (H2.out.keep fun k g=>A.out.block k (H2.out.typed g).2.1) V
   obtain rfl:N=M:=by have:=Z.symm.trans E2.out;simpa using this
   have C0:=zc (D 0 (by omega))
   have D0:=zc (q 0 (by omega))
   clear D q Y Z V
   obtain⟨H,z⟩: ∃H,H=j+1:=⟨_,rfl⟩
   have ej:(j:Int)+1=(H:Int):=by omega
   have HJ:=zc z
   clear z
   go_wp2
   have k0:=cell_regrown C0.out
   have l0:=cell_regrown D0.out
   simp only[Nat.add_zero,Nat.mul_one] at k0 l0
   refine wp_region_quiet_below (by kernel_rfl) (by kernel_rfl) ?_
   repeat (go_big_quiet_step (fail))
   refine wpQuiet_nil ?_
   intro w2 I
   obtain⟨⟨dq,L⟩,h⟩:=I
   have U:Hid (Below w.heap.size w w2):=by show Below _ _ _;rw[h];exact A.out.trans ((below_regrown wr dq L).mono A.out.size)
   clear h k0 l0 C0 D0
   go_wp2
   go_roundg (gk-1)
   case rel=>exact⟨H,rfl,by have:=HJ.out;omega,U.out⟩
   case measure=>omega
  ·have E: ¬(j:Int)<(l.length:Int):=by omega
   go_wp2
   go_ret
   exact⟨rfl,A.out⟩
theorem zkF (A b2:Nat) (q h:Rw) (l:List ByteArray) (w:World) (H:OwnR w A 9 1 q l.length (l.flatMap (fun x=>[Value.string x]))) (E:OwnR w b2 9 1 h l.length (l.flatMap (fun x=>[Value.string x]))) (M:l.length≤4294967296):
  Calls Tryz.prog 38 #[.slice q.a l.length q.cap,.slice h.a l.length h.cap] w fun e L=>e= .returned (.bool true)∧Below w.heap.size w L:=by
 by_cases z:l.length=0
 ·rw[z]
  exact zqy _ _ _ _ w
 ·rcases H.nil_or with ⟨_,_,e⟩|⟨K,D⟩
  ·exact absurd e z
  ·rcases E.nil_or with ⟨_,_,e⟩|⟨J,I⟩
   ·exact absurd e z
   ·rw[D,I]
    exact zqz A b2 K J q h l w H E D I M
theorem zq0 (x:Im) (w:World):Calls Tryz.prog 142 #[.agg #[.string x.spec,.string x.first,.string x.loc],.agg #[.string x.spec,.string x.first,.string x.loc]] w fun e h=>e= .returned (.bool true)∧Below w.heap.size w h:=by
 go_enter Tryz.func142,Tryz.ntmps142
 go_wp2
 go_ret
 exact⟨rfl,((Below.refl _ _).alloc (Nat.le_refl _) _).alloc (by show _≤(w.heap.push _).size;simp) _⟩
theorem zq1 (z A:Option Addr) (D h:Nat) (w:World):Calls Tryz.prog 103 #[.slice z 0 D,.slice A 0 h] w fun e q=>e= .returned (.bool true)∧Below w.heap.size w q:=by
 go_enter Tryz.func103,Tryz.ntmps103
 go_wp2
 go_loopg [5] 1 (fun k i wr=>k=1∧i= .int .i64 0∧wr=w)
 case atStart=>exact⟨rfl,rfl,rfl⟩
 case round=>
  obtain⟨rfl,rfl,rfl⟩:=hrel
  go_wp2
  go_ret
  exact⟨rfl,Below.refl _ _⟩
theorem zq2 (b1 b2 O M:Nat) (K Y:Rw) (l:List Im) (w:World) (z:OwnR w b1 95 3 K l.length (l.flatMap imL)) (q:OwnR w b2 95 3 Y l.length (l.flatMap imL)) (e1:K.a=some ⟨O,0,none⟩) (e2:Y.a=some ⟨M,0,none⟩) (hl:l.length≤4294967296):
  Calls Tryz.prog 103 #[.slice (some ⟨O,0,none⟩) l.length K.cap,.slice (some ⟨M,0,none⟩) l.length Y.cap] w fun e w'=>e= .returned (.bool true)∧Below w.heap.size w w':=by
 have H1:=zc z
 have H2:=zc q
 have E1:=zc e1
 have E2:=zc e2
 clear z q e1 e2
 go_enter Tryz.func103,Tryz.ntmps103
 go_wp2
 go_loopg [5] l.length (fun k i wr=>∃j:Nat,i= .int .i64 j∧j+k=l.length∧Below w.heap.size w wr)
 case atStart=>exact⟨0,rfl,by omega,Below.refl _ _⟩
 case round=>
  obtain⟨j,rfl,hj,hb⟩:=hrel
  have D:=zc hb
  clear hb
  by_cases J:j<l.length
  ·have E:(j:Int)<(l.length:Int):=by omega
   obtain⟨x,X⟩:=ze3 J
   obtain⟨N,Z,z⟩:=OwnR.elem (f:=imL) (m:=3) (fun _=>rfl) (H1.out.keep fun k g=>D.out.block k (H1.out.typed g).2.1) X
   obtain rfl:N=O:=by have:=Z.symm.trans E1.out;simpa using this
   obtain⟨N,gb,q⟩:=OwnR.elem (f:=imL) (m:=3) (fun _=>rfl) (H2.out.keep fun k g=>D.out.block k (H2.out.typed g).2.1) X
   obtain rfl:N=M:=by have:=gb.symm.trans E2.out;simpa using this
   have C0:=zc (z 0 (by omega))
   have D0:=zc (q 0 (by omega))
   have C1:=zc (z 1 (by omega))
   have D1:=zc (q 1 (by omega))
   have C2:=zc (z 2 (by omega))
   have D2:=zc (q 2 (by omega))
   clear z q Z gb X
   have cQ: ∀d os,Calls Tryz.prog 142 #[.agg #[.string x.spec,.string x.first,.string x.loc],.agg #[.string x.spec,.string x.first,.string x.loc]] (grow (redrawn wr d) os) fun e V=>e= .returned (.bool true)∧∃p:Regrown,V=grow (redrawn wr p.d) p.os:=fun d os=>Calls.regrown_of (zq0 x _)
   obtain⟨H,A⟩: ∃H,H=j+1:=⟨_,rfl⟩
   have ej:(j:Int)+1=(H:Int):=by omega
   have HJ:=zc A
   clear A
   go_wp2
   have k0:=cell_regrown C0.out
   have l0:=cell_regrown D0.out
   have k1:=cell_regrown C1.out
   have l1:=cell_regrown D1.out
   have k2:=cell_regrown C2.out
   have l2:=cell_regrown D2.out
   simp only[Nat.add_zero] at k0 l0
   refine wp_region_quiet_below (by kernel_rfl) (by kernel_rfl) ?_
   repeat (go_big_quiet_step (exact cQ _ _))
   refine wpQuiet_nil ?_
   intro w2 I
   obtain⟨⟨dq,L⟩,h⟩:=I
   have U:Hid (Below w.heap.size w w2):=by show Below _ _ _;rw[h];exact D.out.trans ((below_regrown wr dq L).mono D.out.size)
   clear h k0 l0 C0 D0 k1 l1 C1 D1 k2 l2 C2 D2 cQ
   go_wp2
   go_roundg (gk-1)
   case rel=>exact⟨H,rfl,by have:=HJ.out;omega,U.out⟩
   case measure=>omega
  ·have E: ¬(j:Int)<(l.length:Int):=by omega
   go_wp2
   go_ret
   exact⟨rfl,D.out⟩
theorem zq3 (A b2:Nat) (q h:Rw) (l:List Im) (w:World) (H:OwnR w A 95 3 q l.length (l.flatMap imL)) (E:OwnR w b2 95 3 h l.length (l.flatMap imL)) (M:l.length≤4294967296):
  Calls Tryz.prog 103 #[.slice q.a l.length q.cap,.slice h.a l.length h.cap] w fun e L=>e= .returned (.bool true)∧Below w.heap.size w L:=by
 by_cases z:l.length=0
 ·rw[z]
  exact zq1 _ _ _ _ w
 ·rcases H.nil_or with ⟨_,_,e⟩|⟨K,D⟩
  ·exact absurd e z
  ·rcases E.nil_or with ⟨_,_,e⟩|⟨J,I⟩
   ·exact absurd e z
   ·rw[D,I]
    exact zq2 A b2 K J q h l w H E D I M
theorem zq4 (x:Ep) (w:World):Calls Tryz.prog 143 #[.agg #[.int .i64 x.kind,.string x.name,.string x.loc,.string x.spec],.agg #[.int .i64 x.kind,.string x.name,.string x.loc,.string x.spec]] w fun e h=>e= .returned (.bool true)∧Below w.heap.size w h:=by
 go_enter Tryz.func143,Tryz.ntmps143
 go_wp2
 go_ret
 exact⟨rfl,((Below.refl _ _).alloc (Nat.le_refl _) _).alloc (by show _≤(w.heap.push _).size;simp) _⟩
theorem zq5 (z A:Option Addr) (D h:Nat) (w:World):Calls Tryz.prog 104 #[.slice z 0 D,.slice A 0 h] w fun e q=>e= .returned (.bool true)∧Below w.heap.size w q:=by
 go_enter Tryz.func104,Tryz.ntmps104
 go_wp2
 go_loopg [5] 1 (fun k i wr=>k=1∧i= .int .i64 0∧wr=w)
 case atStart=>exact⟨rfl,rfl,rfl⟩
 case round=>
  obtain⟨rfl,rfl,rfl⟩:=hrel
  go_wp2
  go_ret
  exact⟨rfl,Below.refl _ _⟩
theorem zq6 (b1 b2 O M:Nat) (K Y:Rw) (l:List Ep) (w:World) (q:OwnR w b1 97 4 K l.length (l.flatMap epL)) (h:OwnR w b2 97 4 Y l.length (l.flatMap epL)) (e1:K.a=some ⟨O,0,none⟩) (e2:Y.a=some ⟨M,0,none⟩) (hl:l.length≤4294967296):
  Calls Tryz.prog 104 #[.slice (some ⟨O,0,none⟩) l.length K.cap,.slice (some ⟨M,0,none⟩) l.length Y.cap] w fun e w'=>e= .returned (.bool true)∧Below w.heap.size w w':=by
 have H1:=zc q
 have H2:=zc h
 have E1:=zc e1
 have E2:=zc e2
 clear q h e1 e2
 go_enter Tryz.func104,Tryz.ntmps104
 go_wp2
 go_loopg [5] l.length (fun k i wr=>∃j:Nat,i= .int .i64 j∧j+k=l.length∧Below w.heap.size w wr)
 case atStart=>exact⟨0,rfl,by omega,Below.refl _ _⟩
 case round=>
  obtain⟨j,rfl,hj,hb⟩:=hrel
  have D:=zc hb
  clear hb
  by_cases J:j<l.length
  ·have E:(j:Int)<(l.length:Int):=by omega
   obtain⟨x,X⟩:=ze3 J
   obtain⟨N,Z,q⟩:=OwnR.elem (f:=epL) (m:=4) (fun _=>rfl) (H1.out.keep fun k g=>D.out.block k (H1.out.typed g).2.1) X
   obtain rfl:N=O:=by have:=Z.symm.trans E1.out;simpa using this
   obtain⟨N,gb,h⟩:=OwnR.elem (f:=epL) (m:=4) (fun _=>rfl) (H2.out.keep fun k g=>D.out.block k (H2.out.typed g).2.1) X
   obtain rfl:N=M:=by have:=gb.symm.trans E2.out;simpa using this
   have C0:=zc (q 0 (by omega))
   have D0:=zc (h 0 (by omega))
   have C1:=zc (q 1 (by omega))
   have D1:=zc (h 1 (by omega))
   have C2:=zc (q 2 (by omega))
   have D2:=zc (h 2 (by omega))
   have C3:=zc (q 3 (by omega))
   have D3:=zc (h 3 (by omega))
   clear q h Z gb X
   have cQ: ∀d os,Calls Tryz.prog 143 #[.agg #[.int .i64 x.kind,.string x.name,.string x.loc,.string x.spec],.agg #[.int .i64 x.kind,.string x.name,.string x.loc,.string x.spec]] (grow (redrawn wr d) os) fun e V=>e= .returned (.bool true)∧∃p:Regrown,V=grow (redrawn wr p.d) p.os:=fun d os=>Calls.regrown_of (zq4 x _)
   obtain⟨H,A⟩: ∃H,H=j+1:=⟨_,rfl⟩
   have ej:(j:Int)+1=(H:Int):=by omega
   have HJ:=zc A
   clear A
   go_wp2
   have k0:=cell_regrown C0.out
   have l0:=cell_regrown D0.out
   have k1:=cell_regrown C1.out
   have l1:=cell_regrown D1.out
   have k2:=cell_regrown C2.out
   have l2:=cell_regrown D2.out
   have k3:=cell_regrown C3.out
   have l3:=cell_regrown D3.out
   simp only[Nat.add_zero] at k0 l0
   refine wp_region_quiet_below (by kernel_rfl) (by kernel_rfl) ?_
   repeat (go_big_quiet_step (exact cQ _ _))
   refine wpQuiet_nil ?_
   intro w2 I
   obtain⟨⟨dq,L⟩,z⟩:=I
   have U:Hid (Below w.heap.size w w2):=by show Below _ _ _;rw[z];exact D.out.trans ((below_regrown wr dq L).mono D.out.size)
   clear z k0 l0 C0 D0 k1 l1 C1 D1 k2 l2 C2 D2 k3 l3 C3 D3 cQ
   go_wp2
   go_roundg (gk-1)
   case rel=>exact⟨H,rfl,by have:=HJ.out;omega,U.out⟩
   case measure=>omega
  ·have E: ¬(j:Int)<(l.length:Int):=by omega
   go_wp2
   go_ret
   exact⟨rfl,D.out⟩
theorem zq7 (A b2:Nat) (q h:Rw) (l:List Ep) (w:World) (H:OwnR w A 97 4 q l.length (l.flatMap epL)) (E:OwnR w b2 97 4 h l.length (l.flatMap epL)) (M:l.length≤4294967296):
  Calls Tryz.prog 104 #[.slice q.a l.length q.cap,.slice h.a l.length h.cap] w fun e L=>e= .returned (.bool true)∧Below w.heap.size w L:=by
 by_cases z:l.length=0
 ·rw[z]
  exact zq5 _ _ _ _ w
 ·rcases H.nil_or with ⟨_,_,e⟩|⟨K,D⟩
  ·exact absurd e z
  ·rcases E.nil_or with ⟨_,_,e⟩|⟨J,I⟩
   ·exact absurd e z
   ·rw[D,I]
    exact zq6 A b2 K J q h l w H E D I M
theorem zq8 (x:Sm) (w:World):Calls Tryz.prog 144 #[.agg #[.int .i64 x.kind,.string x.name,.int .i64 x.expr],.agg #[.int .i64 x.kind,.string x.name,.int .i64 x.expr]] w fun e h=>e= .returned (.bool true)∧Below w.heap.size w h:=by
 go_enter Tryz.func144,Tryz.ntmps144
 go_wp2
 go_ret
 exact⟨rfl,((Below.refl _ _).alloc (Nat.le_refl _) _).alloc (by show _≤(w.heap.push _).size;simp) _⟩
theorem zq9 (z A:Option Addr) (D h:Nat) (w:World):Calls Tryz.prog 105 #[.slice z 0 D,.slice A 0 h] w fun e q=>e= .returned (.bool true)∧Below w.heap.size w q:=by
 go_enter Tryz.func105,Tryz.ntmps105
 go_wp2
 go_loopg [5] 1 (fun k i wr=>k=1∧i= .int .i64 0∧wr=w)
 case atStart=>exact⟨rfl,rfl,rfl⟩
 case round=>
  obtain⟨rfl,rfl,rfl⟩:=hrel
  go_wp2
  go_ret
  exact⟨rfl,Below.refl _ _⟩
theorem zqA (b1 b2 O M:Nat) (K Y:Rw) (l:List Sm) (w:World) (z:OwnR w b1 102 3 K l.length (l.flatMap smL)) (q:OwnR w b2 102 3 Y l.length (l.flatMap smL)) (e1:K.a=some ⟨O,0,none⟩) (e2:Y.a=some ⟨M,0,none⟩) (hl:l.length≤4294967296):
  Calls Tryz.prog 105 #[.slice (some ⟨O,0,none⟩) l.length K.cap,.slice (some ⟨M,0,none⟩) l.length Y.cap] w fun e w'=>e= .returned (.bool true)∧Below w.heap.size w w':=by
 have H1:=zc z
 have H2:=zc q
 have E1:=zc e1
 have E2:=zc e2
 clear z q e1 e2
 go_enter Tryz.func105,Tryz.ntmps105
 go_wp2
 go_loopg [5] l.length (fun k i wr=>∃j:Nat,i= .int .i64 j∧j+k=l.length∧Below w.heap.size w wr)
 case atStart=>exact⟨0,rfl,by omega,Below.refl _ _⟩
 case round=>
  obtain⟨j,rfl,hj,hb⟩:=hrel
  have D:=zc hb
  clear hb
  by_cases J:j<l.length
  ·have E:(j:Int)<(l.length:Int):=by omega
   obtain⟨x,X⟩:=ze3 J
   obtain⟨N,Z,z⟩:=OwnR.elem (f:=smL) (m:=3) (fun _=>rfl) (H1.out.keep fun k g=>D.out.block k (H1.out.typed g).2.1) X
   obtain rfl:N=O:=by have:=Z.symm.trans E1.out;simpa using this
   obtain⟨N,gb,q⟩:=OwnR.elem (f:=smL) (m:=3) (fun _=>rfl) (H2.out.keep fun k g=>D.out.block k (H2.out.typed g).2.1) X
   obtain rfl:N=M:=by have:=gb.symm.trans E2.out;simpa using this
   have C0:=zc (z 0 (by omega))
   have D0:=zc (q 0 (by omega))
   have C1:=zc (z 1 (by omega))
   have D1:=zc (q 1 (by omega))
   have C2:=zc (z 2 (by omega))
   have D2:=zc (q 2 (by omega))
   clear z q Z gb X
   have cQ: ∀d os,Calls Tryz.prog 144 #[.agg #[.int .i64 x.kind,.string x.name,.int .i64 x.expr],.agg #[.int .i64 x.kind,.string x.name,.int .i64 x.expr]] (grow (redrawn wr d) os) fun e V=>e= .returned (.bool true)∧∃p:Regrown,V=grow (redrawn wr p.d) p.os:=fun d os=>Calls.regrown_of (zq8 x _)
   obtain⟨H,A⟩: ∃H,H=j+1:=⟨_,rfl⟩
   have ej:(j:Int)+1=(H:Int):=by omega
   have HJ:=zc A
   clear A
   go_wp2
   have k0:=cell_regrown C0.out
   have l0:=cell_regrown D0.out
   have k1:=cell_regrown C1.out
   have l1:=cell_regrown D1.out
   have k2:=cell_regrown C2.out
   have l2:=cell_regrown D2.out
   simp only[Nat.add_zero] at k0 l0
   refine wp_region_quiet_below (by kernel_rfl) (by kernel_rfl) ?_
   repeat (go_big_quiet_step (exact cQ _ _))
   refine wpQuiet_nil ?_
   intro w2 I
   obtain⟨⟨dq,L⟩,h⟩:=I
   have U:Hid (Below w.heap.size w w2):=by show Below _ _ _;rw[h];exact D.out.trans ((below_regrown wr dq L).mono D.out.size)
   clear h k0 l0 C0 D0 k1 l1 C1 D1 k2 l2 C2 D2 cQ
   go_wp2
   go_roundg (gk-1)
   case rel=>exact⟨H,rfl,by have:=HJ.out;omega,U.out⟩
   case measure=>omega
  ·have E: ¬(j:Int)<(l.length:Int):=by omega
   go_wp2
   go_ret
   exact⟨rfl,D.out⟩
theorem zqB (A b2:Nat) (q h:Rw) (l:List Sm) (w:World) (H:OwnR w A 102 3 q l.length (l.flatMap smL)) (E:OwnR w b2 102 3 h l.length (l.flatMap smL)) (M:l.length≤4294967296):
  Calls Tryz.prog 105 #[.slice q.a l.length q.cap,.slice h.a l.length h.cap] w fun e L=>e= .returned (.bool true)∧Below w.heap.size w L:=by
 by_cases z:l.length=0
 ·rw[z]
  exact zq9 _ _ _ _ w
 ·rcases H.nil_or with ⟨_,_,e⟩|⟨K,D⟩
  ·exact absurd e z
  ·rcases E.nil_or with ⟨_,_,e⟩|⟨J,I⟩
   ·exact absurd e z
   ·rw[D,I]
    exact zqA A b2 K J q h l w H E D I M
theorem zqC (x:Ex) (w:World):Calls Tryz.prog 145 #[.agg #[.int .i64 x.kind,.int .i64 x.num,.string x.name,.string x.field,.int .i64 x.l,.int .i64 x.r],.agg #[.int .i64 x.kind,.int .i64 x.num,.string x.name,.string x.field,.int .i64 x.l,.int .i64 x.r]] w fun e h=>e= .returned (.bool true)∧Below w.heap.size w h:=by
 go_enter Tryz.func145,Tryz.ntmps145
 go_wp2
 go_ret
 exact⟨rfl,((Below.refl _ _).alloc (Nat.le_refl _) _).alloc (by show _≤(w.heap.push _).size;simp) _⟩
theorem zqD (z A:Option Addr) (D h:Nat) (w:World):Calls Tryz.prog 106 #[.slice z 0 D,.slice A 0 h] w fun e q=>e= .returned (.bool true)∧Below w.heap.size w q:=by
 go_enter Tryz.func106,Tryz.ntmps106
 go_wp2
 go_loopg [5] 1 (fun k i wr=>k=1∧i= .int .i64 0∧wr=w)
 case atStart=>exact⟨rfl,rfl,rfl⟩
 case round=>
  obtain⟨rfl,rfl,rfl⟩:=hrel
  go_wp2
  go_ret
  exact⟨rfl,Below.refl _ _⟩
theorem zqE (b1 b2 O M:Nat) (K Y:Rw) (l:List Ex) (w:World) (q:OwnR w b1 100 6 K l.length (l.flatMap exL)) (h:OwnR w b2 100 6 Y l.length (l.flatMap exL)) (e1:K.a=some ⟨O,0,none⟩) (e2:Y.a=some ⟨M,0,none⟩) (hl:l.length≤4294967296):
  Calls Tryz.prog 106 #[.slice (some ⟨O,0,none⟩) l.length K.cap,.slice (some ⟨M,0,none⟩) l.length Y.cap] w fun e w'=>e= .returned (.bool true)∧Below w.heap.size w w':=by
 have H1:=zc q
 have H2:=zc h
 have E1:=zc e1
 have E2:=zc e2
 clear q h e1 e2
 go_enter Tryz.func106,Tryz.ntmps106
 go_wp2
 go_loopg [5] l.length (fun k i wr=>∃j:Nat,i= .int .i64 j∧j+k=l.length∧Below w.heap.size w wr)
 case atStart=>exact⟨0,rfl,by omega,Below.refl _ _⟩
 case round=>
  obtain⟨j,rfl,hj,hb⟩:=hrel
  have D:=zc hb
  clear hb
  by_cases J:j<l.length
  ·have E:(j:Int)<(l.length:Int):=by omega
   obtain⟨x,X⟩:=ze3 J
   obtain⟨N,Z,q⟩:=OwnR.elem (f:=exL) (m:=6) (fun _=>rfl) (H1.out.keep fun k g=>D.out.block k (H1.out.typed g).2.1) X
   obtain rfl:N=O:=by have:=Z.symm.trans E1.out;simpa using this
   obtain⟨N,gb,h⟩:=OwnR.elem (f:=exL) (m:=6) (fun _=>rfl) (H2.out.keep fun k g=>D.out.block k (H2.out.typed g).2.1) X
   obtain rfl:N=M:=by have:=gb.symm.trans E2.out;simpa using this
   have C0:=zc (q 0 (by omega))
   have D0:=zc (h 0 (by omega))
   have C1:=zc (q 1 (by omega))
   have D1:=zc (h 1 (by omega))
   have C2:=zc (q 2 (by omega))
   have D2:=zc (h 2 (by omega))
   have C3:=zc (q 3 (by omega))
   have D3:=zc (h 3 (by omega))
   have C4:=zc (q 4 (by omega))
   have D4:=zc (h 4 (by omega))
   have C5:=zc (q 5 (by omega))
   have D5:=zc (h 5 (by omega))
   clear q h Z gb X
   have cQ: ∀d os,Calls Tryz.prog 145 #[.agg #[.int .i64 x.kind,.int .i64 x.num,.string x.name,.string x.field,.int .i64 x.l,.int .i64 x.r],.agg #[.int .i64 x.kind,.int .i64 x.num,.string x.name,.string x.field,.int .i64 x.l,.int .i64 x.r]] (grow (redrawn wr d) os) fun e V=>e= .returned (.bool true)∧∃p:Regrown,V=grow (redrawn wr p.d) p.os:=fun d os=>Calls.regrown_of (zqC x _)
   obtain⟨H,A⟩: ∃H,H=j+1:=⟨_,rfl⟩
   have ej:(j:Int)+1=(H:Int):=by omega
   have HJ:=zc A
   clear A
   go_wp2
   have k0:=cell_regrown C0.out
   have l0:=cell_regrown D0.out
   have k1:=cell_regrown C1.out
   have l1:=cell_regrown D1.out
   have k2:=cell_regrown C2.out
   have l2:=cell_regrown D2.out
   have k3:=cell_regrown C3.out
   have l3:=cell_regrown D3.out
   have k4:=cell_regrown C4.out
   have l4:=cell_regrown D4.out
   have k5:=cell_regrown C5.out
   have l5:=cell_regrown D5.out
   simp only[Nat.add_zero] at k0 l0
   refine wp_region_quiet_below (by kernel_rfl) (by kernel_rfl) ?_
   repeat (go_big_quiet_step (exact cQ _ _))
   refine wpQuiet_nil ?_
   intro w2 I
   obtain⟨⟨dq,L⟩,z⟩:=I
   have U:Hid (Below w.heap.size w w2):=by show Below _ _ _;rw[z];exact D.out.trans ((below_regrown wr dq L).mono D.out.size)
   clear z k0 l0 C0 D0 k1 l1 C1 D1 k2 l2 C2 D2 k3 l3 C3 D3 k4 l4 C4 D4 k5 l5 C5 D5 cQ
   go_wp2
   go_roundg (gk-1)
   case rel=>exact⟨H,rfl,by have:=HJ.out;omega,U.out⟩
   case measure=>omega
  ·have E: ¬(j:Int)<(l.length:Int):=by omega
   go_wp2
   go_ret
   exact⟨rfl,D.out⟩
theorem zqF (A b2:Nat) (q h:Rw) (l:List Ex) (w:World) (H:OwnR w A 100 6 q l.length (l.flatMap exL)) (E:OwnR w b2 100 6 h l.length (l.flatMap exL)) (M:l.length≤4294967296):
  Calls Tryz.prog 106 #[.slice q.a l.length q.cap,.slice h.a l.length h.cap] w fun e L=>e= .returned (.bool true)∧Below w.heap.size w L:=by
 by_cases z:l.length=0
 ·rw[z]
  exact zqD _ _ _ _ w
 ·rcases H.nil_or with ⟨_,_,e⟩|⟨K,D⟩
  ·exact absurd e z
  ·rcases E.nil_or with ⟨_,_,e⟩|⟨J,I⟩
   ·exact absurd e z
   ·rw[D,I]
    exact zqE A b2 K J q h l w H E D I M
end Go.Proofs.YtgcbmogmniahjaaGreat
