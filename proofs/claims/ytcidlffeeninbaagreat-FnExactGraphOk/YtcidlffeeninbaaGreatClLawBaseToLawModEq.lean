/-
  What the laws' helpers over rows lean on. No program is spoken of.
  What the laws' comparers of lists answer where both show the same: the walks.
-/
import Derived.Laws.OwnMore
import Derived.Test.YtcidlffeeninbaaGreatClImplParseJToEqRow
namespace Go.Proofs.YtcidlffeeninbaaGreat
set_option maxRecDepth 100000
set_option maxHeartbeats 3200000
open Go.RowKit Go.PlainAid Go.Sort
theorem zel {α:Type} {l:List α} {j:Nat} (h:j<l.length): ∃x,l[j]? =some x:=⟨_,List.getElem?_eq_getElem h⟩
theorem zpo (D A:Option Addr) (z h:Nat) (w:World):Calls Tryz.prog 25 #[.slice D 0 z,.slice A 0 h] w fun e q=>e= .returned (.bool true)∧Below w.heap.size w q:=by
 go_enter Tryz.func25,Tryz.ntmps25
 go_wp2
 go_loopg [5] 1 (fun k i wr=>k=1∧i= .int .i64 0∧wr=w)
 case atStart=>exact⟨rfl,rfl,rfl⟩
 case round=>
  obtain⟨rfl,rfl,rfl⟩:=hrel
  go_wp2
  go_ret
  exact⟨rfl,Below.refl _ _⟩
theorem zpp (b1 b2 V J:Nat) (U O:Rw) (l:List ByteArray) (w:World) (E:OwnR w b1 9 1 U l.length (l.flatMap (fun x=>[Value.string x]))) (z:OwnR w b2 9 1 O l.length (l.flatMap (fun x=>[Value.string x]))) (e1:U.a=some ⟨V,0,none⟩) (e2:O.a=some ⟨J,0,none⟩) (hl:l.length≤4294967296):
  Calls Tryz.prog 25 #[.slice (some ⟨V,0,none⟩) l.length U.cap,.slice (some ⟨J,0,none⟩) l.length O.cap] w fun e w'=>e= .returned (.bool true)∧Below w.heap.size w w':=by
 have H1:=zc E
 have H2:=zc z
 have E1:=zc e1
 have E2:=zc e2
 clear E z e1 e2
 go_enter Tryz.func25,Tryz.ntmps25
 go_wp2
 go_loopg [5] l.length (fun k i wr=>∃j:Nat,i= .int .i64 j∧j+k=l.length∧Below w.heap.size w wr)
 case atStart=>exact⟨0,rfl,by omega,Below.refl _ _⟩
 case round=>
  obtain⟨j,rfl,hj,hb⟩:=hrel
  have q:=zc hb
  clear hb
  by_cases K:j<l.length
  ·have D:(j:Int)<(l.length:Int):=by omega
   obtain⟨x,L⟩:=zel K
   obtain⟨I,ga,E⟩:=OwnR.elem (f:=(fun x=>[Value.string x])) (m:=1) (fun _=>rfl) (H1.out.keep fun k g=>q.out.block k (H1.out.typed g).2.1) L
   obtain rfl:I=V:=by have:=ga.symm.trans E1.out;simpa using this
   obtain⟨I,gb,z⟩:=OwnR.elem (f:=(fun x=>[Value.string x])) (m:=1) (fun _=>rfl) (H2.out.keep fun k g=>q.out.block k (H2.out.typed g).2.1) L
   obtain rfl:I=J:=by have:=gb.symm.trans E2.out;simpa using this
   have Z:=zc (E 0 (by omega))
   have D0:=zc (z 0 (by omega))
   clear E z ga gb L
   obtain⟨H,A⟩: ∃H,H=j+1:=⟨_,rfl⟩
   have ej:(j:Int)+1=(H:Int):=by omega
   have HJ:=zc A
   clear A
   go_wp2
   have k0:=cell_regrown Z.out
   have Y:=cell_regrown D0.out
   simp only[Nat.add_zero,Nat.mul_one] at k0 Y
   refine wp_region_quiet_below (by kernel_rfl) (by kernel_rfl) ?_
   repeat (go_big_quiet_step (fail))
   refine wpQuiet_nil ?_
   intro w2 M
   obtain⟨⟨dq,X⟩,h⟩:=M
   have N:Hid (Below w.heap.size w w2):=by show Below _ _ _;rw[h];exact q.out.trans ((below_regrown wr dq X).mono q.out.size)
   clear h k0 Y Z D0
   go_wp2
   go_roundg (gk-1)
   case rel=>exact⟨H,rfl,by have:=HJ.out;omega,N.out⟩
   case measure=>omega
  ·have D: ¬(j:Int)<(l.length:Int):=by omega
   go_wp2
   go_ret
   exact⟨rfl,q.out⟩
theorem zjV (H b2:Nat) (q h:Rw) (l:List ByteArray) (w:World) (A:OwnR w H 9 1 q l.length (l.flatMap (fun x=>[Value.string x]))) (D:OwnR w b2 9 1 h l.length (l.flatMap (fun x=>[Value.string x]))) (J:l.length≤4294967296):
  Calls Tryz.prog 25 #[.slice q.a l.length q.cap,.slice h.a l.length h.cap] w fun e K=>e= .returned (.bool true)∧Below w.heap.size w K:=by
 by_cases z:l.length=0
 ·rw[z]
  exact zpo _ _ _ _ w
 ·rcases A.nil_or with ⟨_,_,e⟩|⟨M,I⟩
  ·exact absurd e z
  ·rcases D.nil_or with ⟨_,_,e⟩|⟨L,E⟩
   ·exact absurd e z
   ·rw[I,E]
    exact zpp H b2 M L q h l w A D I E J
theorem zpq (x:Im) (w:World):Calls Tryz.prog 121 #[.agg #[.string x.spec,.string x.first,.string x.loc],.agg #[.string x.spec,.string x.first,.string x.loc]] w fun e h=>e= .returned (.bool true)∧Below w.heap.size w h:=by
 go_enter Tryz.func121,Tryz.ntmps121
 go_wp2
 go_ret
 exact⟨rfl,((Below.refl _ _).alloc (Nat.le_refl _) _).alloc (by show _≤(w.heap.push _).size;simp) _⟩
theorem zpr (D A:Option Addr) (z h:Nat) (w:World):Calls Tryz.prog 76 #[.slice D 0 z,.slice A 0 h] w fun e q=>e= .returned (.bool true)∧Below w.heap.size w q:=by
 go_enter Tryz.func76,Tryz.ntmps76
 go_wp2
 go_loopg [5] 1 (fun k i wr=>k=1∧i= .int .i64 0∧wr=w)
 case atStart=>exact⟨rfl,rfl,rfl⟩
 case round=>
  obtain⟨rfl,rfl,rfl⟩:=hrel
  go_wp2
  go_ret
  exact⟨rfl,Below.refl _ _⟩
theorem zps (b1 b2 X J:Nat) (V U:Rw) (l:List Im) (w:World) (z:OwnR w b1 80 3 V l.length (l.flatMap imL)) (q:OwnR w b2 80 3 U l.length (l.flatMap imL)) (e1:V.a=some ⟨X,0,none⟩) (e2:U.a=some ⟨J,0,none⟩) (hl:l.length≤4294967296):
  Calls Tryz.prog 76 #[.slice (some ⟨X,0,none⟩) l.length V.cap,.slice (some ⟨J,0,none⟩) l.length U.cap] w fun e w'=>e= .returned (.bool true)∧Below w.heap.size w w':=by
 have H1:=zc z
 have H2:=zc q
 have E1:=zc e1
 have E2:=zc e2
 clear z q e1 e2
 go_enter Tryz.func76,Tryz.ntmps76
 go_wp2
 go_loopg [5] l.length (fun k i wr=>∃j:Nat,i= .int .i64 j∧j+k=l.length∧Below w.heap.size w wr)
 case atStart=>exact⟨0,rfl,by omega,Below.refl _ _⟩
 case round=>
  obtain⟨j,rfl,hj,hb⟩:=hrel
  have A:=zc hb
  clear hb
  by_cases K:j<l.length
  ·have D:(j:Int)<(l.length:Int):=by omega
   obtain⟨x,L⟩:=zel K
   obtain⟨I,ga,z⟩:=OwnR.elem (f:=imL) (m:=3) (fun _=>rfl) (H1.out.keep fun k g=>A.out.block k (H1.out.typed g).2.1) L
   obtain rfl:I=X:=by have:=ga.symm.trans E1.out;simpa using this
   obtain⟨I,gb,q⟩:=OwnR.elem (f:=imL) (m:=3) (fun _=>rfl) (H2.out.keep fun k g=>A.out.block k (H2.out.typed g).2.1) L
   obtain rfl:I=J:=by have:=gb.symm.trans E2.out;simpa using this
   have C0:=zc (z 0 (by omega))
   have D0:=zc (q 0 (by omega))
   have C1:=zc (z 1 (by omega))
   have D1:=zc (q 1 (by omega))
   have C2:=zc (z 2 (by omega))
   have D2:=zc (q 2 (by omega))
   clear z q ga gb L
   have cQ: ∀d os,Calls Tryz.prog 121 #[.agg #[.string x.spec,.string x.first,.string x.loc],.agg #[.string x.spec,.string x.first,.string x.loc]] (grow (redrawn wr d) os) fun e O=>e= .returned (.bool true)∧∃p:Regrown,O=grow (redrawn wr p.d) p.os:=fun d os=>Calls.regrown_of (zpq x _)
   obtain⟨H,E⟩: ∃H,H=j+1:=⟨_,rfl⟩
   have ej:(j:Int)+1=(H:Int):=by omega
   have HJ:=zc E
   clear E
   go_wp2
   have k0:=cell_regrown C0.out
   have Z:=cell_regrown D0.out
   have k1:=cell_regrown C1.out
   have l1:=cell_regrown D1.out
   have k2:=cell_regrown C2.out
   have l2:=cell_regrown D2.out
   simp only[Nat.add_zero] at k0 Z
   refine wp_region_quiet_below (by kernel_rfl) (by kernel_rfl) ?_
   repeat (go_big_quiet_step (exact cQ _ _))
   refine wpQuiet_nil ?_
   intro w2 M
   obtain⟨⟨dq,Y⟩,h⟩:=M
   have N:Hid (Below w.heap.size w w2):=by show Below _ _ _;rw[h];exact A.out.trans ((below_regrown wr dq Y).mono A.out.size)
   clear h k0 Z C0 D0 k1 l1 C1 D1 k2 l2 C2 D2 cQ
   go_wp2
   go_roundg (gk-1)
   case rel=>exact⟨H,rfl,by have:=HJ.out;omega,N.out⟩
   case measure=>omega
  ·have D: ¬(j:Int)<(l.length:Int):=by omega
   go_wp2
   go_ret
   exact⟨rfl,A.out⟩
theorem zpt (H b2:Nat) (q h:Rw) (l:List Im) (w:World) (A:OwnR w H 80 3 q l.length (l.flatMap imL)) (D:OwnR w b2 80 3 h l.length (l.flatMap imL)) (J:l.length≤4294967296):
  Calls Tryz.prog 76 #[.slice q.a l.length q.cap,.slice h.a l.length h.cap] w fun e K=>e= .returned (.bool true)∧Below w.heap.size w K:=by
 by_cases z:l.length=0
 ·rw[z]
  exact zpr _ _ _ _ w
 ·rcases A.nil_or with ⟨_,_,e⟩|⟨M,I⟩
  ·exact absurd e z
  ·rcases D.nil_or with ⟨_,_,e⟩|⟨L,E⟩
   ·exact absurd e z
   ·rw[I,E]
    exact zps H b2 M L q h l w A D I E J
theorem zpu (x:Ep) (w:World):Calls Tryz.prog 122 #[.agg #[.int .i64 x.kind,.string x.name,.string x.loc,.string x.spec],.agg #[.int .i64 x.kind,.string x.name,.string x.loc,.string x.spec]] w fun e h=>e= .returned (.bool true)∧Below w.heap.size w h:=by
 go_enter Tryz.func122,Tryz.ntmps122
 go_wp2
 go_ret
 exact⟨rfl,((Below.refl _ _).alloc (Nat.le_refl _) _).alloc (by show _≤(w.heap.push _).size;simp) _⟩
theorem zpv (z D:Option Addr) (A h:Nat) (w:World):Calls Tryz.prog 77 #[.slice z 0 A,.slice D 0 h] w fun e q=>e= .returned (.bool true)∧Below w.heap.size w q:=by
 go_enter Tryz.func77,Tryz.ntmps77
 go_wp2
 go_loopg [5] 1 (fun k i wr=>k=1∧i= .int .i64 0∧wr=w)
 case atStart=>exact⟨rfl,rfl,rfl⟩
 case round=>
  obtain⟨rfl,rfl,rfl⟩:=hrel
  go_wp2
  go_ret
  exact⟨rfl,Below.refl _ _⟩
theorem zpw (b1 b2 X J:Nat) (V U:Rw) (l:List Ep) (w:World) (q:OwnR w b1 82 4 V l.length (l.flatMap epL)) (h:OwnR w b2 82 4 U l.length (l.flatMap epL)) (e1:V.a=some ⟨X,0,none⟩) (e2:U.a=some ⟨J,0,none⟩) (hl:l.length≤4294967296):
  Calls Tryz.prog 77 #[.slice (some ⟨X,0,none⟩) l.length V.cap,.slice (some ⟨J,0,none⟩) l.length U.cap] w fun e w'=>e= .returned (.bool true)∧Below w.heap.size w w':=by
 have H1:=zc q
 have H2:=zc h
 have E1:=zc e1
 have E2:=zc e2
 clear q h e1 e2
 go_enter Tryz.func77,Tryz.ntmps77
 go_wp2
 go_loopg [5] l.length (fun k i wr=>∃j:Nat,i= .int .i64 j∧j+k=l.length∧Below w.heap.size w wr)
 case atStart=>exact⟨0,rfl,by omega,Below.refl _ _⟩
 case round=>
  obtain⟨j,rfl,hj,hb⟩:=hrel
  have A:=zc hb
  clear hb
  by_cases K:j<l.length
  ·have D:(j:Int)<(l.length:Int):=by omega
   obtain⟨x,L⟩:=zel K
   obtain⟨I,ga,q⟩:=OwnR.elem (f:=epL) (m:=4) (fun _=>rfl) (H1.out.keep fun k g=>A.out.block k (H1.out.typed g).2.1) L
   obtain rfl:I=X:=by have:=ga.symm.trans E1.out;simpa using this
   obtain⟨I,gb,h⟩:=OwnR.elem (f:=epL) (m:=4) (fun _=>rfl) (H2.out.keep fun k g=>A.out.block k (H2.out.typed g).2.1) L
   obtain rfl:I=J:=by have:=gb.symm.trans E2.out;simpa using this
   have C0:=zc (q 0 (by omega))
   have D0:=zc (h 0 (by omega))
   have C1:=zc (q 1 (by omega))
   have D1:=zc (h 1 (by omega))
   have C2:=zc (q 2 (by omega))
   have D2:=zc (h 2 (by omega))
   have C3:=zc (q 3 (by omega))
   have D3:=zc (h 3 (by omega))
   clear q h ga gb L
   have cQ: ∀d os,Calls Tryz.prog 122 #[.agg #[.int .i64 x.kind,.string x.name,.string x.loc,.string x.spec],.agg #[.int .i64 x.kind,.string x.name,.string x.loc,.string x.spec]] (grow (redrawn wr d) os) fun e O=>e= .returned (.bool true)∧∃p:Regrown,O=grow (redrawn wr p.d) p.os:=fun d os=>Calls.regrown_of (zpu x _)
   obtain⟨H,E⟩: ∃H,H=j+1:=⟨_,rfl⟩
   have ej:(j:Int)+1=(H:Int):=by omega
   have HJ:=zc E
   clear E
   go_wp2
   have k0:=cell_regrown C0.out
   have Z:=cell_regrown D0.out
   have k1:=cell_regrown C1.out
   have l1:=cell_regrown D1.out
   have k2:=cell_regrown C2.out
   have l2:=cell_regrown D2.out
   have k3:=cell_regrown C3.out
   have l3:=cell_regrown D3.out
   simp only[Nat.add_zero] at k0 Z
   refine wp_region_quiet_below (by kernel_rfl) (by kernel_rfl) ?_
   repeat (go_big_quiet_step (exact cQ _ _))
   refine wpQuiet_nil ?_
   intro w2 M
   obtain⟨⟨dq,Y⟩,z⟩:=M
   have N:Hid (Below w.heap.size w w2):=by show Below _ _ _;rw[z];exact A.out.trans ((below_regrown wr dq Y).mono A.out.size)
   clear z k0 Z C0 D0 k1 l1 C1 D1 k2 l2 C2 D2 k3 l3 C3 D3 cQ
   go_wp2
   go_roundg (gk-1)
   case rel=>exact⟨H,rfl,by have:=HJ.out;omega,N.out⟩
   case measure=>omega
  ·have D: ¬(j:Int)<(l.length:Int):=by omega
   go_wp2
   go_ret
   exact⟨rfl,A.out⟩
theorem zpx (H b2:Nat) (q h:Rw) (l:List Ep) (w:World) (A:OwnR w H 82 4 q l.length (l.flatMap epL)) (D:OwnR w b2 82 4 h l.length (l.flatMap epL)) (J:l.length≤4294967296):
  Calls Tryz.prog 77 #[.slice q.a l.length q.cap,.slice h.a l.length h.cap] w fun e K=>e= .returned (.bool true)∧Below w.heap.size w K:=by
 by_cases z:l.length=0
 ·rw[z]
  exact zpv _ _ _ _ w
 ·rcases A.nil_or with ⟨_,_,e⟩|⟨M,I⟩
  ·exact absurd e z
  ·rcases D.nil_or with ⟨_,_,e⟩|⟨L,E⟩
   ·exact absurd e z
   ·rw[I,E]
    exact zpw H b2 M L q h l w A D I E J
theorem zpy (x:Sm) (w:World):Calls Tryz.prog 123 #[.agg #[.int .i64 x.kind,.string x.name,.int .i64 x.expr],.agg #[.int .i64 x.kind,.string x.name,.int .i64 x.expr]] w fun e h=>e= .returned (.bool true)∧Below w.heap.size w h:=by
 go_enter Tryz.func123,Tryz.ntmps123
 go_wp2
 go_ret
 exact⟨rfl,((Below.refl _ _).alloc (Nat.le_refl _) _).alloc (by show _≤(w.heap.push _).size;simp) _⟩
theorem zpz (D A:Option Addr) (z h:Nat) (w:World):Calls Tryz.prog 78 #[.slice D 0 z,.slice A 0 h] w fun e q=>e= .returned (.bool true)∧Below w.heap.size w q:=by
 go_enter Tryz.func78,Tryz.ntmps78
 go_wp2
 go_loopg [5] 1 (fun k i wr=>k=1∧i= .int .i64 0∧wr=w)
 case atStart=>exact⟨rfl,rfl,rfl⟩
 case round=>
  obtain⟨rfl,rfl,rfl⟩:=hrel
  go_wp2
  go_ret
  exact⟨rfl,Below.refl _ _⟩
theorem zp0 (b1 b2 X J:Nat) (V U:Rw) (l:List Sm) (w:World) (z:OwnR w b1 87 3 V l.length (l.flatMap smL)) (q:OwnR w b2 87 3 U l.length (l.flatMap smL)) (e1:V.a=some ⟨X,0,none⟩) (e2:U.a=some ⟨J,0,none⟩) (hl:l.length≤4294967296):
  Calls Tryz.prog 78 #[.slice (some ⟨X,0,none⟩) l.length V.cap,.slice (some ⟨J,0,none⟩) l.length U.cap] w fun e w'=>e= .returned (.bool true)∧Below w.heap.size w w':=by
 have H1:=zc z
 have H2:=zc q
 have E1:=zc e1
 have E2:=zc e2
 clear z q e1 e2
 go_enter Tryz.func78,Tryz.ntmps78
 go_wp2
 go_loopg [5] l.length (fun k i wr=>∃j:Nat,i= .int .i64 j∧j+k=l.length∧Below w.heap.size w wr)
 case atStart=>exact⟨0,rfl,by omega,Below.refl _ _⟩
 case round=>
  obtain⟨j,rfl,hj,hb⟩:=hrel
  have A:=zc hb
  clear hb
  by_cases K:j<l.length
  ·have D:(j:Int)<(l.length:Int):=by omega
   obtain⟨x,L⟩:=zel K
   obtain⟨I,ga,z⟩:=OwnR.elem (f:=smL) (m:=3) (fun _=>rfl) (H1.out.keep fun k g=>A.out.block k (H1.out.typed g).2.1) L
   obtain rfl:I=X:=by have:=ga.symm.trans E1.out;simpa using this
   obtain⟨I,gb,q⟩:=OwnR.elem (f:=smL) (m:=3) (fun _=>rfl) (H2.out.keep fun k g=>A.out.block k (H2.out.typed g).2.1) L
   obtain rfl:I=J:=by have:=gb.symm.trans E2.out;simpa using this
   have C0:=zc (z 0 (by omega))
   have D0:=zc (q 0 (by omega))
   have C1:=zc (z 1 (by omega))
   have D1:=zc (q 1 (by omega))
   have C2:=zc (z 2 (by omega))
   have D2:=zc (q 2 (by omega))
   clear z q ga gb L
   have cQ: ∀d os,Calls Tryz.prog 123 #[.agg #[.int .i64 x.kind,.string x.name,.int .i64 x.expr],.agg #[.int .i64 x.kind,.string x.name,.int .i64 x.expr]] (grow (redrawn wr d) os) fun e O=>e= .returned (.bool true)∧∃p:Regrown,O=grow (redrawn wr p.d) p.os:=fun d os=>Calls.regrown_of (zpy x _)
   obtain⟨H,E⟩: ∃H,H=j+1:=⟨_,rfl⟩
   have ej:(j:Int)+1=(H:Int):=by omega
   have HJ:=zc E
   clear E
   go_wp2
   have k0:=cell_regrown C0.out
   have Z:=cell_regrown D0.out
   have k1:=cell_regrown C1.out
   have l1:=cell_regrown D1.out
   have k2:=cell_regrown C2.out
   have l2:=cell_regrown D2.out
   simp only[Nat.add_zero] at k0 Z
   refine wp_region_quiet_below (by kernel_rfl) (by kernel_rfl) ?_
   repeat (go_big_quiet_step (exact cQ _ _))
   refine wpQuiet_nil ?_
   intro w2 M
   obtain⟨⟨dq,Y⟩,h⟩:=M
   have N:Hid (Below w.heap.size w w2):=by show Below _ _ _;rw[h];exact A.out.trans ((below_regrown wr dq Y).mono A.out.size)
   clear h k0 Z C0 D0 k1 l1 C1 D1 k2 l2 C2 D2 cQ
   go_wp2
   go_roundg (gk-1)
   case rel=>exact⟨H,rfl,by have:=HJ.out;omega,N.out⟩
   case measure=>omega
  ·have D: ¬(j:Int)<(l.length:Int):=by omega
   go_wp2
   go_ret
   exact⟨rfl,A.out⟩
theorem zp1 (H b2:Nat) (q h:Rw) (l:List Sm) (w:World) (A:OwnR w H 87 3 q l.length (l.flatMap smL)) (D:OwnR w b2 87 3 h l.length (l.flatMap smL)) (J:l.length≤4294967296):
  Calls Tryz.prog 78 #[.slice q.a l.length q.cap,.slice h.a l.length h.cap] w fun e K=>e= .returned (.bool true)∧Below w.heap.size w K:=by
 by_cases z:l.length=0
 ·rw[z]
  exact zpz _ _ _ _ w
 ·rcases A.nil_or with ⟨_,_,e⟩|⟨M,I⟩
  ·exact absurd e z
  ·rcases D.nil_or with ⟨_,_,e⟩|⟨L,E⟩
   ·exact absurd e z
   ·rw[I,E]
    exact zp0 H b2 M L q h l w A D I E J
theorem zp2 (x:Ex) (w:World):Calls Tryz.prog 124 #[.agg #[.int .i64 x.kind,.int .i64 x.num,.string x.name,.string x.field,.int .i64 x.l,.int .i64 x.r],.agg #[.int .i64 x.kind,.int .i64 x.num,.string x.name,.string x.field,.int .i64 x.l,.int .i64 x.r]] w fun e h=>e= .returned (.bool true)∧Below w.heap.size w h:=by
 go_enter Tryz.func124,Tryz.ntmps124
 go_wp2
 go_ret
 exact⟨rfl,((Below.refl _ _).alloc (Nat.le_refl _) _).alloc (by show _≤(w.heap.push _).size;simp) _⟩
theorem zp3 (z D:Option Addr) (A h:Nat) (w:World):Calls Tryz.prog 79 #[.slice z 0 A,.slice D 0 h] w fun e q=>e= .returned (.bool true)∧Below w.heap.size w q:=by
 go_enter Tryz.func79,Tryz.ntmps79
 go_wp2
 go_loopg [5] 1 (fun k i wr=>k=1∧i= .int .i64 0∧wr=w)
 case atStart=>exact⟨rfl,rfl,rfl⟩
 case round=>
  obtain⟨rfl,rfl,rfl⟩:=hrel
  go_wp2
  go_ret
  exact⟨rfl,Below.refl _ _⟩
theorem zp4 (b1 b2 X J:Nat) (V U:Rw) (l:List Ex) (w:World) (q:OwnR w b1 85 6 V l.length (l.flatMap exL)) (h:OwnR w b2 85 6 U l.length (l.flatMap exL)) (e1:V.a=some ⟨X,0,none⟩) (e2:U.a=some ⟨J,0,none⟩) (hl:l.length≤4294967296):
  Calls Tryz.prog 79 #[.slice (some ⟨X,0,none⟩) l.length V.cap,.slice (some ⟨J,0,none⟩) l.length U.cap] w fun e w'=>e= .returned (.bool true)∧Below w.heap.size w w':=by
 have H1:=zc q
 have H2:=zc h
 have E1:=zc e1
 have E2:=zc e2
 clear q h e1 e2
 go_enter Tryz.func79,Tryz.ntmps79
 go_wp2
 go_loopg [5] l.length (fun k i wr=>∃j:Nat,i= .int .i64 j∧j+k=l.length∧Below w.heap.size w wr)
 case atStart=>exact⟨0,rfl,by omega,Below.refl _ _⟩
 case round=>
  obtain⟨j,rfl,hj,hb⟩:=hrel
  have A:=zc hb
  clear hb
  by_cases K:j<l.length
  ·have D:(j:Int)<(l.length:Int):=by omega
   obtain⟨x,L⟩:=zel K
   obtain⟨I,ga,q⟩:=OwnR.elem (f:=exL) (m:=6) (fun _=>rfl) (H1.out.keep fun k g=>A.out.block k (H1.out.typed g).2.1) L
   obtain rfl:I=X:=by have:=ga.symm.trans E1.out;simpa using this
   obtain⟨I,gb,h⟩:=OwnR.elem (f:=exL) (m:=6) (fun _=>rfl) (H2.out.keep fun k g=>A.out.block k (H2.out.typed g).2.1) L
   obtain rfl:I=J:=by have:=gb.symm.trans E2.out;simpa using this
   have C0:=zc (q 0 (by omega))
   have D0:=zc (h 0 (by omega))
   have C1:=zc (q 1 (by omega))
   have D1:=zc (h 1 (by omega))
   have C2:=zc (q 2 (by omega))
   have D2:=zc (h 2 (by omega))
   have C3:=zc (q 3 (by omega))
   have D3:=zc (h 3 (by omega))
   have C4:=zc (q 4 (by omega))
   have D4:=zc (h 4 (by omega))
   have C5:=zc (q 5 (by omega))
   have D5:=zc (h 5 (by omega))
   clear q h ga gb L
   have cQ: ∀d os,Calls Tryz.prog 124 #[.agg #[.int .i64 x.kind,.int .i64 x.num,.string x.name,.string x.field,.int .i64 x.l,.int .i64 x.r],.agg #[.int .i64 x.kind,.int .i64 x.num,.string x.name,.string x.field,.int .i64 x.l,.int .i64 x.r]] (grow (redrawn wr d) os) fun e O=>e= .returned (.bool true)∧∃p:Regrown,O=grow (redrawn wr p.d) p.os:=fun d os=>Calls.regrown_of (zp2 x _)
   obtain⟨H,E⟩: ∃H,H=j+1:=⟨_,rfl⟩
   have ej:(j:Int)+1=(H:Int):=by omega
   have HJ:=zc E
   clear E
   go_wp2
   have k0:=cell_regrown C0.out
   have Z:=cell_regrown D0.out
   have k1:=cell_regrown C1.out
   have l1:=cell_regrown D1.out
   have k2:=cell_regrown C2.out
   have l2:=cell_regrown D2.out
   have k3:=cell_regrown C3.out
   have l3:=cell_regrown D3.out
   have k4:=cell_regrown C4.out
   have l4:=cell_regrown D4.out
   have k5:=cell_regrown C5.out
   have l5:=cell_regrown D5.out
   simp only[Nat.add_zero] at k0 Z
   refine wp_region_quiet_below (by kernel_rfl) (by kernel_rfl) ?_
   repeat (go_big_quiet_step (exact cQ _ _))
   refine wpQuiet_nil ?_
   intro w2 M
   obtain⟨⟨dq,Y⟩,z⟩:=M
   have N:Hid (Below w.heap.size w w2):=by show Below _ _ _;rw[z];exact A.out.trans ((below_regrown wr dq Y).mono A.out.size)
   clear z k0 Z C0 D0 k1 l1 C1 D1 k2 l2 C2 D2 k3 l3 C3 D3 k4 l4 C4 D4 k5 l5 C5 D5 cQ
   go_wp2
   go_roundg (gk-1)
   case rel=>exact⟨H,rfl,by have:=HJ.out;omega,N.out⟩
   case measure=>omega
  ·have D: ¬(j:Int)<(l.length:Int):=by omega
   go_wp2
   go_ret
   exact⟨rfl,A.out⟩
theorem zp5 (H b2:Nat) (q h:Rw) (l:List Ex) (w:World) (A:OwnR w H 85 6 q l.length (l.flatMap exL)) (D:OwnR w b2 85 6 h l.length (l.flatMap exL)) (J:l.length≤4294967296):
  Calls Tryz.prog 79 #[.slice q.a l.length q.cap,.slice h.a l.length h.cap] w fun e K=>e= .returned (.bool true)∧Below w.heap.size w K:=by
 by_cases z:l.length=0
 ·rw[z]
  exact zp3 _ _ _ _ w
 ·rcases A.nil_or with ⟨_,_,e⟩|⟨M,I⟩
  ·exact absurd e z
  ·rcases D.nil_or with ⟨_,_,e⟩|⟨L,E⟩
   ·exact absurd e z
   ·rw[I,E]
    exact zp4 H b2 M L q h l w A D I E J
end Go.Proofs.YtcidlffeeninbaaGreat
