/-
  What the laws' helpers over rows lean on. No program is spoken of.
  What the laws' comparers of lists answer where both show the same: the walks.
-/
import Derived.Laws.OwnMore
import Derived.Test.YticdggnnpjachaaGreatCcImplParseJToEqRow
namespace Go.Proofs.YticdggnnpjachaaGreat
set_option maxRecDepth 100000
set_option maxHeartbeats 3200000
open Go.RowKit Go.PlainAid Go.Sort
theorem zeE {α:Type} {l:List α} {j:Nat} (h:j<l.length): ∃x,l[j]? =some x:=⟨_,List.getElem?_eq_getElem h⟩
theorem zqr (n h:Option Addr) (q o:Nat) (w:World):Calls Tryz.prog 25 #[.slice n 0 q,.slice h 0 o] w fun e j=>e= .returned (.bool true)∧Below w.heap.size w j:=by
 go_enter Tryz.func25,Tryz.ntmps25
 go_wp2
 go_loopg [5] 1 (fun k i wr=>k=1∧i= .int .i64 0∧wr=w)
 case atStart=>exact⟨rfl,rfl,rfl⟩
 case round=>
  obtain⟨rfl,rfl,rfl⟩:=hrel
  go_wp2
  go_ret
  exact⟨rfl,Below.refl _ _⟩
theorem zqs (b1 b2 L N:Nat) (H K:Rw) (l:List ByteArray) (w:World) (A:OwnR w b1 9 1 H l.length (l.flatMap (fun x=>[Value.string x]))) (q:OwnR w b2 9 1 K l.length (l.flatMap (fun x=>[Value.string x]))) (X:H.a=some ⟨L,0,none⟩) (e2:K.a=some ⟨N,0,none⟩) (hl:l.length≤4294967296):
  Calls Tryz.prog 25 #[.slice (some ⟨L,0,none⟩) l.length H.cap,.slice (some ⟨N,0,none⟩) l.length K.cap] w fun e w'=>e= .returned (.bool true)∧Below w.heap.size w w':=by
 have Y:=zc A
 have H2:=zc q
 have E1:=zc X
 have E2:=zc e2
 clear A q X e2
 go_enter Tryz.func25,Tryz.ntmps25
 go_wp2
 go_loopg [5] l.length (fun k i wr=>∃j:Nat,i= .int .i64 j∧j+k=l.length∧Below w.heap.size w wr)
 case atStart=>exact⟨0,rfl,by omega,Below.refl _ _⟩
 case round=>
  obtain⟨j,rfl,hj,hb⟩:=hrel
  have z:=zc hb
  clear hb
  by_cases O:j<l.length
  ·have o:(j:Int)<(l.length:Int):=by omega
   obtain⟨x,J⟩:=zeE O
   obtain⟨E,Z,A⟩:=OwnR.elem (f:=(fun x=>[Value.string x])) (m:=1) (fun _=>rfl) (Y.out.keep fun k g=>z.out.block k (Y.out.typed g).2.1) J
   obtain rfl:E=L:=by have:=Z.symm.trans E1.out;simpa using this
   obtain⟨E,gb,q⟩:=OwnR.elem (f:=(fun x=>[Value.string x])) (m:=1) (fun _=>rfl) (H2.out.keep fun k g=>z.out.block k (H2.out.typed g).2.1) J
   obtain rfl:E=N:=by have:=gb.symm.trans E2.out;simpa using this
   have C0:=zc (A 0 (by omega))
   have D0:=zc (q 0 (by omega))
   clear A q Z gb J
   obtain⟨D,n⟩: ∃D,D=j+1:=⟨_,rfl⟩
   have ej:(j:Int)+1=(D:Int):=by omega
   have HJ:=zc n
   clear n
   go_wp2
   have V:=cell_regrown C0.out
   have l0:=cell_regrown D0.out
   simp only[Nat.add_zero,Nat.mul_one] at V l0
   refine wp_region_quiet_below (by kernel_rfl) (by kernel_rfl) ?_
   repeat (go_big_quiet_step (fail))
   refine wpQuiet_nil ?_
   intro w2 I
   obtain⟨⟨dq,U⟩,h⟩:=I
   have M:Hid (Below w.heap.size w w2):=by show Below _ _ _;rw[h];exact z.out.trans ((below_regrown wr dq U).mono z.out.size)
   clear h V l0 C0 D0
   go_wp2
   go_roundg (gk-1)
   case rel=>exact⟨D,rfl,by have:=HJ.out;omega,M.out⟩
   case measure=>omega
  ·have o: ¬(j:Int)<(l.length:Int):=by omega
   go_wp2
   go_ret
   exact⟨rfl,z.out⟩
theorem zqt (z b2:Nat) (h j:Rw) (l:List ByteArray) (w:World) (q:OwnR w z 9 1 h l.length (l.flatMap (fun x=>[Value.string x]))) (D:OwnR w b2 9 1 j l.length (l.flatMap (fun x=>[Value.string x]))) (I:l.length≤4294967296):
  Calls Tryz.prog 25 #[.slice h.a l.length h.cap,.slice j.a l.length j.cap] w fun e E=>e= .returned (.bool true)∧Below w.heap.size w E:=by
 by_cases n:l.length=0
 ·rw[n]
  exact zqr _ _ _ _ w
 ·rcases q.nil_or with ⟨_,_,e⟩|⟨J,o⟩
  ·exact absurd e n
  ·rcases D.nil_or with ⟨_,_,e⟩|⟨H,A⟩
   ·exact absurd e n
   ·rw[o,A]
    exact zqs z b2 J H h j l w q D o A I
theorem zqu (x:Im) (w:World):Calls Tryz.prog 91 #[.agg #[.string x.spec,.string x.first,.string x.loc],.agg #[.string x.spec,.string x.first,.string x.loc]] w fun e h=>e= .returned (.bool true)∧Below w.heap.size w h:=by
 go_enter Tryz.func91,Tryz.ntmps91
 go_wp2
 go_ret
 exact⟨rfl,((Below.refl _ _).alloc (Nat.le_refl _) _).alloc (by show _≤(w.heap.push _).size;simp) _⟩
theorem zqv (n h:Option Addr) (q o:Nat) (w:World):Calls Tryz.prog 26 #[.slice n 0 q,.slice h 0 o] w fun e j=>e= .returned (.bool true)∧Below w.heap.size w j:=by
 go_enter Tryz.func26,Tryz.ntmps26
 go_wp2
 go_loopg [5] 1 (fun k i wr=>k=1∧i= .int .i64 0∧wr=w)
 case atStart=>exact⟨rfl,rfl,rfl⟩
 case round=>
  obtain⟨rfl,rfl,rfl⟩:=hrel
  go_wp2
  go_ret
  exact⟨rfl,Below.refl _ _⟩
theorem zqw (b1 b2 M O:Nat) (I L:Rw) (l:List Im) (w:World) (o:OwnR w b1 100 3 I l.length (l.flatMap imL)) (n:OwnR w b2 100 3 L l.length (l.flatMap imL)) (Y:I.a=some ⟨M,0,none⟩) (e2:L.a=some ⟨O,0,none⟩) (hl:l.length≤4294967296):
  Calls Tryz.prog 26 #[.slice (some ⟨M,0,none⟩) l.length I.cap,.slice (some ⟨O,0,none⟩) l.length L.cap] w fun e w'=>e= .returned (.bool true)∧Below w.heap.size w w':=by
 have H1:=zc o
 have H2:=zc n
 have E1:=zc Y
 have E2:=zc e2
 clear o n Y e2
 go_enter Tryz.func26,Tryz.ntmps26
 go_wp2
 go_loopg [5] l.length (fun k i wr=>∃j:Nat,i= .int .i64 j∧j+k=l.length∧Below w.heap.size w wr)
 case atStart=>exact⟨0,rfl,by omega,Below.refl _ _⟩
 case round=>
  obtain⟨j,rfl,hj,hb⟩:=hrel
  have A:=zc hb
  clear hb
  by_cases U:j<l.length
  ·have z:(j:Int)<(l.length:Int):=by omega
   obtain⟨x,K⟩:=zeE U
   obtain⟨H,ga,o⟩:=OwnR.elem (f:=imL) (m:=3) (fun _=>rfl) (H1.out.keep fun k g=>A.out.block k (H1.out.typed g).2.1) K
   obtain rfl:H=M:=by have:=ga.symm.trans E1.out;simpa using this
   obtain⟨H,gb,n⟩:=OwnR.elem (f:=imL) (m:=3) (fun _=>rfl) (H2.out.keep fun k g=>A.out.block k (H2.out.typed g).2.1) K
   obtain rfl:H=O:=by have:=gb.symm.trans E2.out;simpa using this
   have C0:=zc (o 0 (by omega))
   have D0:=zc (n 0 (by omega))
   have C1:=zc (o 1 (by omega))
   have D1:=zc (n 1 (by omega))
   have Z:=zc (o 2 (by omega))
   have D2:=zc (n 2 (by omega))
   clear o n ga gb K
   have cQ: ∀d os,Calls Tryz.prog 91 #[.agg #[.string x.spec,.string x.first,.string x.loc],.agg #[.string x.spec,.string x.first,.string x.loc]] (grow (redrawn wr d) os) fun e E=>e= .returned (.bool true)∧∃p:Regrown,E=grow (redrawn wr p.d) p.os:=fun d os=>Calls.regrown_of (zqu x _)
   obtain⟨D,q⟩: ∃D,D=j+1:=⟨_,rfl⟩
   have ej:(j:Int)+1=(D:Int):=by omega
   have HJ:=zc q
   clear q
   go_wp2
   have X:=cell_regrown C0.out
   have l0:=cell_regrown D0.out
   have k1:=cell_regrown C1.out
   have l1:=cell_regrown D1.out
   have k2:=cell_regrown Z.out
   have l2:=cell_regrown D2.out
   simp only[Nat.add_zero] at X l0
   refine wp_region_quiet_below (by kernel_rfl) (by kernel_rfl) ?_
   repeat (go_big_quiet_step (exact cQ _ _))
   refine wpQuiet_nil ?_
   intro w2 J
   obtain⟨⟨dq,V⟩,h⟩:=J
   have N:Hid (Below w.heap.size w w2):=by show Below _ _ _;rw[h];exact A.out.trans ((below_regrown wr dq V).mono A.out.size)
   clear h X l0 C0 D0 k1 l1 C1 D1 k2 l2 Z D2 cQ
   go_wp2
   go_roundg (gk-1)
   case rel=>exact⟨D,rfl,by have:=HJ.out;omega,N.out⟩
   case measure=>omega
  ·have z: ¬(j:Int)<(l.length:Int):=by omega
   go_wp2
   go_ret
   exact⟨rfl,A.out⟩
theorem zqx (z b2:Nat) (h j:Rw) (l:List Im) (w:World) (q:OwnR w z 100 3 h l.length (l.flatMap imL)) (D:OwnR w b2 100 3 j l.length (l.flatMap imL)) (I:l.length≤4294967296):
  Calls Tryz.prog 26 #[.slice h.a l.length h.cap,.slice j.a l.length j.cap] w fun e E=>e= .returned (.bool true)∧Below w.heap.size w E:=by
 by_cases n:l.length=0
 ·rw[n]
  exact zqv _ _ _ _ w
 ·rcases q.nil_or with ⟨_,_,e⟩|⟨J,o⟩
  ·exact absurd e n
  ·rcases D.nil_or with ⟨_,_,e⟩|⟨H,A⟩
   ·exact absurd e n
   ·rw[o,A]
    exact zqw z b2 J H h j l w q D o A I
theorem zqy (x:Ep) (w:World):Calls Tryz.prog 92 #[.agg #[.int .i64 x.kind,.string x.name,.string x.loc,.string x.spec],.agg #[.int .i64 x.kind,.string x.name,.string x.loc,.string x.spec]] w fun e h=>e= .returned (.bool true)∧Below w.heap.size w h:=by
 go_enter Tryz.func92,Tryz.ntmps92
 go_wp2
 go_ret
 exact⟨rfl,((Below.refl _ _).alloc (Nat.le_refl _) _).alloc (by show _≤(w.heap.push _).size;simp) _⟩
theorem zqz (n h:Option Addr) (q o:Nat) (w:World):Calls Tryz.prog 27 #[.slice n 0 q,.slice h 0 o] w fun e j=>e= .returned (.bool true)∧Below w.heap.size w j:=by
 go_enter Tryz.func27,Tryz.ntmps27
 go_wp2
 go_loopg [5] 1 (fun k i wr=>k=1∧i= .int .i64 0∧wr=w)
 case atStart=>exact⟨rfl,rfl,rfl⟩
 case round=>
  obtain⟨rfl,rfl,rfl⟩:=hrel
  go_wp2
  go_ret
  exact⟨rfl,Below.refl _ _⟩
theorem zq0 (b1 b2 M O:Nat) (I L:Rw) (l:List Ep) (w:World) (n:OwnR w b1 102 4 I l.length (l.flatMap epL)) (h:OwnR w b2 102 4 L l.length (l.flatMap epL)) (Y:I.a=some ⟨M,0,none⟩) (e2:L.a=some ⟨O,0,none⟩) (hl:l.length≤4294967296):
  Calls Tryz.prog 27 #[.slice (some ⟨M,0,none⟩) l.length I.cap,.slice (some ⟨O,0,none⟩) l.length L.cap] w fun e w'=>e= .returned (.bool true)∧Below w.heap.size w w':=by
 have H1:=zc n
 have H2:=zc h
 have E1:=zc Y
 have E2:=zc e2
 clear n h Y e2
 go_enter Tryz.func27,Tryz.ntmps27
 go_wp2
 go_loopg [5] l.length (fun k i wr=>∃j:Nat,i= .int .i64 j∧j+k=l.length∧Below w.heap.size w wr)
 case atStart=>exact⟨0,rfl,by omega,Below.refl _ _⟩
 case round=>
  obtain⟨j,rfl,hj,hb⟩:=hrel
  have A:=zc hb
  clear hb
  by_cases U:j<l.length
  ·have z:(j:Int)<(l.length:Int):=by omega
   obtain⟨x,K⟩:=zeE U
   obtain⟨H,ga,n⟩:=OwnR.elem (f:=epL) (m:=4) (fun _=>rfl) (H1.out.keep fun k g=>A.out.block k (H1.out.typed g).2.1) K
   obtain rfl:H=M:=by have:=ga.symm.trans E1.out;simpa using this
   obtain⟨H,gb,h⟩:=OwnR.elem (f:=epL) (m:=4) (fun _=>rfl) (H2.out.keep fun k g=>A.out.block k (H2.out.typed g).2.1) K
   obtain rfl:H=O:=by have:=gb.symm.trans E2.out;simpa using this
   have C0:=zc (n 0 (by omega))
   have D0:=zc (h 0 (by omega))
   have C1:=zc (n 1 (by omega))
   have D1:=zc (h 1 (by omega))
   have Z:=zc (n 2 (by omega))
   have D2:=zc (h 2 (by omega))
   have C3:=zc (n 3 (by omega))
   have D3:=zc (h 3 (by omega))
   clear n h ga gb K
   have cQ: ∀d os,Calls Tryz.prog 92 #[.agg #[.int .i64 x.kind,.string x.name,.string x.loc,.string x.spec],.agg #[.int .i64 x.kind,.string x.name,.string x.loc,.string x.spec]] (grow (redrawn wr d) os) fun e E=>e= .returned (.bool true)∧∃p:Regrown,E=grow (redrawn wr p.d) p.os:=fun d os=>Calls.regrown_of (zqy x _)
   obtain⟨D,q⟩: ∃D,D=j+1:=⟨_,rfl⟩
   have ej:(j:Int)+1=(D:Int):=by omega
   have HJ:=zc q
   clear q
   go_wp2
   have X:=cell_regrown C0.out
   have l0:=cell_regrown D0.out
   have k1:=cell_regrown C1.out
   have l1:=cell_regrown D1.out
   have k2:=cell_regrown Z.out
   have l2:=cell_regrown D2.out
   have k3:=cell_regrown C3.out
   have l3:=cell_regrown D3.out
   simp only[Nat.add_zero] at X l0
   refine wp_region_quiet_below (by kernel_rfl) (by kernel_rfl) ?_
   repeat (go_big_quiet_step (exact cQ _ _))
   refine wpQuiet_nil ?_
   intro w2 J
   obtain⟨⟨dq,V⟩,o⟩:=J
   have N:Hid (Below w.heap.size w w2):=by show Below _ _ _;rw[o];exact A.out.trans ((below_regrown wr dq V).mono A.out.size)
   clear o X l0 C0 D0 k1 l1 C1 D1 k2 l2 Z D2 k3 l3 C3 D3 cQ
   go_wp2
   go_roundg (gk-1)
   case rel=>exact⟨D,rfl,by have:=HJ.out;omega,N.out⟩
   case measure=>omega
  ·have z: ¬(j:Int)<(l.length:Int):=by omega
   go_wp2
   go_ret
   exact⟨rfl,A.out⟩
theorem zq1 (z b2:Nat) (h j:Rw) (l:List Ep) (w:World) (q:OwnR w z 102 4 h l.length (l.flatMap epL)) (D:OwnR w b2 102 4 j l.length (l.flatMap epL)) (I:l.length≤4294967296):
  Calls Tryz.prog 27 #[.slice h.a l.length h.cap,.slice j.a l.length j.cap] w fun e E=>e= .returned (.bool true)∧Below w.heap.size w E:=by
 by_cases n:l.length=0
 ·rw[n]
  exact zqz _ _ _ _ w
 ·rcases q.nil_or with ⟨_,_,e⟩|⟨J,o⟩
  ·exact absurd e n
  ·rcases D.nil_or with ⟨_,_,e⟩|⟨H,A⟩
   ·exact absurd e n
   ·rw[o,A]
    exact zq0 z b2 J H h j l w q D o A I
theorem zq2 (x:Sm) (w:World):Calls Tryz.prog 93 #[.agg #[.int .i64 x.kind,.string x.name,.int .i64 x.expr],.agg #[.int .i64 x.kind,.string x.name,.int .i64 x.expr]] w fun e h=>e= .returned (.bool true)∧Below w.heap.size w h:=by
 go_enter Tryz.func93,Tryz.ntmps93
 go_wp2
 go_ret
 exact⟨rfl,((Below.refl _ _).alloc (Nat.le_refl _) _).alloc (by show _≤(w.heap.push _).size;simp) _⟩
theorem zq3 (n h:Option Addr) (q o:Nat) (w:World):Calls Tryz.prog 28 #[.slice n 0 q,.slice h 0 o] w fun e j=>e= .returned (.bool true)∧Below w.heap.size w j:=by
 go_enter Tryz.func28,Tryz.ntmps28
 go_wp2
 go_loopg [5] 1 (fun k i wr=>k=1∧i= .int .i64 0∧wr=w)
 case atStart=>exact⟨rfl,rfl,rfl⟩
 case round=>
  obtain⟨rfl,rfl,rfl⟩:=hrel
  go_wp2
  go_ret
  exact⟨rfl,Below.refl _ _⟩
theorem zq4 (b1 b2 M O:Nat) (I L:Rw) (l:List Sm) (w:World) (o:OwnR w b1 106 3 I l.length (l.flatMap smL)) (n:OwnR w b2 106 3 L l.length (l.flatMap smL)) (Y:I.a=some ⟨M,0,none⟩) (e2:L.a=some ⟨O,0,none⟩) (hl:l.length≤4294967296):
  Calls Tryz.prog 28 #[.slice (some ⟨M,0,none⟩) l.length I.cap,.slice (some ⟨O,0,none⟩) l.length L.cap] w fun e w'=>e= .returned (.bool true)∧Below w.heap.size w w':=by
 have H1:=zc o
 have H2:=zc n
 have E1:=zc Y
 have E2:=zc e2
 clear o n Y e2
 go_enter Tryz.func28,Tryz.ntmps28
 go_wp2
 go_loopg [5] l.length (fun k i wr=>∃j:Nat,i= .int .i64 j∧j+k=l.length∧Below w.heap.size w wr)
 case atStart=>exact⟨0,rfl,by omega,Below.refl _ _⟩
 case round=>
  obtain⟨j,rfl,hj,hb⟩:=hrel
  have A:=zc hb
  clear hb
  by_cases U:j<l.length
  ·have z:(j:Int)<(l.length:Int):=by omega
   obtain⟨x,K⟩:=zeE U
   obtain⟨H,ga,o⟩:=OwnR.elem (f:=smL) (m:=3) (fun _=>rfl) (H1.out.keep fun k g=>A.out.block k (H1.out.typed g).2.1) K
   obtain rfl:H=M:=by have:=ga.symm.trans E1.out;simpa using this
   obtain⟨H,gb,n⟩:=OwnR.elem (f:=smL) (m:=3) (fun _=>rfl) (H2.out.keep fun k g=>A.out.block k (H2.out.typed g).2.1) K
   obtain rfl:H=O:=by have:=gb.symm.trans E2.out;simpa using this
   have C0:=zc (o 0 (by omega))
   have D0:=zc (n 0 (by omega))
   have C1:=zc (o 1 (by omega))
   have D1:=zc (n 1 (by omega))
   have Z:=zc (o 2 (by omega))
   have D2:=zc (n 2 (by omega))
   clear o n ga gb K
   have cQ: ∀d os,Calls Tryz.prog 93 #[.agg #[.int .i64 x.kind,.string x.name,.int .i64 x.expr],.agg #[.int .i64 x.kind,.string x.name,.int .i64 x.expr]] (grow (redrawn wr d) os) fun e E=>e= .returned (.bool true)∧∃p:Regrown,E=grow (redrawn wr p.d) p.os:=fun d os=>Calls.regrown_of (zq2 x _)
   obtain⟨D,q⟩: ∃D,D=j+1:=⟨_,rfl⟩
   have ej:(j:Int)+1=(D:Int):=by omega
   have HJ:=zc q
   clear q
   go_wp2
   have X:=cell_regrown C0.out
   have l0:=cell_regrown D0.out
   have k1:=cell_regrown C1.out
   have l1:=cell_regrown D1.out
   have k2:=cell_regrown Z.out
   have l2:=cell_regrown D2.out
   simp only[Nat.add_zero] at X l0
   refine wp_region_quiet_below (by kernel_rfl) (by kernel_rfl) ?_
   repeat (go_big_quiet_step (exact cQ _ _))
   refine wpQuiet_nil ?_
   intro w2 J
   obtain⟨⟨dq,V⟩,h⟩:=J
   have N:Hid (Below w.heap.size w w2):=by show Below _ _ _;rw[h];exact A.out.trans ((below_regrown wr dq V).mono A.out.size)
   clear h X l0 C0 D0 k1 l1 C1 D1 k2 l2 Z D2 cQ
   go_wp2
   go_roundg (gk-1)
   case rel=>exact⟨D,rfl,by have:=HJ.out;omega,N.out⟩
   case measure=>omega
  ·have z: ¬(j:Int)<(l.length:Int):=by omega
   go_wp2
   go_ret
   exact⟨rfl,A.out⟩
theorem zq5 (z b2:Nat) (h j:Rw) (l:List Sm) (w:World) (q:OwnR w z 106 3 h l.length (l.flatMap smL)) (D:OwnR w b2 106 3 j l.length (l.flatMap smL)) (I:l.length≤4294967296):
  Calls Tryz.prog 28 #[.slice h.a l.length h.cap,.slice j.a l.length j.cap] w fun e E=>e= .returned (.bool true)∧Below w.heap.size w E:=by
 by_cases n:l.length=0
 ·rw[n]
  exact zq3 _ _ _ _ w
 ·rcases q.nil_or with ⟨_,_,e⟩|⟨J,o⟩
  ·exact absurd e n
  ·rcases D.nil_or with ⟨_,_,e⟩|⟨H,A⟩
   ·exact absurd e n
   ·rw[o,A]
    exact zq4 z b2 J H h j l w q D o A I
theorem zq6 (x:Ex) (w:World):Calls Tryz.prog 94 #[.agg #[.int .i64 x.kind,.int .i64 x.num,.string x.name,.string x.field,.int .i64 x.l,.int .i64 x.r],.agg #[.int .i64 x.kind,.int .i64 x.num,.string x.name,.string x.field,.int .i64 x.l,.int .i64 x.r]] w fun e h=>e= .returned (.bool true)∧Below w.heap.size w h:=by
 go_enter Tryz.func94,Tryz.ntmps94
 go_wp2
 go_ret
 exact⟨rfl,((Below.refl _ _).alloc (Nat.le_refl _) _).alloc (by show _≤(w.heap.push _).size;simp) _⟩
theorem zq7 (n h:Option Addr) (q o:Nat) (w:World):Calls Tryz.prog 29 #[.slice n 0 q,.slice h 0 o] w fun e j=>e= .returned (.bool true)∧Below w.heap.size w j:=by
 go_enter Tryz.func29,Tryz.ntmps29
 go_wp2
 go_loopg [5] 1 (fun k i wr=>k=1∧i= .int .i64 0∧wr=w)
 case atStart=>exact⟨rfl,rfl,rfl⟩
 case round=>
  obtain⟨rfl,rfl,rfl⟩:=hrel
  go_wp2
  go_ret
  exact⟨rfl,Below.refl _ _⟩
theorem zq8 (b1 b2 M O:Nat) (H L:Rw) (l:List Ex) (w:World) (n:OwnR w b1 108 6 H l.length (l.flatMap exL)) (h:OwnR w b2 108 6 L l.length (l.flatMap exL)) (X:H.a=some ⟨M,0,none⟩) (e2:L.a=some ⟨O,0,none⟩) (hl:l.length≤4294967296):
  Calls Tryz.prog 29 #[.slice (some ⟨M,0,none⟩) l.length H.cap,.slice (some ⟨O,0,none⟩) l.length L.cap] w fun e w'=>e= .returned (.bool true)∧Below w.heap.size w w':=by
 have H1:=zc n
 have H2:=zc h
 have E1:=zc X
 have E2:=zc e2
 clear n h X e2
 go_enter Tryz.func29,Tryz.ntmps29
 go_wp2
 go_loopg [5] l.length (fun k i wr=>∃j:Nat,i= .int .i64 j∧j+k=l.length∧Below w.heap.size w wr)
 case atStart=>exact⟨0,rfl,by omega,Below.refl _ _⟩
 case round=>
  obtain⟨j,rfl,hj,hb⟩:=hrel
  have A:=zc hb
  clear hb
  by_cases U:j<l.length
  ·have z:(j:Int)<(l.length:Int):=by omega
   obtain⟨x,K⟩:=zeE U
   obtain⟨I,ga,n⟩:=OwnR.elem (f:=exL) (m:=6) (fun _=>rfl) (H1.out.keep fun k g=>A.out.block k (H1.out.typed g).2.1) K
   obtain rfl:I=M:=by have:=ga.symm.trans E1.out;simpa using this
   obtain⟨I,gb,h⟩:=OwnR.elem (f:=exL) (m:=6) (fun _=>rfl) (H2.out.keep fun k g=>A.out.block k (H2.out.typed g).2.1) K
   obtain rfl:I=O:=by have:=gb.symm.trans E2.out;simpa using this
   have C0:=zc (n 0 (by omega))
   have D0:=zc (h 0 (by omega))
   have C1:=zc (n 1 (by omega))
   have D1:=zc (h 1 (by omega))
   have Z:=zc (n 2 (by omega))
   have D2:=zc (h 2 (by omega))
   have C3:=zc (n 3 (by omega))
   have D3:=zc (h 3 (by omega))
   have C4:=zc (n 4 (by omega))
   have D4:=zc (h 4 (by omega))
   have C5:=zc (n 5 (by omega))
   have D5:=zc (h 5 (by omega))
   clear n h ga gb K
   have cQ: ∀d os,Calls Tryz.prog 94 #[.agg #[.int .i64 x.kind,.int .i64 x.num,.string x.name,.string x.field,.int .i64 x.l,.int .i64 x.r],.agg #[.int .i64 x.kind,.int .i64 x.num,.string x.name,.string x.field,.int .i64 x.l,.int .i64 x.r]] (grow (redrawn wr d) os) fun e E=>e= .returned (.bool true)∧∃p:Regrown,E=grow (redrawn wr p.d) p.os:=fun d os=>Calls.regrown_of (zq6 x _)
   obtain⟨D,q⟩: ∃D,D=j+1:=⟨_,rfl⟩
   have ej:(j:Int)+1=(D:Int):=by omega
   have HJ:=zc q
   clear q
   go_wp2
   have Y:=cell_regrown C0.out
   have l0:=cell_regrown D0.out
   have k1:=cell_regrown C1.out
   have l1:=cell_regrown D1.out
   have k2:=cell_regrown Z.out
   have l2:=cell_regrown D2.out
   have k3:=cell_regrown C3.out
   have l3:=cell_regrown D3.out
   have k4:=cell_regrown C4.out
   have l4:=cell_regrown D4.out
   have k5:=cell_regrown C5.out
   have l5:=cell_regrown D5.out
   simp only[Nat.add_zero] at Y l0
   refine wp_region_quiet_below (by kernel_rfl) (by kernel_rfl) ?_
   repeat (go_big_quiet_step (exact cQ _ _))
   refine wpQuiet_nil ?_
   intro w2 J
   obtain⟨⟨dq,V⟩,o⟩:=J
   have N:Hid (Below w.heap.size w w2):=by show Below _ _ _;rw[o];exact A.out.trans ((below_regrown wr dq V).mono A.out.size)
   clear o Y l0 C0 D0 k1 l1 C1 D1 k2 l2 Z D2 k3 l3 C3 D3 k4 l4 C4 D4 k5 l5 C5 D5 cQ
   go_wp2
   go_roundg (gk-1)
   case rel=>exact⟨D,rfl,by have:=HJ.out;omega,N.out⟩
   case measure=>omega
  ·have z: ¬(j:Int)<(l.length:Int):=by omega
   go_wp2
   go_ret
   exact⟨rfl,A.out⟩
theorem zq9 (z b2:Nat) (h j:Rw) (l:List Ex) (w:World) (q:OwnR w z 108 6 h l.length (l.flatMap exL)) (D:OwnR w b2 108 6 j l.length (l.flatMap exL)) (I:l.length≤4294967296):
  Calls Tryz.prog 29 #[.slice h.a l.length h.cap,.slice j.a l.length j.cap] w fun e E=>e= .returned (.bool true)∧Below w.heap.size w E:=by
 by_cases n:l.length=0
 ·rw[n]
  exact zq7 _ _ _ _ w
 ·rcases q.nil_or with ⟨_,_,e⟩|⟨J,o⟩
  ·exact absurd e n
  ·rcases D.nil_or with ⟨_,_,e⟩|⟨H,A⟩
   ·exact absurd e n
   ·rw[o,A]
    exact zq8 z b2 J H h j l w q D o A I
end Go.Proofs.YticdggnnpjachaaGreat
