/-
  What the laws' helpers over rows lean on. No program is spoken of.
  What the laws' comparers of lists answer where both show the same: the walks.
-/
import Derived.Laws.OwnMore
import Derived.Test.YticdggnnpjachaaGreatCcImplParseJToEqRow
namespace Go.Proofs.YticdggnnpjachaaGreat
set_option maxRecDepth 100000
set_option maxHeartbeats 3200000
open Go.RowKit Go.PlainAid Go.Sort
theorem zeE {α:Type} {l:List α} {j:Nat} (h:j<l.length): ∃x,l[j]? =some x:=⟨_,List.getElem?_eq_getElem h⟩
theorem zqr (j n:Option Addr) (q o:Nat) (w:World):Calls Tryz.prog 25 #[.slice j 0 q,.slice n 0 o] w fun e h=>e= .returned (.bool true)∧Below w.heap.size w h:=by
 go_enter Tryz.func25,Tryz.ntmps25
 go_wp2
 go_loopg [5] 1 (fun k i wr=>k=1∧i= .int .i64 0∧wr=w)
 case atStart=>exact⟨rfl,rfl,rfl⟩
 case round=>
  obtain⟨rfl,rfl,rfl⟩:=hrel
  go_wp2
  go_ret
  exact⟨rfl,Below.refl _ _⟩
theorem zqs (b1 b2 E M:Nat) (H U:Rw) (l:List ByteArray) (w:World) (z:OwnR w b1 9 1 H l.length (l.flatMap (fun x=>[Value.string x]))) (A:OwnR w b2 9 1 U l.length (l.flatMap (fun x=>[Value.string x]))) (e1:H.a=some ⟨E,0,none⟩) (e2:U.a=some ⟨M,0,none⟩) (hl:l.length≤4294967296):
  Calls Tryz.prog 25 #[.slice (some ⟨E,0,none⟩) l.length H.cap,.slice (some ⟨M,0,none⟩) l.length U.cap] w fun e w'=>e= .returned (.bool true)∧Below w.heap.size w w':=by
 have H1:=zc z
 have Z:=zc A
 have E1:=zc e1
 have E2:=zc e2
 clear z A e1 e2
 go_enter Tryz.func25,Tryz.ntmps25
 go_wp2
 go_loopg [5] l.length (fun k i wr=>∃j:Nat,i= .int .i64 j∧j+k=l.length∧Below w.heap.size w wr)
 case atStart=>exact⟨0,rfl,by omega,Below.refl _ _⟩
 case round=>
  obtain⟨j,rfl,hj,hb⟩:=hrel
  have o:=zc hb
  clear hb
  by_cases L:j<l.length
  ·have q:(j:Int)<(l.length:Int):=by omega
   obtain⟨x,O⟩:=zeE L
   obtain⟨K,Y,z⟩:=OwnR.elem (f:=(fun x=>[Value.string x])) (m:=1) (fun _=>rfl) (H1.out.keep fun k g=>o.out.block k (H1.out.typed g).2.1) O
   obtain rfl:K=E:=by have:=Y.symm.trans E1.out;simpa using this
   obtain⟨K,gb,A⟩:=OwnR.elem (f:=(fun x=>[Value.string x])) (m:=1) (fun _=>rfl) (Z.out.keep fun k g=>o.out.block k (Z.out.typed g).2.1) O
   obtain rfl:K=M:=by have:=gb.symm.trans E2.out;simpa using this
   have C0:=zc (z 0 (by omega))
   have V:=zc (A 0 (by omega))
   clear z A Y gb O
   obtain⟨D,n⟩: ∃D,D=j+1:=⟨_,rfl⟩
   have ej:(j:Int)+1=(D:Int):=by omega
   have HJ:=zc n
   clear n
   go_wp2
   have X:=cell_regrown C0.out
   have l0:=cell_regrown V.out
   simp only[Nat.add_zero,Nat.mul_one] at X l0
   refine wp_region_quiet_below (by kernel_rfl) (by kernel_rfl) ?_
   repeat (go_big_quiet_step (fail))
   refine wpQuiet_nil ?_
   intro w2 J
   obtain⟨⟨dq,N⟩,h⟩:=J
   have I:Hid (Below w.heap.size w w2):=by show Below _ _ _;rw[h];exact o.out.trans ((below_regrown wr dq N).mono o.out.size)
   clear h X l0 C0 V
   go_wp2
   go_roundg (gk-1)
   case rel=>exact⟨D,rfl,by have:=HJ.out;omega,I.out⟩
   case measure=>omega
  ·have q: ¬(j:Int)<(l.length:Int):=by omega
   go_wp2
   go_ret
   exact⟨rfl,o.out⟩
theorem zqt (o b2:Nat) (h j:Rw) (l:List ByteArray) (w:World) (q:OwnR w o 9 1 h l.length (l.flatMap (fun x=>[Value.string x]))) (A:OwnR w b2 9 1 j l.length (l.flatMap (fun x=>[Value.string x]))) (H:l.length≤4294967296):
  Calls Tryz.prog 25 #[.slice h.a l.length h.cap,.slice j.a l.length j.cap] w fun e E=>e= .returned (.bool true)∧Below w.heap.size w E:=by
 by_cases n:l.length=0
 ·rw[n]
  exact zqr _ _ _ _ w
 ·rcases q.nil_or with ⟨_,_,e⟩|⟨J,D⟩
  ·exact absurd e n
  ·rcases A.nil_or with ⟨_,_,e⟩|⟨I,z⟩
   ·exact absurd e n
   ·rw[D,z]
    exact zqs o b2 J I h j l w q A D z H
theorem zqu (x:Im) (w:World):Calls Tryz.prog 91 #[.agg #[.string x.spec,.string x.first,.string x.loc],.agg #[.string x.spec,.string x.first,.string x.loc]] w fun e h=>e= .returned (.bool true)∧Below w.heap.size w h:=by
 go_enter Tryz.func91,Tryz.ntmps91
 go_wp2
 go_ret
 exact⟨rfl,((Below.refl _ _).alloc (Nat.le_refl _) _).alloc (by show _≤(w.heap.push _).size;simp) _⟩
theorem zqv (j n:Option Addr) (q o:Nat) (w:World):Calls Tryz.prog 26 #[.slice j 0 q,.slice n 0 o] w fun e h=>e= .returned (.bool true)∧Below w.heap.size w h:=by
 go_enter Tryz.func26,Tryz.ntmps26
 go_wp2
 go_loopg [5] 1 (fun k i wr=>k=1∧i= .int .i64 0∧wr=w)
 case atStart=>exact⟨rfl,rfl,rfl⟩
 case round=>
  obtain⟨rfl,rfl,rfl⟩:=hrel
  go_wp2
  go_ret
  exact⟨rfl,Below.refl _ _⟩
theorem zqw (b1 b2 H N:Nat) (I V:Rw) (l:List Im) (w:World) (n:OwnR w b1 100 3 I l.length (l.flatMap imL)) (o:OwnR w b2 100 3 V l.length (l.flatMap imL)) (e1:I.a=some ⟨H,0,none⟩) (e2:V.a=some ⟨N,0,none⟩) (hl:l.length≤4294967296):
  Calls Tryz.prog 26 #[.slice (some ⟨H,0,none⟩) l.length I.cap,.slice (some ⟨N,0,none⟩) l.length V.cap] w fun e w'=>e= .returned (.bool true)∧Below w.heap.size w w':=by
 have H1:=zc n
 have H2:=zc o
 have E1:=zc e1
 have E2:=zc e2
 clear n o e1 e2
 go_enter Tryz.func26,Tryz.ntmps26
 go_wp2
 go_loopg [5] l.length (fun k i wr=>∃j:Nat,i= .int .i64 j∧j+k=l.length∧Below w.heap.size w wr)
 case atStart=>exact⟨0,rfl,by omega,Below.refl _ _⟩
 case round=>
  obtain⟨j,rfl,hj,hb⟩:=hrel
  have z:=zc hb
  clear hb
  by_cases M:j<l.length
  ·have A:(j:Int)<(l.length:Int):=by omega
   obtain⟨x,U⟩:=zeE M
   obtain⟨L,ga,n⟩:=OwnR.elem (f:=imL) (m:=3) (fun _=>rfl) (H1.out.keep fun k g=>z.out.block k (H1.out.typed g).2.1) U
   obtain rfl:L=H:=by have:=ga.symm.trans E1.out;simpa using this
   obtain⟨L,gb,o⟩:=OwnR.elem (f:=imL) (m:=3) (fun _=>rfl) (H2.out.keep fun k g=>z.out.block k (H2.out.typed g).2.1) U
   obtain rfl:L=N:=by have:=gb.symm.trans E2.out;simpa using this
   have C0:=zc (n 0 (by omega))
   have X:=zc (o 0 (by omega))
   have C1:=zc (n 1 (by omega))
   have D1:=zc (o 1 (by omega))
   have C2:=zc (n 2 (by omega))
   have Z:=zc (o 2 (by omega))
   clear n o ga gb U
   have cQ: ∀d os,Calls Tryz.prog 91 #[.agg #[.string x.spec,.string x.first,.string x.loc],.agg #[.string x.spec,.string x.first,.string x.loc]] (grow (redrawn wr d) os) fun e E=>e= .returned (.bool true)∧∃p:Regrown,E=grow (redrawn wr p.d) p.os:=fun d os=>Calls.regrown_of (zqu x _)
   obtain⟨D,q⟩: ∃D,D=j+1:=⟨_,rfl⟩
   have ej:(j:Int)+1=(D:Int):=by omega
   have HJ:=zc q
   clear q
   go_wp2
   have Y:=cell_regrown C0.out
   have l0:=cell_regrown X.out
   have k1:=cell_regrown C1.out
   have l1:=cell_regrown D1.out
   have k2:=cell_regrown C2.out
   have l2:=cell_regrown Z.out
   simp only[Nat.add_zero] at Y l0
   refine wp_region_quiet_below (by kernel_rfl) (by kernel_rfl) ?_
   repeat (go_big_quiet_step (exact cQ _ _))
   refine wpQuiet_nil ?_
   intro w2 K
   obtain⟨⟨dq,O⟩,h⟩:=K
   have J:Hid (Below w.heap.size w w2):=by show Below _ _ _;rw[h];exact z.out.trans ((below_regrown wr dq O).mono z.out.size)
   clear h Y l0 C0 X k1 l1 C1 D1 k2 l2 C2 Z cQ
   go_wp2
   go_roundg (gk-1)
   case rel=>exact⟨D,rfl,by have:=HJ.out;omega,J.out⟩
   case measure=>omega
  ·have A: ¬(j:Int)<(l.length:Int):=by omega
   go_wp2
   go_ret
   exact⟨rfl,z.out⟩
theorem zqx (o b2:Nat) (h j:Rw) (l:List Im) (w:World) (q:OwnR w o 100 3 h l.length (l.flatMap imL)) (A:OwnR w b2 100 3 j l.length (l.flatMap imL)) (H:l.length≤4294967296):
  Calls Tryz.prog 26 #[.slice h.a l.length h.cap,.slice j.a l.length j.cap] w fun e E=>e= .returned (.bool true)∧Below w.heap.size w E:=by
 by_cases n:l.length=0
 ·rw[n]
  exact zqv _ _ _ _ w
 ·rcases q.nil_or with ⟨_,_,e⟩|⟨J,D⟩
  ·exact absurd e n
  ·rcases A.nil_or with ⟨_,_,e⟩|⟨I,z⟩
   ·exact absurd e n
   ·rw[D,z]
    exact zqw o b2 J I h j l w q A D z H
theorem zqy (x:Ep) (w:World):Calls Tryz.prog 92 #[.agg #[.int .i64 x.kind,.string x.name,.string x.loc,.string x.spec],.agg #[.int .i64 x.kind,.string x.name,.string x.loc,.string x.spec]] w fun e h=>e= .returned (.bool true)∧Below w.heap.size w h:=by
 go_enter Tryz.func92,Tryz.ntmps92
 go_wp2
 go_ret
 exact⟨rfl,((Below.refl _ _).alloc (Nat.le_refl _) _).alloc (by show _≤(w.heap.push _).size;simp) _⟩
theorem zqz (n j:Option Addr) (q o:Nat) (w:World):Calls Tryz.prog 27 #[.slice n 0 q,.slice j 0 o] w fun e h=>e= .returned (.bool true)∧Below w.heap.size w h:=by
 go_enter Tryz.func27,Tryz.ntmps27
 go_wp2
 go_loopg [5] 1 (fun k i wr=>k=1∧i= .int .i64 0∧wr=w)
 case atStart=>exact⟨rfl,rfl,rfl⟩
 case round=>
  obtain⟨rfl,rfl,rfl⟩:=hrel
  go_wp2
  go_ret
  exact⟨rfl,Below.refl _ _⟩
theorem zq0 (b1 b2 E N:Nat) (I V:Rw) (l:List Ep) (w:World) (n:OwnR w b1 102 4 I l.length (l.flatMap epL)) (o:OwnR w b2 102 4 V l.length (l.flatMap epL)) (e1:I.a=some ⟨E,0,none⟩) (e2:V.a=some ⟨N,0,none⟩) (hl:l.length≤4294967296):
  Calls Tryz.prog 27 #[.slice (some ⟨E,0,none⟩) l.length I.cap,.slice (some ⟨N,0,none⟩) l.length V.cap] w fun e w'=>e= .returned (.bool true)∧Below w.heap.size w w':=by
 have H1:=zc n
 have H2:=zc o
 have E1:=zc e1
 have E2:=zc e2
 clear n o e1 e2
 go_enter Tryz.func27,Tryz.ntmps27
 go_wp2
 go_loopg [5] l.length (fun k i wr=>∃j:Nat,i= .int .i64 j∧j+k=l.length∧Below w.heap.size w wr)
 case atStart=>exact⟨0,rfl,by omega,Below.refl _ _⟩
 case round=>
  obtain⟨j,rfl,hj,hb⟩:=hrel
  have z:=zc hb
  clear hb
  by_cases M:j<l.length
  ·have A:(j:Int)<(l.length:Int):=by omega
   obtain⟨x,U⟩:=zeE M
   obtain⟨L,ga,n⟩:=OwnR.elem (f:=epL) (m:=4) (fun _=>rfl) (H1.out.keep fun k g=>z.out.block k (H1.out.typed g).2.1) U
   obtain rfl:L=E:=by have:=ga.symm.trans E1.out;simpa using this
   obtain⟨L,gb,o⟩:=OwnR.elem (f:=epL) (m:=4) (fun _=>rfl) (H2.out.keep fun k g=>z.out.block k (H2.out.typed g).2.1) U
   obtain rfl:L=N:=by have:=gb.symm.trans E2.out;simpa using this
   have C0:=zc (n 0 (by omega))
   have X:=zc (o 0 (by omega))
   have C1:=zc (n 1 (by omega))
   have D1:=zc (o 1 (by omega))
   have C2:=zc (n 2 (by omega))
   have Z:=zc (o 2 (by omega))
   have C3:=zc (n 3 (by omega))
   have D3:=zc (o 3 (by omega))
   clear n o ga gb U
   have cQ: ∀d os,Calls Tryz.prog 92 #[.agg #[.int .i64 x.kind,.string x.name,.string x.loc,.string x.spec],.agg #[.int .i64 x.kind,.string x.name,.string x.loc,.string x.spec]] (grow (redrawn wr d) os) fun e H=>e= .returned (.bool true)∧∃p:Regrown,H=grow (redrawn wr p.d) p.os:=fun d os=>Calls.regrown_of (zqy x _)
   obtain⟨D,q⟩: ∃D,D=j+1:=⟨_,rfl⟩
   have ej:(j:Int)+1=(D:Int):=by omega
   have HJ:=zc q
   clear q
   go_wp2
   have Y:=cell_regrown C0.out
   have l0:=cell_regrown X.out
   have k1:=cell_regrown C1.out
   have l1:=cell_regrown D1.out
   have k2:=cell_regrown C2.out
   have l2:=cell_regrown Z.out
   have k3:=cell_regrown C3.out
   have l3:=cell_regrown D3.out
   simp only[Nat.add_zero] at Y l0
   refine wp_region_quiet_below (by kernel_rfl) (by kernel_rfl) ?_
   repeat (go_big_quiet_step (exact cQ _ _))
   refine wpQuiet_nil ?_
   intro w2 K
   obtain⟨⟨dq,O⟩,h⟩:=K
   have J:Hid (Below w.heap.size w w2):=by show Below _ _ _;rw[h];exact z.out.trans ((below_regrown wr dq O).mono z.out.size)
   clear h Y l0 C0 X k1 l1 C1 D1 k2 l2 C2 Z k3 l3 C3 D3 cQ
   go_wp2
   go_roundg (gk-1)
   case rel=>exact⟨D,rfl,by have:=HJ.out;omega,J.out⟩
   case measure=>omega
  ·have A: ¬(j:Int)<(l.length:Int):=by omega
   go_wp2
   go_ret
   exact⟨rfl,z.out⟩
theorem zq1 (o b2:Nat) (h j:Rw) (l:List Ep) (w:World) (q:OwnR w o 102 4 h l.length (l.flatMap epL)) (A:OwnR w b2 102 4 j l.length (l.flatMap epL)) (H:l.length≤4294967296):
  Calls Tryz.prog 27 #[.slice h.a l.length h.cap,.slice j.a l.length j.cap] w fun e E=>e= .returned (.bool true)∧Below w.heap.size w E:=by
 by_cases n:l.length=0
 ·rw[n]
  exact zqz _ _ _ _ w
 ·rcases q.nil_or with ⟨_,_,e⟩|⟨J,D⟩
  ·exact absurd e n
  ·rcases A.nil_or with ⟨_,_,e⟩|⟨I,z⟩
   ·exact absurd e n
   ·rw[D,z]
    exact zq0 o b2 J I h j l w q A D z H
theorem zq2 (x:Sm) (w:World):Calls Tryz.prog 93 #[.agg #[.int .i64 x.kind,.string x.name,.int .i64 x.expr],.agg #[.int .i64 x.kind,.string x.name,.int .i64 x.expr]] w fun e h=>e= .returned (.bool true)∧Below w.heap.size w h:=by
 go_enter Tryz.func93,Tryz.ntmps93
 go_wp2
 go_ret
 exact⟨rfl,((Below.refl _ _).alloc (Nat.le_refl _) _).alloc (by show _≤(w.heap.push _).size;simp) _⟩
theorem zq3 (j n:Option Addr) (q o:Nat) (w:World):Calls Tryz.prog 28 #[.slice j 0 q,.slice n 0 o] w fun e h=>e= .returned (.bool true)∧Below w.heap.size w h:=by
 go_enter Tryz.func28,Tryz.ntmps28
 go_wp2
 go_loopg [5] 1 (fun k i wr=>k=1∧i= .int .i64 0∧wr=w)
 case atStart=>exact⟨rfl,rfl,rfl⟩
 case round=>
  obtain⟨rfl,rfl,rfl⟩:=hrel
  go_wp2
  go_ret
  exact⟨rfl,Below.refl _ _⟩
theorem zq4 (b1 b2 H N:Nat) (I V:Rw) (l:List Sm) (w:World) (n:OwnR w b1 106 3 I l.length (l.flatMap smL)) (o:OwnR w b2 106 3 V l.length (l.flatMap smL)) (e1:I.a=some ⟨H,0,none⟩) (e2:V.a=some ⟨N,0,none⟩) (hl:l.length≤4294967296):
  Calls Tryz.prog 28 #[.slice (some ⟨H,0,none⟩) l.length I.cap,.slice (some ⟨N,0,none⟩) l.length V.cap] w fun e w'=>e= .returned (.bool true)∧Below w.heap.size w w':=by
 have H1:=zc n
 have H2:=zc o
 have E1:=zc e1
 have E2:=zc e2
 clear n o e1 e2
 go_enter Tryz.func28,Tryz.ntmps28
 go_wp2
 go_loopg [5] l.length (fun k i wr=>∃j:Nat,i= .int .i64 j∧j+k=l.length∧Below w.heap.size w wr)
 case atStart=>exact⟨0,rfl,by omega,Below.refl _ _⟩
 case round=>
  obtain⟨j,rfl,hj,hb⟩:=hrel
  have z:=zc hb
  clear hb
  by_cases M:j<l.length
  ·have A:(j:Int)<(l.length:Int):=by omega
   obtain⟨x,U⟩:=zeE M
   obtain⟨L,ga,n⟩:=OwnR.elem (f:=smL) (m:=3) (fun _=>rfl) (H1.out.keep fun k g=>z.out.block k (H1.out.typed g).2.1) U
   obtain rfl:L=H:=by have:=ga.symm.trans E1.out;simpa using this
   obtain⟨L,gb,o⟩:=OwnR.elem (f:=smL) (m:=3) (fun _=>rfl) (H2.out.keep fun k g=>z.out.block k (H2.out.typed g).2.1) U
   obtain rfl:L=N:=by have:=gb.symm.trans E2.out;simpa using this
   have C0:=zc (n 0 (by omega))
   have X:=zc (o 0 (by omega))
   have C1:=zc (n 1 (by omega))
   have D1:=zc (o 1 (by omega))
   have C2:=zc (n 2 (by omega))
   have Z:=zc (o 2 (by omega))
   clear n o ga gb U
   have cQ: ∀d os,Calls Tryz.prog 93 #[.agg #[.int .i64 x.kind,.string x.name,.int .i64 x.expr],.agg #[.int .i64 x.kind,.string x.name,.int .i64 x.expr]] (grow (redrawn wr d) os) fun e E=>e= .returned (.bool true)∧∃p:Regrown,E=grow (redrawn wr p.d) p.os:=fun d os=>Calls.regrown_of (zq2 x _)
   obtain⟨D,q⟩: ∃D,D=j+1:=⟨_,rfl⟩
   have ej:(j:Int)+1=(D:Int):=by omega
   have HJ:=zc q
   clear q
   go_wp2
   have Y:=cell_regrown C0.out
   have l0:=cell_regrown X.out
   have k1:=cell_regrown C1.out
   have l1:=cell_regrown D1.out
   have k2:=cell_regrown C2.out
   have l2:=cell_regrown Z.out
   simp only[Nat.add_zero] at Y l0
   refine wp_region_quiet_below (by kernel_rfl) (by kernel_rfl) ?_
   repeat (go_big_quiet_step (exact cQ _ _))
   refine wpQuiet_nil ?_
   intro w2 K
   obtain⟨⟨dq,O⟩,h⟩:=K
   have J:Hid (Below w.heap.size w w2):=by show Below _ _ _;rw[h];exact z.out.trans ((below_regrown wr dq O).mono z.out.size)
   clear h Y l0 C0 X k1 l1 C1 D1 k2 l2 C2 Z cQ
   go_wp2
   go_roundg (gk-1)
   case rel=>exact⟨D,rfl,by have:=HJ.out;omega,J.out⟩
   case measure=>omega
  ·have A: ¬(j:Int)<(l.length:Int):=by omega
   go_wp2
   go_ret
   exact⟨rfl,z.out⟩
theorem zq5 (o b2:Nat) (h j:Rw) (l:List Sm) (w:World) (q:OwnR w o 106 3 h l.length (l.flatMap smL)) (A:OwnR w b2 106 3 j l.length (l.flatMap smL)) (H:l.length≤4294967296):
  Calls Tryz.prog 28 #[.slice h.a l.length h.cap,.slice j.a l.length j.cap] w fun e E=>e= .returned (.bool true)∧Below w.heap.size w E:=by
 by_cases n:l.length=0
 ·rw[n]
  exact zq3 _ _ _ _ w
 ·rcases q.nil_or with ⟨_,_,e⟩|⟨J,D⟩
  ·exact absurd e n
  ·rcases A.nil_or with ⟨_,_,e⟩|⟨I,z⟩
   ·exact absurd e n
   ·rw[D,z]
    exact zq4 o b2 J I h j l w q A D z H
theorem zq6 (x:Ex) (w:World):Calls Tryz.prog 94 #[.agg #[.int .i64 x.kind,.int .i64 x.num,.string x.name,.string x.field,.int .i64 x.l,.int .i64 x.r],.agg #[.int .i64 x.kind,.int .i64 x.num,.string x.name,.string x.field,.int .i64 x.l,.int .i64 x.r]] w fun e h=>e= .returned (.bool true)∧Below w.heap.size w h:=by
 go_enter Tryz.func94,Tryz.ntmps94
 go_wp2
 go_ret
 exact⟨rfl,((Below.refl _ _).alloc (Nat.le_refl _) _).alloc (by show _≤(w.heap.push _).size;simp) _⟩
theorem zq7 (j n:Option Addr) (q o:Nat) (w:World):Calls Tryz.prog 29 #[.slice j 0 q,.slice n 0 o] w fun e h=>e= .returned (.bool true)∧Below w.heap.size w h:=by
 go_enter Tryz.func29,Tryz.ntmps29
 go_wp2
 go_loopg [5] 1 (fun k i wr=>k=1∧i= .int .i64 0∧wr=w)
 case atStart=>exact⟨rfl,rfl,rfl⟩
 case round=>
  obtain⟨rfl,rfl,rfl⟩:=hrel
  go_wp2
  go_ret
  exact⟨rfl,Below.refl _ _⟩
theorem zq8 (b1 b2 H N:Nat) (I V:Rw) (l:List Ex) (w:World) (h:OwnR w b1 108 6 I l.length (l.flatMap exL)) (n:OwnR w b2 108 6 V l.length (l.flatMap exL)) (e1:I.a=some ⟨H,0,none⟩) (e2:V.a=some ⟨N,0,none⟩) (hl:l.length≤4294967296):
  Calls Tryz.prog 29 #[.slice (some ⟨H,0,none⟩) l.length I.cap,.slice (some ⟨N,0,none⟩) l.length V.cap] w fun e w'=>e= .returned (.bool true)∧Below w.heap.size w w':=by
 have H1:=zc h
 have H2:=zc n
 have E1:=zc e1
 have E2:=zc e2
 clear h n e1 e2
 go_enter Tryz.func29,Tryz.ntmps29
 go_wp2
 go_loopg [5] l.length (fun k i wr=>∃j:Nat,i= .int .i64 j∧j+k=l.length∧Below w.heap.size w wr)
 case atStart=>exact⟨0,rfl,by omega,Below.refl _ _⟩
 case round=>
  obtain⟨j,rfl,hj,hb⟩:=hrel
  have z:=zc hb
  clear hb
  by_cases M:j<l.length
  ·have A:(j:Int)<(l.length:Int):=by omega
   obtain⟨x,U⟩:=zeE M
   obtain⟨L,ga,h⟩:=OwnR.elem (f:=exL) (m:=6) (fun _=>rfl) (H1.out.keep fun k g=>z.out.block k (H1.out.typed g).2.1) U
   obtain rfl:L=H:=by have:=ga.symm.trans E1.out;simpa using this
   obtain⟨L,gb,n⟩:=OwnR.elem (f:=exL) (m:=6) (fun _=>rfl) (H2.out.keep fun k g=>z.out.block k (H2.out.typed g).2.1) U
   obtain rfl:L=N:=by have:=gb.symm.trans E2.out;simpa using this
   have C0:=zc (h 0 (by omega))
   have X:=zc (n 0 (by omega))
   have C1:=zc (h 1 (by omega))
   have D1:=zc (n 1 (by omega))
   have C2:=zc (h 2 (by omega))
   have Z:=zc (n 2 (by omega))
   have C3:=zc (h 3 (by omega))
   have D3:=zc (n 3 (by omega))
   have C4:=zc (h 4 (by omega))
   have D4:=zc (n 4 (by omega))
   have C5:=zc (h 5 (by omega))
   have D5:=zc (n 5 (by omega))
   clear h n ga gb U
   have cQ: ∀d os,Calls Tryz.prog 94 #[.agg #[.int .i64 x.kind,.int .i64 x.num,.string x.name,.string x.field,.int .i64 x.l,.int .i64 x.r],.agg #[.int .i64 x.kind,.int .i64 x.num,.string x.name,.string x.field,.int .i64 x.l,.int .i64 x.r]] (grow (redrawn wr d) os) fun e E=>e= .returned (.bool true)∧∃p:Regrown,E=grow (redrawn wr p.d) p.os:=fun d os=>Calls.regrown_of (zq6 x _)
   obtain⟨D,q⟩: ∃D,D=j+1:=⟨_,rfl⟩
   have ej:(j:Int)+1=(D:Int):=by omega
   have HJ:=zc q
   clear q
   go_wp2
   have Y:=cell_regrown C0.out
   have l0:=cell_regrown X.out
   have k1:=cell_regrown C1.out
   have l1:=cell_regrown D1.out
   have k2:=cell_regrown C2.out
   have l2:=cell_regrown Z.out
   have k3:=cell_regrown C3.out
   have l3:=cell_regrown D3.out
   have k4:=cell_regrown C4.out
   have l4:=cell_regrown D4.out
   have k5:=cell_regrown C5.out
   have l5:=cell_regrown D5.out
   simp only[Nat.add_zero] at Y l0
   refine wp_region_quiet_below (by kernel_rfl) (by kernel_rfl) ?_
   repeat (go_big_quiet_step (exact cQ _ _))
   refine wpQuiet_nil ?_
   intro w2 J
   obtain⟨⟨dq,O⟩,o⟩:=J
   have K:Hid (Below w.heap.size w w2):=by show Below _ _ _;rw[o];exact z.out.trans ((below_regrown wr dq O).mono z.out.size)
   clear o Y l0 C0 X k1 l1 C1 D1 k2 l2 C2 Z k3 l3 C3 D3 k4 l4 C4 D4 k5 l5 C5 D5 cQ
   go_wp2
   go_roundg (gk-1)
   case rel=>exact⟨D,rfl,by have:=HJ.out;omega,K.out⟩
   case measure=>omega
  ·have A: ¬(j:Int)<(l.length:Int):=by omega
   go_wp2
   go_ret
   exact⟨rfl,z.out⟩
theorem zq9 (o b2:Nat) (h j:Rw) (l:List Ex) (w:World) (q:OwnR w o 108 6 h l.length (l.flatMap exL)) (A:OwnR w b2 108 6 j l.length (l.flatMap exL)) (H:l.length≤4294967296):
  Calls Tryz.prog 29 #[.slice h.a l.length h.cap,.slice j.a l.length j.cap] w fun e E=>e= .returned (.bool true)∧Below w.heap.size w E:=by
 by_cases n:l.length=0
 ·rw[n]
  exact zq7 _ _ _ _ w
 ·rcases q.nil_or with ⟨_,_,e⟩|⟨J,D⟩
  ·exact absurd e n
  ·rcases A.nil_or with ⟨_,_,e⟩|⟨I,z⟩
   ·exact absurd e n
   ·rw[D,z]
    exact zq8 o b2 J I h j l w q A D z H
end Go.Proofs.YticdggnnpjachaaGreat
