/-
  What the laws' helpers over rows lean on. No program is spoken of.
  What the laws' comparers of lists answer where both show the same: the walks.
-/
import Derived.Laws.OwnMore
import Derived.Test.YtjdddblpfbmpaaaGreatCoImplParseJToEqRow
namespace Go.Proofs.YtjdddblpfbmpaaaGreat
set_option maxRecDepth 100000
set_option maxHeartbeats 3200000
open Go.RowKit Go.PlainAid Go.Sort
theorem zeB {α:Type} {l:List α} {j:Nat} (h:j<l.length): ∃x,l[j]? =some x:=⟨_,List.getElem?_eq_getElem h⟩
theorem zq3 (n q:Option Addr) (z h:Nat) (w:World):Calls Tryz.prog 41 #[.slice n 0 z,.slice q 0 h] w fun e j=>e= .returned (.bool true)∧Below w.heap.size w j:=by
 go_enter Tryz.func41,Tryz.ntmps41
 go_wp2
 go_loopg [5] 1 (fun k i wr=>k=1∧i= .int .i64 0∧wr=w)
 case atStart=>exact⟨rfl,rfl,rfl⟩
 case round=>
  obtain⟨rfl,rfl,rfl⟩:=hrel
  go_wp2
  go_ret
  exact⟨rfl,Below.refl _ _⟩
theorem zq4 (b1 b2 N L:Nat) (J V:Rw) (l:List ByteArray) (w:World) (A:OwnR w b1 9 1 J l.length (l.flatMap (fun x=>[Value.string x]))) (n:OwnR w b2 9 1 V l.length (l.flatMap (fun x=>[Value.string x]))) (e1:J.a=some ⟨N,0,none⟩) (e2:V.a=some ⟨L,0,none⟩) (hl:l.length≤4294967296):
  Calls Tryz.prog 41 #[.slice (some ⟨N,0,none⟩) l.length J.cap,.slice (some ⟨L,0,none⟩) l.length V.cap] w fun e w'=>e= .returned (.bool true)∧Below w.heap.size w w':=by
 have H1:=zc A
 have H2:=zc n
 have E1:=zc e1
 have E2:=zc e2
 clear A n e1 e2
 go_enter Tryz.func41,Tryz.ntmps41
 go_wp2
 go_loopg [5] l.length (fun k i wr=>∃j:Nat,i= .int .i64 j∧j+k=l.length∧Below w.heap.size w wr)
 case atStart=>exact⟨0,rfl,by omega,Below.refl _ _⟩
 case round=>
  obtain⟨j,rfl,hj,Z⟩:=hrel
  have z:=zc Z
  clear Z
  by_cases I:j<l.length
  ·have D:(j:Int)<(l.length:Int):=by omega
   obtain⟨x,U⟩:=zeB I
   obtain⟨M,X,A⟩:=OwnR.elem (f:=(fun x=>[Value.string x])) (m:=1) (fun _=>rfl) (H1.out.keep fun k g=>z.out.block k (H1.out.typed g).2.1) U
   obtain rfl:M=N:=by have:=X.symm.trans E1.out;simpa using this
   obtain⟨M,Y,n⟩:=OwnR.elem (f:=(fun x=>[Value.string x])) (m:=1) (fun _=>rfl) (H2.out.keep fun k g=>z.out.block k (H2.out.typed g).2.1) U
   obtain rfl:M=L:=by have:=Y.symm.trans E2.out;simpa using this
   have C0:=zc (A 0 (by omega))
   have D0:=zc (n 0 (by omega))
   clear A n X Y U
   obtain⟨E,q⟩: ∃E,E=j+1:=⟨_,rfl⟩
   have ej:(j:Int)+1=(E:Int):=by omega
   have HJ:=zc q
   clear q
   go_wp2
   have k0:=cell_regrown C0.out
   have l0:=cell_regrown D0.out
   simp only[Nat.add_zero,Nat.mul_one] at k0 l0
   refine wp_region_quiet_below (by kernel_rfl) (by kernel_rfl) ?_
   repeat (go_big_quiet_step (fail))
   refine wpQuiet_nil ?_
   intro w2 H
   obtain⟨⟨dq,K⟩,h⟩:=H
   have O:Hid (Below w.heap.size w w2):=by show Below _ _ _;rw[h];exact z.out.trans ((below_regrown wr dq K).mono z.out.size)
   clear h k0 l0 C0 D0
   go_wp2
   go_roundg (gk-1)
   case rel=>exact⟨E,rfl,by have:=HJ.out;omega,O.out⟩
   case measure=>omega
  ·have D: ¬(j:Int)<(l.length:Int):=by omega
   go_wp2
   go_ret
   exact⟨rfl,z.out⟩
theorem zq5 (q b2:Nat) (j h:Rw) (l:List ByteArray) (w:World) (D:OwnR w q 9 1 j l.length (l.flatMap (fun x=>[Value.string x]))) (A:OwnR w b2 9 1 h l.length (l.flatMap (fun x=>[Value.string x]))) (K:l.length≤4294967296):
  Calls Tryz.prog 41 #[.slice j.a l.length j.cap,.slice h.a l.length h.cap] w fun e J=>e= .returned (.bool true)∧Below w.heap.size w J:=by
 by_cases n:l.length=0
 ·rw[n]
  exact zq3 _ _ _ _ w
 ·rcases D.nil_or with ⟨_,_,e⟩|⟨I,z⟩
  ·exact absurd e n
  ·rcases A.nil_or with ⟨_,_,e⟩|⟨H,E⟩
   ·exact absurd e n
   ·rw[z,E]
    exact zq4 q b2 I H j h l w D A z E K
theorem zq6 (x:Im) (w:World):Calls Tryz.prog 92 #[.agg #[.string x.spec,.string x.first,.string x.loc],.agg #[.string x.spec,.string x.first,.string x.loc]] w fun e h=>e= .returned (.bool true)∧Below w.heap.size w h:=by
 go_enter Tryz.func92,Tryz.ntmps92
 go_wp2
 go_ret
 exact⟨rfl,((Below.refl _ _).alloc (Nat.le_refl _) _).alloc (by show _≤(w.heap.push _).size;simp) _⟩
theorem zq7 (n q:Option Addr) (z h:Nat) (w:World):Calls Tryz.prog 42 #[.slice n 0 z,.slice q 0 h] w fun e j=>e= .returned (.bool true)∧Below w.heap.size w j:=by
 go_enter Tryz.func42,Tryz.ntmps42
 go_wp2
 go_loopg [5] 1 (fun k i wr=>k=1∧i= .int .i64 0∧wr=w)
 case atStart=>exact⟨rfl,rfl,rfl⟩
 case round=>
  obtain⟨rfl,rfl,rfl⟩:=hrel
  go_wp2
  go_ret
  exact⟨rfl,Below.refl _ _⟩
theorem zq8 (b1 b2 N L:Nat) (J X:Rw) (l:List Im) (w:World) (q:OwnR w b1 84 3 J l.length (l.flatMap imL)) (n:OwnR w b2 84 3 X l.length (l.flatMap imL)) (e1:J.a=some ⟨N,0,none⟩) (e2:X.a=some ⟨L,0,none⟩) (hl:l.length≤4294967296):
  Calls Tryz.prog 42 #[.slice (some ⟨N,0,none⟩) l.length J.cap,.slice (some ⟨L,0,none⟩) l.length X.cap] w fun e w'=>e= .returned (.bool true)∧Below w.heap.size w w':=by
 have H1:=zc q
 have H2:=zc n
 have E1:=zc e1
 have E2:=zc e2
 clear q n e1 e2
 go_enter Tryz.func42,Tryz.ntmps42
 go_wp2
 go_loopg [5] l.length (fun k i wr=>∃j:Nat,i= .int .i64 j∧j+k=l.length∧Below w.heap.size w wr)
 case atStart=>exact⟨0,rfl,by omega,Below.refl _ _⟩
 case round=>
  obtain⟨j,rfl,hj,hb⟩:=hrel
  have A:=zc hb
  clear hb
  by_cases I:j<l.length
  ·have D:(j:Int)<(l.length:Int):=by omega
   obtain⟨x,V⟩:=zeB I
   obtain⟨M,Y,q⟩:=OwnR.elem (f:=imL) (m:=3) (fun _=>rfl) (H1.out.keep fun k g=>A.out.block k (H1.out.typed g).2.1) V
   obtain rfl:M=N:=by have:=Y.symm.trans E1.out;simpa using this
   obtain⟨M,gb,n⟩:=OwnR.elem (f:=imL) (m:=3) (fun _=>rfl) (H2.out.keep fun k g=>A.out.block k (H2.out.typed g).2.1) V
   obtain rfl:M=L:=by have:=gb.symm.trans E2.out;simpa using this
   have C0:=zc (q 0 (by omega))
   have D0:=zc (n 0 (by omega))
   have C1:=zc (q 1 (by omega))
   have Z:=zc (n 1 (by omega))
   have C2:=zc (q 2 (by omega))
   have D2:=zc (n 2 (by omega))
   clear q n Y gb V
   have cQ: ∀d os,Calls Tryz.prog 92 #[.agg #[.string x.spec,.string x.first,.string x.loc],.agg #[.string x.spec,.string x.first,.string x.loc]] (grow (redrawn wr d) os) fun e U=>e= .returned (.bool true)∧∃p:Regrown,U=grow (redrawn wr p.d) p.os:=fun d os=>Calls.regrown_of (zq6 x _)
   obtain⟨E,z⟩: ∃E,E=j+1:=⟨_,rfl⟩
   have ej:(j:Int)+1=(E:Int):=by omega
   have HJ:=zc z
   clear z
   go_wp2
   have k0:=cell_regrown C0.out
   have l0:=cell_regrown D0.out
   have k1:=cell_regrown C1.out
   have l1:=cell_regrown Z.out
   have k2:=cell_regrown C2.out
   have l2:=cell_regrown D2.out
   simp only[Nat.add_zero] at k0 l0
   refine wp_region_quiet_below (by kernel_rfl) (by kernel_rfl) ?_
   repeat (go_big_quiet_step (exact cQ _ _))
   refine wpQuiet_nil ?_
   intro w2 H
   obtain⟨⟨dq,K⟩,h⟩:=H
   have O:Hid (Below w.heap.size w w2):=by show Below _ _ _;rw[h];exact A.out.trans ((below_regrown wr dq K).mono A.out.size)
   clear h k0 l0 C0 D0 k1 l1 C1 Z k2 l2 C2 D2 cQ
   go_wp2
   go_roundg (gk-1)
   case rel=>exact⟨E,rfl,by have:=HJ.out;omega,O.out⟩
   case measure=>omega
  ·have D: ¬(j:Int)<(l.length:Int):=by omega
   go_wp2
   go_ret
   exact⟨rfl,A.out⟩
theorem zq9 (q b2:Nat) (j h:Rw) (l:List Im) (w:World) (D:OwnR w q 84 3 j l.length (l.flatMap imL)) (A:OwnR w b2 84 3 h l.length (l.flatMap imL)) (K:l.length≤4294967296):
  Calls Tryz.prog 42 #[.slice j.a l.length j.cap,.slice h.a l.length h.cap] w fun e J=>e= .returned (.bool true)∧Below w.heap.size w J:=by
 by_cases n:l.length=0
 ·rw[n]
  exact zq7 _ _ _ _ w
 ·rcases D.nil_or with ⟨_,_,e⟩|⟨I,z⟩
  ·exact absurd e n
  ·rcases A.nil_or with ⟨_,_,e⟩|⟨H,E⟩
   ·exact absurd e n
   ·rw[z,E]
    exact zq8 q b2 I H j h l w D A z E K
theorem zqA (x:Ep) (w:World):Calls Tryz.prog 93 #[.agg #[.int .i64 x.kind,.string x.name,.string x.loc,.string x.spec],.agg #[.int .i64 x.kind,.string x.name,.string x.loc,.string x.spec]] w fun e h=>e= .returned (.bool true)∧Below w.heap.size w h:=by
 go_enter Tryz.func93,Tryz.ntmps93
 go_wp2
 go_ret
 exact⟨rfl,((Below.refl _ _).alloc (Nat.le_refl _) _).alloc (by show _≤(w.heap.push _).size;simp) _⟩
theorem zqB (n q:Option Addr) (z h:Nat) (w:World):Calls Tryz.prog 43 #[.slice n 0 z,.slice q 0 h] w fun e j=>e= .returned (.bool true)∧Below w.heap.size w j:=by
 go_enter Tryz.func43,Tryz.ntmps43
 go_wp2
 go_loopg [5] 1 (fun k i wr=>k=1∧i= .int .i64 0∧wr=w)
 case atStart=>exact⟨rfl,rfl,rfl⟩
 case round=>
  obtain⟨rfl,rfl,rfl⟩:=hrel
  go_wp2
  go_ret
  exact⟨rfl,Below.refl _ _⟩
theorem zqC (b1 b2 N L:Nat) (J X:Rw) (l:List Ep) (w:World) (n:OwnR w b1 86 4 J l.length (l.flatMap epL)) (h:OwnR w b2 86 4 X l.length (l.flatMap epL)) (e1:J.a=some ⟨N,0,none⟩) (e2:X.a=some ⟨L,0,none⟩) (hl:l.length≤4294967296):
  Calls Tryz.prog 43 #[.slice (some ⟨N,0,none⟩) l.length J.cap,.slice (some ⟨L,0,none⟩) l.length X.cap] w fun e w'=>e= .returned (.bool true)∧Below w.heap.size w w':=by
 have H1:=zc n
 have H2:=zc h
 have E1:=zc e1
 have E2:=zc e2
 clear n h e1 e2
 go_enter Tryz.func43,Tryz.ntmps43
 go_wp2
 go_loopg [5] l.length (fun k i wr=>∃j:Nat,i= .int .i64 j∧j+k=l.length∧Below w.heap.size w wr)
 case atStart=>exact⟨0,rfl,by omega,Below.refl _ _⟩
 case round=>
  obtain⟨j,rfl,hj,hb⟩:=hrel
  have A:=zc hb
  clear hb
  by_cases I:j<l.length
  ·have D:(j:Int)<(l.length:Int):=by omega
   obtain⟨x,V⟩:=zeB I
   obtain⟨M,Y,n⟩:=OwnR.elem (f:=epL) (m:=4) (fun _=>rfl) (H1.out.keep fun k g=>A.out.block k (H1.out.typed g).2.1) V
   obtain rfl:M=N:=by have:=Y.symm.trans E1.out;simpa using this
   obtain⟨M,gb,h⟩:=OwnR.elem (f:=epL) (m:=4) (fun _=>rfl) (H2.out.keep fun k g=>A.out.block k (H2.out.typed g).2.1) V
   obtain rfl:M=L:=by have:=gb.symm.trans E2.out;simpa using this
   have C0:=zc (n 0 (by omega))
   have D0:=zc (h 0 (by omega))
   have C1:=zc (n 1 (by omega))
   have Z:=zc (h 1 (by omega))
   have C2:=zc (n 2 (by omega))
   have D2:=zc (h 2 (by omega))
   have C3:=zc (n 3 (by omega))
   have D3:=zc (h 3 (by omega))
   clear n h Y gb V
   have cQ: ∀d os,Calls Tryz.prog 93 #[.agg #[.int .i64 x.kind,.string x.name,.string x.loc,.string x.spec],.agg #[.int .i64 x.kind,.string x.name,.string x.loc,.string x.spec]] (grow (redrawn wr d) os) fun e U=>e= .returned (.bool true)∧∃p:Regrown,U=grow (redrawn wr p.d) p.os:=fun d os=>Calls.regrown_of (zqA x _)
   obtain⟨E,z⟩: ∃E,E=j+1:=⟨_,rfl⟩
   have ej:(j:Int)+1=(E:Int):=by omega
   have HJ:=zc z
   clear z
   go_wp2
   have k0:=cell_regrown C0.out
   have l0:=cell_regrown D0.out
   have k1:=cell_regrown C1.out
   have l1:=cell_regrown Z.out
   have k2:=cell_regrown C2.out
   have l2:=cell_regrown D2.out
   have k3:=cell_regrown C3.out
   have l3:=cell_regrown D3.out
   simp only[Nat.add_zero] at k0 l0
   refine wp_region_quiet_below (by kernel_rfl) (by kernel_rfl) ?_
   repeat (go_big_quiet_step (exact cQ _ _))
   refine wpQuiet_nil ?_
   intro w2 H
   obtain⟨⟨dq,K⟩,q⟩:=H
   have O:Hid (Below w.heap.size w w2):=by show Below _ _ _;rw[q];exact A.out.trans ((below_regrown wr dq K).mono A.out.size)
   clear q k0 l0 C0 D0 k1 l1 C1 Z k2 l2 C2 D2 k3 l3 C3 D3 cQ
   go_wp2
   go_roundg (gk-1)
   case rel=>exact⟨E,rfl,by have:=HJ.out;omega,O.out⟩
   case measure=>omega
  ·have D: ¬(j:Int)<(l.length:Int):=by omega
   go_wp2
   go_ret
   exact⟨rfl,A.out⟩
theorem zqD (q b2:Nat) (j h:Rw) (l:List Ep) (w:World) (D:OwnR w q 86 4 j l.length (l.flatMap epL)) (A:OwnR w b2 86 4 h l.length (l.flatMap epL)) (K:l.length≤4294967296):
  Calls Tryz.prog 43 #[.slice j.a l.length j.cap,.slice h.a l.length h.cap] w fun e J=>e= .returned (.bool true)∧Below w.heap.size w J:=by
 by_cases n:l.length=0
 ·rw[n]
  exact zqB _ _ _ _ w
 ·rcases D.nil_or with ⟨_,_,e⟩|⟨I,z⟩
  ·exact absurd e n
  ·rcases A.nil_or with ⟨_,_,e⟩|⟨H,E⟩
   ·exact absurd e n
   ·rw[z,E]
    exact zqC q b2 I H j h l w D A z E K
theorem zqE (x:Sm) (w:World):Calls Tryz.prog 94 #[.agg #[.int .i64 x.kind,.string x.name,.int .i64 x.expr],.agg #[.int .i64 x.kind,.string x.name,.int .i64 x.expr]] w fun e h=>e= .returned (.bool true)∧Below w.heap.size w h:=by
 go_enter Tryz.func94,Tryz.ntmps94
 go_wp2
 go_ret
 exact⟨rfl,((Below.refl _ _).alloc (Nat.le_refl _) _).alloc (by show _≤(w.heap.push _).size;simp) _⟩
theorem zqF (n q:Option Addr) (z h:Nat) (w:World):Calls Tryz.prog 44 #[.slice n 0 z,.slice q 0 h] w fun e j=>e= .returned (.bool true)∧Below w.heap.size w j:=by
 go_enter Tryz.func44,Tryz.ntmps44
 go_wp2
 go_loopg [5] 1 (fun k i wr=>k=1∧i= .int .i64 0∧wr=w)
 case atStart=>exact⟨rfl,rfl,rfl⟩
 case round=>
  obtain⟨rfl,rfl,rfl⟩:=hrel
  go_wp2
  go_ret
  exact⟨rfl,Below.refl _ _⟩
theorem zqG (b1 b2 N L:Nat) (J X:Rw) (l:List Sm) (w:World) (q:OwnR w b1 107 3 J l.length (l.flatMap smL)) (n:OwnR w b2 107 3 X l.length (l.flatMap smL)) (e1:J.a=some ⟨N,0,none⟩) (e2:X.a=some ⟨L,0,none⟩) (hl:l.length≤4294967296):
  Calls Tryz.prog 44 #[.slice (some ⟨N,0,none⟩) l.length J.cap,.slice (some ⟨L,0,none⟩) l.length X.cap] w fun e w'=>e= .returned (.bool true)∧Below w.heap.size w w':=by
 have H1:=zc q
 have H2:=zc n
 have E1:=zc e1
 have E2:=zc e2
 clear q n e1 e2
 go_enter Tryz.func44,Tryz.ntmps44
 go_wp2
 go_loopg [5] l.length (fun k i wr=>∃j:Nat,i= .int .i64 j∧j+k=l.length∧Below w.heap.size w wr)
 case atStart=>exact⟨0,rfl,by omega,Below.refl _ _⟩
 case round=>
  obtain⟨j,rfl,hj,hb⟩:=hrel
  have A:=zc hb
  clear hb
  by_cases I:j<l.length
  ·have D:(j:Int)<(l.length:Int):=by omega
   obtain⟨x,V⟩:=zeB I
   obtain⟨M,Y,q⟩:=OwnR.elem (f:=smL) (m:=3) (fun _=>rfl) (H1.out.keep fun k g=>A.out.block k (H1.out.typed g).2.1) V
   obtain rfl:M=N:=by have:=Y.symm.trans E1.out;simpa using this
   obtain⟨M,gb,n⟩:=OwnR.elem (f:=smL) (m:=3) (fun _=>rfl) (H2.out.keep fun k g=>A.out.block k (H2.out.typed g).2.1) V
   obtain rfl:M=L:=by have:=gb.symm.trans E2.out;simpa using this
   have C0:=zc (q 0 (by omega))
   have D0:=zc (n 0 (by omega))
   have C1:=zc (q 1 (by omega))
   have Z:=zc (n 1 (by omega))
   have C2:=zc (q 2 (by omega))
   have D2:=zc (n 2 (by omega))
   clear q n Y gb V
   have cQ: ∀d os,Calls Tryz.prog 94 #[.agg #[.int .i64 x.kind,.string x.name,.int .i64 x.expr],.agg #[.int .i64 x.kind,.string x.name,.int .i64 x.expr]] (grow (redrawn wr d) os) fun e U=>e= .returned (.bool true)∧∃p:Regrown,U=grow (redrawn wr p.d) p.os:=fun d os=>Calls.regrown_of (zqE x _)
   obtain⟨E,z⟩: ∃E,E=j+1:=⟨_,rfl⟩
   have ej:(j:Int)+1=(E:Int):=by omega
   have HJ:=zc z
   clear z
   go_wp2
   have k0:=cell_regrown C0.out
   have l0:=cell_regrown D0.out
   have k1:=cell_regrown C1.out
   have l1:=cell_regrown Z.out
   have k2:=cell_regrown C2.out
   have l2:=cell_regrown D2.out
   simp only[Nat.add_zero] at k0 l0
   refine wp_region_quiet_below (by kernel_rfl) (by kernel_rfl) ?_
   repeat (go_big_quiet_step (exact cQ _ _))
   refine wpQuiet_nil ?_
   intro w2 H
   obtain⟨⟨dq,K⟩,h⟩:=H
   have O:Hid (Below w.heap.size w w2):=by show Below _ _ _;rw[h];exact A.out.trans ((below_regrown wr dq K).mono A.out.size)
   clear h k0 l0 C0 D0 k1 l1 C1 Z k2 l2 C2 D2 cQ
   go_wp2
   go_roundg (gk-1)
   case rel=>exact⟨E,rfl,by have:=HJ.out;omega,O.out⟩
   case measure=>omega
  ·have D: ¬(j:Int)<(l.length:Int):=by omega
   go_wp2
   go_ret
   exact⟨rfl,A.out⟩
theorem zqH (q b2:Nat) (j h:Rw) (l:List Sm) (w:World) (D:OwnR w q 107 3 j l.length (l.flatMap smL)) (A:OwnR w b2 107 3 h l.length (l.flatMap smL)) (K:l.length≤4294967296):
  Calls Tryz.prog 44 #[.slice j.a l.length j.cap,.slice h.a l.length h.cap] w fun e J=>e= .returned (.bool true)∧Below w.heap.size w J:=by
 by_cases n:l.length=0
 ·rw[n]
  exact zqF _ _ _ _ w
 ·rcases D.nil_or with ⟨_,_,e⟩|⟨I,z⟩
  ·exact absurd e n
  ·rcases A.nil_or with ⟨_,_,e⟩|⟨H,E⟩
   ·exact absurd e n
   ·rw[z,E]
    exact zqG q b2 I H j h l w D A z E K
theorem zqI (x:Ex) (w:World):Calls Tryz.prog 95 #[.agg #[.int .i64 x.kind,.int .i64 x.num,.string x.name,.string x.field,.int .i64 x.l,.int .i64 x.r],.agg #[.int .i64 x.kind,.int .i64 x.num,.string x.name,.string x.field,.int .i64 x.l,.int .i64 x.r]] w fun e h=>e= .returned (.bool true)∧Below w.heap.size w h:=by
 go_enter Tryz.func95,Tryz.ntmps95
 go_wp2
 go_ret
 exact⟨rfl,((Below.refl _ _).alloc (Nat.le_refl _) _).alloc (by show _≤(w.heap.push _).size;simp) _⟩
theorem zqJ (n q:Option Addr) (z h:Nat) (w:World):Calls Tryz.prog 45 #[.slice n 0 z,.slice q 0 h] w fun e j=>e= .returned (.bool true)∧Below w.heap.size w j:=by
 go_enter Tryz.func45,Tryz.ntmps45
 go_wp2
 go_loopg [5] 1 (fun k i wr=>k=1∧i= .int .i64 0∧wr=w)
 case atStart=>exact⟨rfl,rfl,rfl⟩
 case round=>
  obtain⟨rfl,rfl,rfl⟩:=hrel
  go_wp2
  go_ret
  exact⟨rfl,Below.refl _ _⟩
theorem zqK (b1 b2 N L:Nat) (J X:Rw) (l:List Ex) (w:World) (n:OwnR w b1 109 6 J l.length (l.flatMap exL)) (h:OwnR w b2 109 6 X l.length (l.flatMap exL)) (e1:J.a=some ⟨N,0,none⟩) (e2:X.a=some ⟨L,0,none⟩) (hl:l.length≤4294967296):
  Calls Tryz.prog 45 #[.slice (some ⟨N,0,none⟩) l.length J.cap,.slice (some ⟨L,0,none⟩) l.length X.cap] w fun e w'=>e= .returned (.bool true)∧Below w.heap.size w w':=by
 have H1:=zc n
 have H2:=zc h
 have E1:=zc e1
 have E2:=zc e2
 clear n h e1 e2
 go_enter Tryz.func45,Tryz.ntmps45
 go_wp2
 go_loopg [5] l.length (fun k i wr=>∃j:Nat,i= .int .i64 j∧j+k=l.length∧Below w.heap.size w wr)
 case atStart=>exact⟨0,rfl,by omega,Below.refl _ _⟩
 case round=>
  obtain⟨j,rfl,hj,hb⟩:=hrel
  have A:=zc hb
  clear hb
  by_cases I:j<l.length
  ·have D:(j:Int)<(l.length:Int):=by omega
   obtain⟨x,V⟩:=zeB I
   obtain⟨M,Y,n⟩:=OwnR.elem (f:=exL) (m:=6) (fun _=>rfl) (H1.out.keep fun k g=>A.out.block k (H1.out.typed g).2.1) V
   obtain rfl:M=N:=by have:=Y.symm.trans E1.out;simpa using this
   obtain⟨M,gb,h⟩:=OwnR.elem (f:=exL) (m:=6) (fun _=>rfl) (H2.out.keep fun k g=>A.out.block k (H2.out.typed g).2.1) V
   obtain rfl:M=L:=by have:=gb.symm.trans E2.out;simpa using this
   have C0:=zc (n 0 (by omega))
   have D0:=zc (h 0 (by omega))
   have C1:=zc (n 1 (by omega))
   have Z:=zc (h 1 (by omega))
   have C2:=zc (n 2 (by omega))
   have D2:=zc (h 2 (by omega))
   have C3:=zc (n 3 (by omega))
   have D3:=zc (h 3 (by omega))
   have C4:=zc (n 4 (by omega))
   have D4:=zc (h 4 (by omega))
   have C5:=zc (n 5 (by omega))
   have D5:=zc (h 5 (by omega))
   clear n h Y gb V
   have cQ: ∀d os,Calls Tryz.prog 95 #[.agg #[.int .i64 x.kind,.int .i64 x.num,.string x.name,.string x.field,.int .i64 x.l,.int .i64 x.r],.agg #[.int .i64 x.kind,.int .i64 x.num,.string x.name,.string x.field,.int .i64 x.l,.int .i64 x.r]] (grow (redrawn wr d) os) fun e U=>e= .returned (.bool true)∧∃p:Regrown,U=grow (redrawn wr p.d) p.os:=fun d os=>Calls.regrown_of (zqI x _)
   obtain⟨E,z⟩: ∃E,E=j+1:=⟨_,rfl⟩
   have ej:(j:Int)+1=(E:Int):=by omega
   have HJ:=zc z
   clear z
   go_wp2
   have k0:=cell_regrown C0.out
   have l0:=cell_regrown D0.out
   have k1:=cell_regrown C1.out
   have l1:=cell_regrown Z.out
   have k2:=cell_regrown C2.out
   have l2:=cell_regrown D2.out
   have k3:=cell_regrown C3.out
   have l3:=cell_regrown D3.out
   have k4:=cell_regrown C4.out
   have l4:=cell_regrown D4.out
   have k5:=cell_regrown C5.out
   have l5:=cell_regrown D5.out
   simp only[Nat.add_zero] at k0 l0
   refine wp_region_quiet_below (by kernel_rfl) (by kernel_rfl) ?_
   repeat (go_big_quiet_step (exact cQ _ _))
   refine wpQuiet_nil ?_
   intro w2 H
   obtain⟨⟨dq,K⟩,q⟩:=H
   have O:Hid (Below w.heap.size w w2):=by show Below _ _ _;rw[q];exact A.out.trans ((below_regrown wr dq K).mono A.out.size)
   clear q k0 l0 C0 D0 k1 l1 C1 Z k2 l2 C2 D2 k3 l3 C3 D3 k4 l4 C4 D4 k5 l5 C5 D5 cQ
   go_wp2
   go_roundg (gk-1)
   case rel=>exact⟨E,rfl,by have:=HJ.out;omega,O.out⟩
   case measure=>omega
  ·have D: ¬(j:Int)<(l.length:Int):=by omega
   go_wp2
   go_ret
   exact⟨rfl,A.out⟩
theorem zqL (q b2:Nat) (j h:Rw) (l:List Ex) (w:World) (D:OwnR w q 109 6 j l.length (l.flatMap exL)) (A:OwnR w b2 109 6 h l.length (l.flatMap exL)) (K:l.length≤4294967296):
  Calls Tryz.prog 45 #[.slice j.a l.length j.cap,.slice h.a l.length h.cap] w fun e J=>e= .returned (.bool true)∧Below w.heap.size w J:=by
 by_cases n:l.length=0
 ·rw[n]
  exact zqJ _ _ _ _ w
 ·rcases D.nil_or with ⟨_,_,e⟩|⟨I,z⟩
  ·exact absurd e n
  ·rcases A.nil_or with ⟨_,_,e⟩|⟨H,E⟩
   ·exact absurd e n
   ·rw[z,E]
    exact zqK q b2 I H j h l w D A z E K
end Go.Proofs.YtjdddblpfbmpaaaGreat
