/-
  What the laws' size counters answer: the walks.
  What the laws' copiers answer: the walks.
  What the laws' toMod answers: the walk.
-/
import Derived.Deep.Cut
import Derived.Test.YtjdddblpfbmpaaaGreatCoSrcRowToCostMath
namespace Go.Proofs.YtjdddblpfbmpaaaGreat
set_option maxRecDepth 100000
set_option maxHeartbeats 6400000
open Go.RowKit Go.PlainAid Go.Sort
def zdX (x:ByteArray):Prop:=x.size≤9223372036854775807
theorem zqh (a:Option Addr) (L:Nat) (l:List ByteArray) (left:Int) (w:World) (U:RowAt w a (fun x=>[Value.string x]) 1 l) (hl:l.length≤9223372036854775807) (q: ∀x∈l,zdX x) (h0:0≤left) (h1:left≤1048576):
  Calls Tryz.prog 27 #[.slice a l.length L,.int .i64 left] w fun e Z=>zcD left (l.length+zP zbW l) e∧Below w.heap.size w Z:=by
 have HR:=zc U
 have HG:=zc q
 clear U q
 by_cases Y:(l.length:Int)≤left
 case neg=>
  go_enter Tryz.func27,Tryz.ntmps27
  go_wp2
  go_ret
  exact⟨⟨-1,rfl,by omega,by omega,fun h=>by omega⟩,Below.refl _ _⟩
 go_enter Tryz.func27,Tryz.ntmps27
 go_wp2
 go_loopg [1,5] l.length (fun k s1 s5 wr=>∃(j:Nat) (z:Int),s5= .int .i64 j∧s1= .int .i64 z∧j+k=l.length∧0≤z∧z≤left∧z+((l.length+zP zbW (l.take j):Nat):Int)=left∧Below w.heap.size w wr)
 case atStart=>exact⟨0,_,rfl,rfl,by omega,by omega,by omega,by simp[zP],Below.refl _ _⟩
 case round=>
  obtain⟨j,z,rfl,rfl,hj,aa,N,A,q⟩:=hrel
  have V:=zc A
  have I:=zc q
  clear A q
  by_cases K:j<l.length
  ·have E:(j:Int)<(l.length:Int):=by omega
   obtain⟨x,J⟩: ∃x,l[j]? =some x:=⟨_,List.getElem?_eq_getElem K⟩
   obtain⟨b,ab,rfl,X⟩:=(HR.out.later I.out).get J
   have D:=HG.out x (List.mem_of_getElem? J)
   have HC:=zc (ze9 zbW J)
   have c0:=X 0 _ rfl
   simp only[Nat.add_zero,Nat.mul_one] at c0
   clear X J
   obtain⟨H,n⟩: ∃H,H=j+1:=⟨_,rfl⟩
   have ej:(j:Int)+1=(H:Int):=by omega
   have O:=zc n
   clear n
   unfold zdX at D
   by_cases M:0≤z-(x.size:Int)
   ·go_wp2
    go_roundg (gk-1)
    case rel=>exact⟨H,_,rfl,rfl,by have:=O.out;omega,M,by omega,by have:=V.out;have:zbW x=x.size:=rfl;rw[O.out,HC.out];omega,I.out⟩
    case measure=>omega
   ·go_wp2
    go_ret
    exact⟨⟨-1,rfl,by omega,by omega,fun h=>by omega⟩,I.out⟩
  ·have E: ¬(j:Int)<(l.length:Int):=by omega
   obtain rfl:j=l.length:=by omega
   go_wp2
   go_ret
   exact⟨⟨z,rfl,by omega,N,fun _=>by have:=V.out;rw[List.take_length] at this;exact this⟩,I.out⟩
def zdx (x:Im):Prop:=x.spec.size≤9223372036854775807∧x.first.size≤9223372036854775807∧x.loc.size≤9223372036854775807
theorem zqi (x:Im) (left:Int) (w:World) (j:zdx x) (D:0≤left) (A:left≤1048576):
  Calls Tryz.prog 74 #[.agg #[.string x.spec,.string x.first,.string x.loc],.int .i64 left] w fun e n=>zcD left (zbA x) e∧Below w.heap.size w n:=by
 unfold zdx at j
 obtain⟨z,q,E⟩:=j
 go_enter Tryz.func74,Tryz.ntmps74
 go_wp2
 ·go_ret
  exact⟨⟨-1,rfl,by omega,by omega,fun h=>by omega⟩,(Below.refl _ _).alloc (Nat.le_refl _) _⟩
 ·go_ret
  exact⟨⟨-1,rfl,by omega,by omega,fun h=>by omega⟩,(Below.refl _ _).alloc (Nat.le_refl _) _⟩
 ·go_ret
  exact⟨⟨-1,rfl,by omega,by omega,fun h=>by omega⟩,(Below.refl _ _).alloc (Nat.le_refl _) _⟩
 ·go_ret
  exact⟨⟨_,rfl,by omega,by omega,fun _=>by unfold zbA;omega⟩,(Below.refl _ _).alloc (Nat.le_refl _) _⟩
theorem zqj (a:Option Addr) (X:Nat) (l:List Im) (left:Int) (w:World) (hr:RowAt w a imL 3 l) (hl:l.length≤9223372036854775807) (A: ∀x∈l,zdx x) (h0:0≤left) (h1:left≤1048576):
  Calls Tryz.prog 28 #[.slice a l.length X,.int .i64 left] w fun e w'=>zcD left (l.length+zP zbA l) e∧Below w.heap.size w w':=by
 have HR:=zc hr
 have HG:=zc A
 clear hr A
 by_cases aa:(l.length:Int)≤left
 case neg=>
  go_enter Tryz.func28,Tryz.ntmps28
  go_wp2
  go_ret
  exact⟨⟨-1,rfl,by omega,by omega,fun h=>by omega⟩,Below.refl _ _⟩
 go_enter Tryz.func28,Tryz.ntmps28
 go_wp2
 go_loopg [1,5] l.length (fun k s1 s5 wr=>∃(j:Nat) (z:Int),s5= .int .i64 j∧s1= .int .i64 z∧j+k=l.length∧0≤z∧z≤left∧z+((l.length+zP zbA (l.take j):Nat):Int)=left∧Below w.heap.size w wr)
 case atStart=>exact⟨0,_,rfl,rfl,by omega,by omega,by omega,by simp[zP],Below.refl _ _⟩
 case round=>
  obtain⟨j,z,rfl,rfl,hj,V,Y,H,A⟩:=hrel
  have HZ:=zc H
  have M:=zc A
  clear H A
  by_cases U:j<l.length
  ·have K:(j:Int)<(l.length:Int):=by omega
   obtain⟨x,N⟩: ∃x,l[j]? =some x:=⟨_,List.getElem?_eq_getElem U⟩
   obtain⟨b,ac,rfl,O⟩:=(HR.out.later M.out).get N
   have n:=HG.out x (List.mem_of_getElem? N)
   have HC:=zc (ze9 zbA N)
   have c0:=O 0 _ rfl
   have c1:=O 1 _ rfl
   have c2:=O 2 _ rfl
   simp only[Nat.add_zero] at c0
   clear O N
   obtain⟨L,q⟩: ∃L,L=j+1:=⟨_,rfl⟩
   have ej:(j:Int)+1=(L:Int):=by omega
   have HJ:=zc q
   clear q
   go_wp2_with fail
   refine (zqi x z _ n V (by omega)).mono ?_
   rintro e w1 ⟨⟨z1,rfl,ad,ab,E⟩,J⟩
   have I:=zc (M.out.trans (J.mono M.out.size))
   have Z:=zc E
   clear J E n c0 c1 c2
   by_cases D:0≤z1
   ·go_wp2
    go_roundg (gk-1)
    case rel=>exact⟨L,z1,rfl,rfl,by have:=HJ.out;omega,D,by omega,by have:=HZ.out;have:=Z.out D;rw[HJ.out,HC.out];omega,I.out⟩
    case measure=>omega
   ·go_wp2
    go_ret
    exact⟨⟨-1,rfl,by omega,by omega,fun h=>by omega⟩,I.out⟩
  ·have K: ¬(j:Int)<(l.length:Int):=by omega
   obtain rfl:j=l.length:=by omega
   go_wp2
   go_ret
   exact⟨⟨z,rfl,by omega,Y,fun _=>by have:=HZ.out;rw[List.take_length] at this;exact this⟩,M.out⟩
def zdy (x:Ep):Prop:=x.name.size≤9223372036854775807∧x.loc.size≤9223372036854775807∧x.spec.size≤9223372036854775807
theorem zqk (x:Ep) (left:Int) (w:World) (j:zdy x) (D:0≤left) (A:left≤1048576):
  Calls Tryz.prog 75 #[.agg #[.int .i64 x.kind,.string x.name,.string x.loc,.string x.spec],.int .i64 left] w fun e n=>zcD left (zbB x) e∧Below w.heap.size w n:=by
 unfold zdy at j
 obtain⟨z,q,E⟩:=j
 go_enter Tryz.func75,Tryz.ntmps75
 go_wp2
 ·go_ret
  exact⟨⟨-1,rfl,by omega,by omega,fun h=>by omega⟩,(Below.refl _ _).alloc (Nat.le_refl _) _⟩
 ·go_ret
  exact⟨⟨-1,rfl,by omega,by omega,fun h=>by omega⟩,(Below.refl _ _).alloc (Nat.le_refl _) _⟩
 ·go_ret
  exact⟨⟨-1,rfl,by omega,by omega,fun h=>by omega⟩,(Below.refl _ _).alloc (Nat.le_refl _) _⟩
 ·go_ret
  exact⟨⟨_,rfl,by omega,by omega,fun _=>by unfold zbB;omega⟩,(Below.refl _ _).alloc (Nat.le_refl _) _⟩
theorem zql (a:Option Addr) (X:Nat) (l:List Ep) (left:Int) (w:World) (hr:RowAt w a epL 4 l) (hl:l.length≤9223372036854775807) (A: ∀x∈l,zdy x) (h0:0≤left) (h1:left≤1048576):
  Calls Tryz.prog 29 #[.slice a l.length X,.int .i64 left] w fun e w'=>zcD left (l.length+zP zbB l) e∧Below w.heap.size w w':=by
 have HR:=zc hr
 have HG:=zc A
 clear hr A
 by_cases aa:(l.length:Int)≤left
 case neg=>
  go_enter Tryz.func29,Tryz.ntmps29
  go_wp2
  go_ret
  exact⟨⟨-1,rfl,by omega,by omega,fun h=>by omega⟩,Below.refl _ _⟩
 go_enter Tryz.func29,Tryz.ntmps29
 go_wp2
 go_loopg [1,5] l.length (fun k s1 s5 wr=>∃(j:Nat) (z:Int),s5= .int .i64 j∧s1= .int .i64 z∧j+k=l.length∧0≤z∧z≤left∧z+((l.length+zP zbB (l.take j):Nat):Int)=left∧Below w.heap.size w wr)
 case atStart=>exact⟨0,_,rfl,rfl,by omega,by omega,by omega,by simp[zP],Below.refl _ _⟩
 case round=>
  obtain⟨j,z,rfl,rfl,hj,V,Y,H,A⟩:=hrel
  have HZ:=zc H
  have N:=zc A
  clear H A
  by_cases U:j<l.length
  ·have K:(j:Int)<(l.length:Int):=by omega
   obtain⟨x,O⟩: ∃x,l[j]? =some x:=⟨_,List.getElem?_eq_getElem U⟩
   obtain⟨b,ac,rfl,L⟩:=(HR.out.later N.out).get O
   have n:=HG.out x (List.mem_of_getElem? O)
   have HC:=zc (ze9 zbB O)
   have c0:=L 0 _ rfl
   have c1:=L 1 _ rfl
   have c2:=L 2 _ rfl
   have c3:=L 3 _ rfl
   simp only[Nat.add_zero] at c0
   clear L O
   obtain⟨M,q⟩: ∃M,M=j+1:=⟨_,rfl⟩
   have ej:(j:Int)+1=(M:Int):=by omega
   have HJ:=zc q
   clear q
   go_wp2_with fail
   refine (zqk x z _ n V (by omega)).mono ?_
   rintro e w1 ⟨⟨z1,rfl,ad,ab,E⟩,J⟩
   have I:=zc (N.out.trans (J.mono N.out.size))
   have Z:=zc E
   clear J E n c0 c1 c2 c3
   by_cases D:0≤z1
   ·go_wp2
    go_roundg (gk-1)
    case rel=>exact⟨M,z1,rfl,rfl,by have:=HJ.out;omega,D,by omega,by have:=HZ.out;have:=Z.out D;rw[HJ.out,HC.out];omega,I.out⟩
    case measure=>omega
   ·go_wp2
    go_ret
    exact⟨⟨-1,rfl,by omega,by omega,fun h=>by omega⟩,I.out⟩
  ·have K: ¬(j:Int)<(l.length:Int):=by omega
   obtain rfl:j=l.length:=by omega
   go_wp2
   go_ret
   exact⟨⟨z,rfl,by omega,Y,fun _=>by have:=HZ.out;rw[List.take_length] at this;exact this⟩,N.out⟩
def zdz (x:Sm):Prop:=x.name.size≤9223372036854775807
theorem zqm (x:Sm) (left:Int) (w:World) (n:zdz x) (z:0≤left) (q:left≤1048576):
  Calls Tryz.prog 76 #[.agg #[.int .i64 x.kind,.string x.name,.int .i64 x.expr],.int .i64 left] w fun e j=>zcD left (zbX x) e∧Below w.heap.size w j:=by
 unfold zdz at n
 go_enter Tryz.func76,Tryz.ntmps76
 go_wp2
 ·go_ret
  exact⟨⟨-1,rfl,by omega,by omega,fun h=>by omega⟩,(Below.refl _ _).alloc (Nat.le_refl _) _⟩
 ·go_ret
  exact⟨⟨_,rfl,by omega,by omega,fun _=>by unfold zbX;omega⟩,(Below.refl _ _).alloc (Nat.le_refl _) _⟩
theorem zqn (a:Option Addr) (X:Nat) (l:List Sm) (left:Int) (w:World) (hr:RowAt w a smL 3 l) (hl:l.length≤9223372036854775807) (A: ∀x∈l,zdz x) (h0:0≤left) (h1:left≤1048576):
  Calls Tryz.prog 30 #[.slice a l.length X,.int .i64 left] w fun e w'=>zcD left (l.length+zP zbX l) e∧Below w.heap.size w w':=by
 have HR:=zc hr
 have HG:=zc A
 clear hr A
 by_cases aa:(l.length:Int)≤left
 case neg=>
  go_enter Tryz.func30,Tryz.ntmps30
  go_wp2
  go_ret
  exact⟨⟨-1,rfl,by omega,by omega,fun h=>by omega⟩,Below.refl _ _⟩
 go_enter Tryz.func30,Tryz.ntmps30
 go_wp2
 go_loopg [1,5] l.length (fun k s1 s5 wr=>∃(j:Nat) (z:Int),s5= .int .i64 j∧s1= .int .i64 z∧j+k=l.length∧0≤z∧z≤left∧z+((l.length+zP zbX (l.take j):Nat):Int)=left∧Below w.heap.size w wr)
 case atStart=>exact⟨0,_,rfl,rfl,by omega,by omega,by omega,by simp[zP],Below.refl _ _⟩
 case round=>
  obtain⟨j,z,rfl,rfl,hj,V,Y,H,A⟩:=hrel
  have HZ:=zc H
  have M:=zc A
  clear H A
  by_cases U:j<l.length
  ·have K:(j:Int)<(l.length:Int):=by omega
   obtain⟨x,N⟩: ∃x,l[j]? =some x:=⟨_,List.getElem?_eq_getElem U⟩
   obtain⟨b,ac,rfl,O⟩:=(HR.out.later M.out).get N
   have n:=HG.out x (List.mem_of_getElem? N)
   have HC:=zc (ze9 zbX N)
   have c0:=O 0 _ rfl
   have c1:=O 1 _ rfl
   have c2:=O 2 _ rfl
   simp only[Nat.add_zero] at c0
   clear O N
   obtain⟨L,q⟩: ∃L,L=j+1:=⟨_,rfl⟩
   have ej:(j:Int)+1=(L:Int):=by omega
   have HJ:=zc q
   clear q
   go_wp2_with fail
   refine (zqm x z _ n V (by omega)).mono ?_
   rintro e w1 ⟨⟨z1,rfl,ad,ab,E⟩,J⟩
   have I:=zc (M.out.trans (J.mono M.out.size))
   have Z:=zc E
   clear J E n c0 c1 c2
   by_cases D:0≤z1
   ·go_wp2
    go_roundg (gk-1)
    case rel=>exact⟨L,z1,rfl,rfl,by have:=HJ.out;omega,D,by omega,by have:=HZ.out;have:=Z.out D;rw[HJ.out,HC.out];omega,I.out⟩
    case measure=>omega
   ·go_wp2
    go_ret
    exact⟨⟨-1,rfl,by omega,by omega,fun h=>by omega⟩,I.out⟩
  ·have K: ¬(j:Int)<(l.length:Int):=by omega
   obtain rfl:j=l.length:=by omega
   go_wp2
   go_ret
   exact⟨⟨z,rfl,by omega,Y,fun _=>by have:=HZ.out;rw[List.take_length] at this;exact this⟩,M.out⟩
def zd0 (x:Ex):Prop:=x.name.size≤9223372036854775807∧x.field.size≤9223372036854775807
theorem zqo (x:Ex) (left:Int) (w:World) (j:zd0 x) (D:0≤left) (A:left≤1048576):
  Calls Tryz.prog 77 #[.agg #[.int .i64 x.kind,.int .i64 x.num,.string x.name,.string x.field,.int .i64 x.l,.int .i64 x.r],.int .i64 left] w fun e n=>zcD left (zct x) e∧Below w.heap.size w n:=by
 unfold zd0 at j
 obtain⟨z,q⟩:=j
 go_enter Tryz.func77,Tryz.ntmps77
 go_wp2
 ·go_ret
  exact⟨⟨-1,rfl,by omega,by omega,fun h=>by omega⟩,(Below.refl _ _).alloc (Nat.le_refl _) _⟩
 ·go_ret
  exact⟨⟨-1,rfl,by omega,by omega,fun h=>by omega⟩,(Below.refl _ _).alloc (Nat.le_refl _) _⟩
 ·go_ret
  exact⟨⟨_,rfl,by omega,by omega,fun _=>by unfold zct;omega⟩,(Below.refl _ _).alloc (Nat.le_refl _) _⟩
theorem zqp (a:Option Addr) (X:Nat) (l:List Ex) (left:Int) (w:World) (hr:RowAt w a exL 6 l) (hl:l.length≤9223372036854775807) (D: ∀x∈l,zd0 x) (h0:0≤left) (h1:left≤1048576):
  Calls Tryz.prog 31 #[.slice a l.length X,.int .i64 left] w fun e w'=>zcD left (l.length+zP zct l) e∧Below w.heap.size w w':=by
 have HR:=zc hr
 have HG:=zc D
 clear hr D
 by_cases aa:(l.length:Int)≤left
 case neg=>
  go_enter Tryz.func31,Tryz.ntmps31
  go_wp2
  go_ret
  exact⟨⟨-1,rfl,by omega,by omega,fun h=>by omega⟩,Below.refl _ _⟩
 go_enter Tryz.func31,Tryz.ntmps31
 go_wp2
 go_loopg [1,5] l.length (fun k s1 s5 wr=>∃(j:Nat) (z:Int),s5= .int .i64 j∧s1= .int .i64 z∧j+k=l.length∧0≤z∧z≤left∧z+((l.length+zP zct (l.take j):Nat):Int)=left∧Below w.heap.size w wr)
 case atStart=>exact⟨0,_,rfl,rfl,by omega,by omega,by omega,by simp[zP],Below.refl _ _⟩
 case round=>
  obtain⟨j,z,rfl,rfl,hj,V,Y,I,D⟩:=hrel
  have HZ:=zc I
  have N:=zc D
  clear I D
  by_cases U:j<l.length
  ·have L:(j:Int)<(l.length:Int):=by omega
   obtain⟨x,O⟩: ∃x,l[j]? =some x:=⟨_,List.getElem?_eq_getElem U⟩
   obtain⟨b,ac,rfl,q⟩:=(HR.out.later N.out).get O
   have n:=HG.out x (List.mem_of_getElem? O)
   have HC:=zc (ze9 zct O)
   have c0:=q 0 _ rfl
   have c1:=q 1 _ rfl
   have c2:=q 2 _ rfl
   have c3:=q 3 _ rfl
   have c4:=q 4 _ rfl
   have c5:=q 5 _ rfl
   simp only[Nat.add_zero] at c0
   clear q O
   obtain⟨M,A⟩: ∃M,M=j+1:=⟨_,rfl⟩
   have ej:(j:Int)+1=(M:Int):=by omega
   have HJ:=zc A
   clear A
   go_wp2_with fail
   refine (zqo x z _ n V (by omega)).mono ?_
   rintro e w1 ⟨⟨z1,rfl,ad,ab,H⟩,K⟩
   have J:=zc (N.out.trans (K.mono N.out.size))
   have Z:=zc H
   clear K H n c0 c1 c2 c3 c4 c5
   by_cases E:0≤z1
   ·go_wp2
    go_roundg (gk-1)
    case rel=>exact⟨M,z1,rfl,rfl,by have:=HJ.out;omega,E,by omega,by have:=HZ.out;have:=Z.out E;rw[HJ.out,HC.out];omega,J.out⟩
    case measure=>omega
   ·go_wp2
    go_ret
    exact⟨⟨-1,rfl,by omega,by omega,fun h=>by omega⟩,J.out⟩
  ·have L: ¬(j:Int)<(l.length:Int):=by omega
   obtain rfl:j=l.length:=by omega
   go_wp2
   go_ret
   exact⟨⟨z,rfl,by omega,Y,fun _=>by have:=HZ.out;rw[List.take_length] at this;exact this⟩,N.out⟩
structure MA where
 a0:Option Addr
 a1:Option Addr
 a2:Option Addr
 a3:Option Addr
 a4:Option Addr
 c0:Nat
 c1:Nat
 c2:Nat
 c3:Nat
 c4:Nat
def zcX (A:MA) (m:Md):Value:=.agg #[.slice A.a0 m.rq.length A.c0,.slice A.a1 m.im.length A.c1,.slice A.a2 m.ep.length A.c2,.slice A.a3 m.st.length A.c3,.slice A.a4 m.ex.length A.c4]
def ModIn (w:World) (A:MA) (m:Md):Prop:=RowAt w A.a0 (fun x=>[Value.string x]) 1 m.rq∧RowAt w A.a1 imL 3 m.im∧RowAt w A.a2 epL 4 m.ep∧RowAt w A.a3 smL 3 m.st∧RowAt w A.a4 exL 6 m.ex
theorem ModIn.later {w n:World} {A:MA} {m:Md} (h:ModIn w A m) (j:Below w.heap.size w n):ModIn n A m:=⟨h.1.later j,h.2.1.later j,h.2.2.1.later j,h.2.2.2.1.later j,h.2.2.2.2.later j⟩
def zf0 (m:Md):Prop:=(m.rq.length≤9223372036854775807∧∀x∈m.rq,zdX x)∧(m.im.length≤9223372036854775807∧∀x∈m.im,zdx x)∧(m.ep.length≤9223372036854775807∧∀x∈m.ep,zdy x)∧(m.st.length≤9223372036854775807∧∀x∈m.st,zdz x)∧(m.ex.length≤9223372036854775807∧∀x∈m.ex,zd0 x)
theorem zqq (A:MA) (m:Md) (left:Int) (w:World) (hr:ModIn w A m) (j:zf0 m) (h0:0≤left) (h1:left≤1048576):
  Calls Tryz.prog 6 #[zcX A m,.int .i64 left] w fun e w'=>zcD left (zcE m) e∧Below w.heap.size w w':=by
 have HR:=zc hr
 have E:=zc j
 clear hr j
 unfold zcX
 go_enter Tryz.func6,Tryz.ntmps6
 go_upto_region 1 with fail
 have Z:Hid (Below w.heap.size w (w.alloc (.cells #[.slice A.a0 m.rq.length A.c0,.slice A.a1 m.im.length A.c1,.slice A.a2 m.ep.length A.c2,.slice A.a3 m.st.length A.c3,.slice A.a4 m.ex.length A.c4] 28))):=(Below.refl _ _).alloc (Nat.le_refl _) _
 refine zac (R:=fun W=>W.heap[w.heap.size]? =some (.cells #[.slice A.a0 m.rq.length A.c0,.slice A.a1 m.im.length A.c1,.slice A.a2 m.ep.length A.c2,.slice A.a3 m.st.length A.c3,.slice A.a4 m.ex.length A.c4] 28 (0,0))∧ModIn W A m∧Below w.heap.size w W) ⟨heap_alloc_new w _,HR.out.later Z.out,Z.out⟩ ?_
 obtain⟨gx,J⟩: ∃gx,gx=w.heap.size:=⟨_,rfl⟩
 rw[←J]
 rintro w0 ⟨hx,hm,j⟩
 rw[J] at j
 clear J Z HR
 have X0:=zc hx
 have M0:=zc hm
 have O:=zc j
 clear hx hm j
 obtain⟨I,q,n,D,H,z⟩:=zi X0.out
 go_wp2_with fail
 refine (zqh A.a0 A.c0 m.rq left w0 M0.out.1 E.out.1.1 E.out.1.2 (by omega) (by omega)).mono ?_
 rintro e w1 ⟨⟨z0,rfl,y0,u0,v0⟩,j⟩
 have M:=zc (O.out.trans (j.mono O.out.size))
 have M1:=zc (M0.out.later j)
 have X:=zc ((j.block _ (Array.getElem?_eq_some_iff.1 X0.out).1).trans X0.out)
 have V0:=zc v0
 clear j v0 I q n D H z
 obtain⟨I,q,n,D,H,z⟩:=zi X.out
 by_cases t0:0≤z0
 case neg=>
  go_wp2
  go_ret
  exact⟨⟨-1,rfl,by omega,by omega,fun h=>by omega⟩,M.out⟩
 go_wp2_with fail
 refine (zqj A.a1 A.c1 m.im z0 w1 M1.out.2.1 E.out.2.1.1 E.out.2.1.2 (by omega) (by omega)).mono ?_
 rintro e w2 ⟨⟨z1,rfl,y1,u1,v1⟩,j⟩
 have K:=zc (M.out.trans (j.mono M.out.size))
 have M2:=zc (M1.out.later j)
 have Y:=zc ((j.block _ (Array.getElem?_eq_some_iff.1 X.out).1).trans X.out)
 have V1:=zc v1
 clear j v1 I q n D H z
 obtain⟨I,q,n,D,H,z⟩:=zi Y.out
 by_cases t1:0≤z1
 case neg=>
  go_wp2
  go_ret
  exact⟨⟨-1,rfl,by omega,by omega,fun h=>by omega⟩,K.out⟩
 go_wp2_with fail
 refine (zql A.a2 A.c2 m.ep z1 w2 M2.out.2.2.1 E.out.2.2.1.1 E.out.2.2.1.2 (by omega) (by omega)).mono ?_
 rintro e w3 ⟨⟨z2,rfl,y2,u2,v2⟩,j⟩
 have L:=zc (K.out.trans (j.mono K.out.size))
 have M3:=zc (M2.out.later j)
 have X3:=zc ((j.block _ (Array.getElem?_eq_some_iff.1 Y.out).1).trans Y.out)
 have V2:=zc v2
 clear j v2 I q n D H z
 obtain⟨I,q,n,D,H,z⟩:=zi X3.out
 by_cases t2:0≤z2
 case neg=>
  go_wp2
  go_ret
  exact⟨⟨-1,rfl,by omega,by omega,fun h=>by omega⟩,L.out⟩
 go_wp2_with fail
 refine (zqn A.a3 A.c3 m.st z2 w3 M3.out.2.2.2.1 E.out.2.2.2.1.1 E.out.2.2.2.1.2 (by omega) (by omega)).mono ?_
 rintro e w4 ⟨⟨z3,rfl,y3,u3,v3⟩,j⟩
 have N:=zc (L.out.trans (j.mono L.out.size))
 have M4:=zc (M3.out.later j)
 have V:=zc ((j.block _ (Array.getElem?_eq_some_iff.1 X3.out).1).trans X3.out)
 have V3:=zc v3
 clear j v3 I q n D H z
 obtain⟨I,q,n,D,H,z⟩:=zi V.out
 by_cases t3:0≤z3
 case neg=>
  go_wp2
  go_ret
  exact⟨⟨-1,rfl,by omega,by omega,fun h=>by omega⟩,N.out⟩
 go_wp2_with fail
 refine (zqp A.a4 A.c4 m.ex z3 w4 M4.out.2.2.2.2 E.out.2.2.2.2.1 E.out.2.2.2.2.2 (by omega) (by omega)).mono ?_
 rintro e w5 ⟨⟨z4,rfl,y4,u4,v4⟩,j⟩
 have U:=zc (N.out.trans (j.mono N.out.size))
 have M5:=zc (M4.out.later j)
 have X5:=zc ((j.block _ (Array.getElem?_eq_some_iff.1 V.out).1).trans V.out)
 have V4:=zc v4
 clear j v4 I q n D H z
 obtain⟨I,q,n,D,H,z⟩:=zi X5.out
 by_cases t4:0≤z4
 case neg=>
  go_wp2
  go_ret
  exact⟨⟨-1,rfl,by omega,by omega,fun h=>by omega⟩,U.out⟩
 go_wp2
 go_ret
 exact⟨⟨z4,rfl,by omega,by omega,fun _=>by have q0:=V0.out t0;have q1:=V1.out t1;have q2:=V2.out t2;have q3:=V3.out t3;have q4:=V4.out t4;unfold zcE;omega⟩,U.out⟩
theorem Tryz.infoTStr:(Tryz.prog.info? 9).map (fun i=>(i.zero,i.size,i.bytes))=some (some (.string {data:=#[]}),1,16):=by kernel_rfl
theorem zqr (a:Option Addr) (O:Nat) (l:List ByteArray) (w:World) (hr:RowAt w a (fun x=>[Value.string x]) 1 l) (hl:l.length≤1048576):
  Calls Tryz.prog 35 #[.slice a l.length O] w fun e w'=>ze8 w 9 1 l.length (l.flatMap (fun x=>[Value.string x])) e w':=by
 have HR:=zc hr
 clear hr
 obtain⟨i0,hi,M,U,V⟩:=info_parts Tryz.infoTStr
 go_enter Tryz.func35,Tryz.ntmps35
 go_wp2_with (first|(at_make;refine wpList_make_full w rfl _ _ 22 rfl w.heap.size 9 i0 _ 1 Tryz.underlying22 hi M U .i64 .i64 _ _ l.length (by rfl) (by rfl) rfl rfl (by rw[V];omega) (by unfold maxLen;omega) (Nat.le_refl _) ?_))
 intro K n q
 have Y:=zc ((Below.refl _ _).grown q (Nat.le_refl _) (fun k h=>by cases h):Below w.heap.size w K)
 have z:Hid (OwnC K w.heap.size 9 1 w.heap.size l.length (l.flatMap (fun x=>[Value.string x])) 0):=⟨_,n,fun j hj=>absurd hj (Nat.not_lt_zero j)⟩
 clear n q
 obtain⟨g,D⟩: ∃g,g=w.heap.size:=⟨_,rfl⟩
 have X:=zc D
 rw[←D]
 rw[←D] at z
 have Z:Hid (OwnC K w.heap.size 9 1 g l.length (l.flatMap (fun x=>[Value.string x])) 0):=by rw[←D];exact z.out
 clear D z
 go_wp2
 go_loopg [4] l.length (fun k i wr=>∃j:Nat,i= .int .i64 j∧j+k=l.length∧OwnC wr w.heap.size 9 1 g l.length (l.flatMap (fun x=>[Value.string x])) (j*1)∧Below w.heap.size w wr)
 case atStart=>exact⟨0,rfl,by omega,Z.out,Y.out⟩
 case round=>
  obtain⟨j,rfl,hj,ho,hb⟩:=hrel
  have I:=zc ho
  have N:=zc hb
  clear ho hb
  by_cases L:j<l.length
  ·have E:(j:Int)<(l.length:Int):=by omega
   obtain⟨x,hx⟩: ∃x,l[j]? =some x:=⟨_,List.getElem?_eq_getElem L⟩
   obtain⟨b,aa,rfl,hc⟩:=(HR.out.later N.out).get hx
   have HX:=zc hx
   clear hx
   have c0:=hc 0 _ rfl
   simp only[Nat.add_zero,Nat.mul_one] at c0
   clear hc
   obtain⟨H,A⟩: ∃H,H=j+1:=⟨_,rfl⟩
   have ej:(j:Int)+1=(H:Int):=by omega
   have HJ:=zc A
   clear A
   obtain⟨v0,g0⟩:=I.out.has (j*1) (by omega)
   have f0:=I.out.free (j*1)
   have HN:=zc (I.out.put (by omega) (zbu (f:=(fun x=>[Value.string x])) (m:=1) (fun _=>rfl) l j x 0 _ HX.out rfl))
   simp only[Nat.mul_one] at g0 f0
   have J:w.heap.size≤g:=by have:=X.out;omega
   go_wp2
   go_roundg (gk-1)
   case rel=>exact⟨H,rfl,by have:=HJ.out;omega,by have:=HN.out;simp only[Nat.mul_one] at this;rw[HJ.out,Nat.mul_one];exact this,(N.out.setCell J _)⟩
   case measure=>omega
  ·have E: ¬(j:Int)<(l.length:Int):=by omega
   obtain rfl:j=l.length:=by omega
   go_wp2
   go_ret
   exact⟨g,rfl,I.out.all (ze7 (f:=(fun x=>[Value.string x])) (fun _=>rfl) l),N.out⟩
theorem Tryz.infoTIm:(Tryz.prog.info? 84).map (fun i=>(i.zero,i.size,i.bytes))=some (some (.agg #[.string {data:=#[]},.string {data:=#[]},.string {data:=#[]}]),3,48):=by kernel_rfl
theorem zqs (x:Im) (w:World):
  Calls Tryz.prog 85 #[.agg #[.string x.spec,.string x.first,.string x.loc]] w fun e h=>e= .returned (.agg #[.string x.spec,.string x.first,.string x.loc])∧Below w.heap.size w h:=by
 go_enter Tryz.func85,Tryz.ntmps85
 go_wp2
 refine bodyPost_ret (results_cell_row rfl _ _ (w.heap.size+1) 84 #[.string x.spec,.string x.first,.string x.loc] (0,0) _ rfl ?_ Tryz.underlying84 rfl (by kernel_rfl)) rfl ?_
 ·rw[heap_alloc_old _ _ (by show _<((w.heap.push _).push _).size;simp)]
  exact heap_alloc2_new w _ _
 ·exact⟨rfl,(((Below.refl _ _).alloc (Nat.le_refl _) _).alloc (by show _≤(w.heap.push _).size;simp) _).alloc (by show _≤((w.heap.push _).push _).size;simp;omega) _⟩
theorem zqt (a:Option Addr) (V:Nat) (l:List Im) (w:World) (hr:RowAt w a imL 3 l) (hl:l.length≤1048576):
  Calls Tryz.prog 36 #[.slice a l.length V] w fun e w'=>ze8 w 84 3 l.length (l.flatMap imL) e w':=by
 have HR:=zc hr
 clear hr
 obtain⟨i0,hi,U,X,Y⟩:=info_parts Tryz.infoTIm
 go_enter Tryz.func36,Tryz.ntmps36
 go_wp2_with (first|(at_make;refine wpList_make_full w rfl _ _ 31 rfl w.heap.size 84 i0 _ 3 Tryz.underlying31 hi U X .i64 .i64 _ _ l.length (by rfl) (by rfl) rfl rfl (by rw[Y];omega) (by unfold maxLen;omega) (Nat.le_refl _) ?_))
 intro N q z
 have aa:=zc ((Below.refl _ _).grown z (Nat.le_refl _) (fun k h=>by cases h):Below w.heap.size w N)
 have D:Hid (OwnC N w.heap.size 84 3 w.heap.size l.length (l.flatMap imL) 0):=⟨_,q,fun j hj=>absurd hj (Nat.not_lt_zero j)⟩
 clear q z
 obtain⟨g,I⟩: ∃g,g=w.heap.size:=⟨_,rfl⟩
 have Z:=zc I
 rw[←I]
 rw[←I] at D
 have ab:Hid (OwnC N w.heap.size 84 3 g l.length (l.flatMap imL) 0):=by rw[←I];exact D.out
 clear I D
 go_wp2
 go_loopg [4] l.length (fun k i wr=>∃j:Nat,i= .int .i64 j∧j+k=l.length∧OwnC wr w.heap.size 84 3 g l.length (l.flatMap imL) (j*3)∧Below w.heap.size w wr)
 case atStart=>exact⟨0,rfl,by omega,ab.out,aa.out⟩
 case round=>
  obtain⟨j,rfl,hj,ho,hb⟩:=hrel
  have HO:=zc ho
  have L:=zc hb
  clear ho hb
  by_cases O:j<l.length
  ·have J:(j:Int)<(l.length:Int):=by omega
   obtain⟨x,hx⟩: ∃x,l[j]? =some x:=⟨_,List.getElem?_eq_getElem O⟩
   obtain⟨b,ad,rfl,M⟩:=(HR.out.later L.out).get hx
   have HX:=zc hx
   clear hx
   have c0:=M 0 _ rfl
   have c1:=M 1 _ rfl
   have c2:=M 2 _ rfl
   simp only[Nat.add_zero] at c0
   clear M
   obtain⟨K,H⟩: ∃K,K=j+1:=⟨_,rfl⟩
   have ej:(j:Int)+1=(K:Int):=by omega
   have HJ:=zc H
   clear H
   go_wp2_with fail
   refine (zqs x _).mono ?_
   rintro e w2 ⟨rfl,E⟩
   have n:=zc (HO.out.later E)
   have ac:=zc (L.out.trans (E.mono L.out.size))
   clear E c0 c1 c2
   obtain⟨v0,g0⟩:=n.out.has (j*3) (by omega)
   have f0:=n.out.free (j*3)
   obtain⟨v1,g1⟩:=n.out.has (j*3+1) (by omega)
   have f1:=n.out.free (j*3+1)
   obtain⟨v2,g2⟩:=n.out.has (j*3+2) (by omega)
   have f2:=n.out.free (j*3+2)
   have HN:=zc (((n.out.put (by omega) (zbu (f:=imL) (m:=3) (fun _=>rfl) l j x 0 _ HX.out rfl)).put (by omega) (zbu (f:=imL) (m:=3) (fun _=>rfl) l j x 1 _ HX.out rfl)).put (by omega) (zbu (f:=imL) (m:=3) (fun _=>rfl) l j x 2 _ HX.out rfl))
   have A:w.heap.size≤g:=by have:=Z.out;omega
   go_wp2
   go_roundg (gk-1)
   case rel=>exact⟨K,rfl,by have:=HJ.out;omega,by rw[HJ.out,Nat.succ_mul];exact HN.out,(((ac.out.setCell A _).setCell A _).setCell A _)⟩
   case measure=>omega
  ·have J: ¬(j:Int)<(l.length:Int):=by omega
   obtain rfl:j=l.length:=by omega
   go_wp2
   go_ret
   exact⟨g,rfl,HO.out.all (ze7 (f:=imL) (fun _=>rfl) l),L.out⟩
theorem Tryz.infoTEp:(Tryz.prog.info? 86).map (fun i=>(i.zero,i.size,i.bytes))=some (some (.agg #[.int .i64 0,.string {data:=#[]},.string {data:=#[]},.string {data:=#[]}]),4,56):=by kernel_rfl
theorem zqu (x:Ep) (w:World):
  Calls Tryz.prog 86 #[.agg #[.int .i64 x.kind,.string x.name,.string x.loc,.string x.spec]] w fun e h=>e= .returned (.agg #[.int .i64 x.kind,.string x.name,.string x.loc,.string x.spec])∧Below w.heap.size w h:=by
 go_enter Tryz.func86,Tryz.ntmps86
 go_wp2
 refine bodyPost_ret (results_cell_row rfl _ _ (w.heap.size+1) 86 #[.int .i64 x.kind,.string x.name,.string x.loc,.string x.spec] (0,0) _ rfl ?_ Tryz.underlying86 rfl (by kernel_rfl)) rfl ?_
 ·rw[heap_alloc_old _ _ (by show _<((w.heap.push _).push _).size;simp)]
  exact heap_alloc2_new w _ _
 ·exact⟨rfl,(((Below.refl _ _).alloc (Nat.le_refl _) _).alloc (by show _≤(w.heap.push _).size;simp) _).alloc (by show _≤((w.heap.push _).push _).size;simp;omega) _⟩
theorem zqv (a:Option Addr) (X:Nat) (l:List Ep) (w:World) (hr:RowAt w a epL 4 l) (hl:l.length≤1048576):
  Calls Tryz.prog 37 #[.slice a l.length X] w fun e w'=>ze8 w 86 4 l.length (l.flatMap epL) e w':=by
 have HR:=zc hr
 clear hr
 obtain⟨i0,hi,V,Y,Z⟩:=info_parts Tryz.infoTEp
 go_enter Tryz.func37,Tryz.ntmps37
 go_wp2_with (first|(at_make;refine wpList_make_full w rfl _ _ 32 rfl w.heap.size 86 i0 _ 4 Tryz.underlying32 hi V Y .i64 .i64 _ _ l.length (by rfl) (by rfl) rfl rfl (by rw[Z];omega) (by unfold maxLen;omega) (Nat.le_refl _) ?_))
 intro O q A
 have ab:=zc ((Below.refl _ _).grown A (Nat.le_refl _) (fun k h=>by cases h):Below w.heap.size w O)
 have D:Hid (OwnC O w.heap.size 86 4 w.heap.size l.length (l.flatMap epL) 0):=⟨_,q,fun j hj=>absurd hj (Nat.not_lt_zero j)⟩
 clear q A
 obtain⟨g,I⟩: ∃g,g=w.heap.size:=⟨_,rfl⟩
 have aa:=zc I
 rw[←I]
 rw[←I] at D
 have ac:Hid (OwnC O w.heap.size 86 4 g l.length (l.flatMap epL) 0):=by rw[←I];exact D.out
 clear I D
 go_wp2
 go_loopg [4] l.length (fun k i wr=>∃j:Nat,i= .int .i64 j∧j+k=l.length∧OwnC wr w.heap.size 86 4 g l.length (l.flatMap epL) (j*4)∧Below w.heap.size w wr)
 case atStart=>exact⟨0,rfl,by omega,ac.out,ab.out⟩
 case round=>
  obtain⟨j,rfl,hj,ho,hb⟩:=hrel
  have HO:=zc ho
  have M:=zc hb
  clear ho hb
  by_cases U:j<l.length
  ·have J:(j:Int)<(l.length:Int):=by omega
   obtain⟨x,hx⟩: ∃x,l[j]? =some x:=⟨_,List.getElem?_eq_getElem U⟩
   obtain⟨b,ae,rfl,K⟩:=(HR.out.later M.out).get hx
   have N:=zc hx
   clear hx
   have c0:=K 0 _ rfl
   have c1:=K 1 _ rfl
   have c2:=K 2 _ rfl
   have c3:=K 3 _ rfl
   simp only[Nat.add_zero] at c0
   clear K
   obtain⟨L,H⟩: ∃L,L=j+1:=⟨_,rfl⟩
   have ej:(j:Int)+1=(L:Int):=by omega
   have HJ:=zc H
   clear H
   go_wp2_with fail
   refine (zqu x _).mono ?_
   rintro e w2 ⟨rfl,E⟩
   have n:=zc (HO.out.later E)
   have ad:=zc (M.out.trans (E.mono M.out.size))
   clear E c0 c1 c2 c3
   obtain⟨v0,g0⟩:=n.out.has (j*4) (by omega)
   have f0:=n.out.free (j*4)
   obtain⟨v1,g1⟩:=n.out.has (j*4+1) (by omega)
   have f1:=n.out.free (j*4+1)
   obtain⟨v2,g2⟩:=n.out.has (j*4+2) (by omega)
   have f2:=n.out.free (j*4+2)
   obtain⟨v3,g3⟩:=n.out.has (j*4+3) (by omega)
   have f3:=n.out.free (j*4+3)
   have HN:=zc ((((n.out.put (by omega) (zbu (f:=epL) (m:=4) (fun _=>rfl) l j x 0 _ N.out rfl)).put (by omega) (zbu (f:=epL) (m:=4) (fun _=>rfl) l j x 1 _ N.out rfl)).put (by omega) (zbu (f:=epL) (m:=4) (fun _=>rfl) l j x 2 _ N.out rfl)).put (by omega) (zbu (f:=epL) (m:=4) (fun _=>rfl) l j x 3 _ N.out rfl))
   have z:w.heap.size≤g:=by have:=aa.out;omega
   go_wp2
   go_roundg (gk-1)
   case rel=>exact⟨L,rfl,by have:=HJ.out;omega,by rw[HJ.out,Nat.succ_mul];exact HN.out,((((ad.out.setCell z _).setCell z _).setCell z _).setCell z _)⟩
   case measure=>omega
  ·have J: ¬(j:Int)<(l.length:Int):=by omega
   obtain rfl:j=l.length:=by omega
   go_wp2
   go_ret
   exact⟨g,rfl,HO.out.all (ze7 (f:=epL) (fun _=>rfl) l),M.out⟩
theorem Tryz.infoTSm:(Tryz.prog.info? 107).map (fun i=>(i.zero,i.size,i.bytes))=some (some (.agg #[.int .i64 0,.string {data:=#[]},.int .i64 0]),3,32):=by kernel_rfl
theorem zqw (x:Sm) (w:World):
  Calls Tryz.prog 87 #[.agg #[.int .i64 x.kind,.string x.name,.int .i64 x.expr]] w fun e h=>e= .returned (.agg #[.int .i64 x.kind,.string x.name,.int .i64 x.expr])∧Below w.heap.size w h:=by
 go_enter Tryz.func87,Tryz.ntmps87
 go_wp2
 refine bodyPost_ret (results_cell_row rfl _ _ (w.heap.size+1) 107 #[.int .i64 x.kind,.string x.name,.int .i64 x.expr] (0,0) _ rfl ?_ Tryz.underlying107 rfl (by kernel_rfl)) rfl ?_
 ·rw[heap_alloc_old _ _ (by show _<((w.heap.push _).push _).size;simp)]
  exact heap_alloc2_new w _ _
 ·exact⟨rfl,(((Below.refl _ _).alloc (Nat.le_refl _) _).alloc (by show _≤(w.heap.push _).size;simp) _).alloc (by show _≤((w.heap.push _).push _).size;simp;omega) _⟩
theorem zqx (a:Option Addr) (V:Nat) (l:List Sm) (w:World) (hr:RowAt w a smL 3 l) (hl:l.length≤1048576):
  Calls Tryz.prog 38 #[.slice a l.length V] w fun e w'=>ze8 w 107 3 l.length (l.flatMap smL) e w':=by
 have HR:=zc hr
 clear hr
 obtain⟨i0,hi,U,X,Y⟩:=info_parts Tryz.infoTSm
 go_enter Tryz.func38,Tryz.ntmps38
 go_wp2_with (first|(at_make;refine wpList_make_full w rfl _ _ 33 rfl w.heap.size 107 i0 _ 3 Tryz.underlying33 hi U X .i64 .i64 _ _ l.length (by rfl) (by rfl) rfl rfl (by rw[Y];omega) (by unfold maxLen;omega) (Nat.le_refl _) ?_))
 intro N q z
 have aa:=zc ((Below.refl _ _).grown z (Nat.le_refl _) (fun k h=>by cases h):Below w.heap.size w N)
 have D:Hid (OwnC N w.heap.size 107 3 w.heap.size l.length (l.flatMap smL) 0):=⟨_,q,fun j hj=>absurd hj (Nat.not_lt_zero j)⟩
 clear q z
 obtain⟨g,I⟩: ∃g,g=w.heap.size:=⟨_,rfl⟩
 have Z:=zc I
 rw[←I]
 rw[←I] at D
 have ab:Hid (OwnC N w.heap.size 107 3 g l.length (l.flatMap smL) 0):=by rw[←I];exact D.out
 clear I D
 go_wp2
 go_loopg [4] l.length (fun k i wr=>∃j:Nat,i= .int .i64 j∧j+k=l.length∧OwnC wr w.heap.size 107 3 g l.length (l.flatMap smL) (j*3)∧Below w.heap.size w wr)
 case atStart=>exact⟨0,rfl,by omega,ab.out,aa.out⟩
 case round=>
  obtain⟨j,rfl,hj,ho,hb⟩:=hrel
  have HO:=zc ho
  have L:=zc hb
  clear ho hb
  by_cases O:j<l.length
  ·have J:(j:Int)<(l.length:Int):=by omega
   obtain⟨x,hx⟩: ∃x,l[j]? =some x:=⟨_,List.getElem?_eq_getElem O⟩
   obtain⟨b,ad,rfl,M⟩:=(HR.out.later L.out).get hx
   have HX:=zc hx
   clear hx
   have c0:=M 0 _ rfl
   have c1:=M 1 _ rfl
   have c2:=M 2 _ rfl
   simp only[Nat.add_zero] at c0
   clear M
   obtain⟨K,H⟩: ∃K,K=j+1:=⟨_,rfl⟩
   have ej:(j:Int)+1=(K:Int):=by omega
   have HJ:=zc H
   clear H
   go_wp2_with fail
   refine (zqw x _).mono ?_
   rintro e w2 ⟨rfl,E⟩
   have n:=zc (HO.out.later E)
   have ac:=zc (L.out.trans (E.mono L.out.size))
   clear E c0 c1 c2
   obtain⟨v0,g0⟩:=n.out.has (j*3) (by omega)
   have f0:=n.out.free (j*3)
   obtain⟨v1,g1⟩:=n.out.has (j*3+1) (by omega)
   have f1:=n.out.free (j*3+1)
   obtain⟨v2,g2⟩:=n.out.has (j*3+2) (by omega)
   have f2:=n.out.free (j*3+2)
   have HN:=zc (((n.out.put (by omega) (zbu (f:=smL) (m:=3) (fun _=>rfl) l j x 0 _ HX.out rfl)).put (by omega) (zbu (f:=smL) (m:=3) (fun _=>rfl) l j x 1 _ HX.out rfl)).put (by omega) (zbu (f:=smL) (m:=3) (fun _=>rfl) l j x 2 _ HX.out rfl))
   have A:w.heap.size≤g:=by have:=Z.out;omega
   go_wp2
   go_roundg (gk-1)
   case rel=>exact⟨K,rfl,by have:=HJ.out;omega,by rw[HJ.out,Nat.succ_mul];exact HN.out,(((ac.out.setCell A _).setCell A _).setCell A _)⟩
   case measure=>omega
  ·have J: ¬(j:Int)<(l.length:Int):=by omega
   obtain rfl:j=l.length:=by omega
   go_wp2
   go_ret
   exact⟨g,rfl,HO.out.all (ze7 (f:=smL) (fun _=>rfl) l),L.out⟩
theorem Tryz.infoTEx:(Tryz.prog.info? 109).map (fun i=>(i.zero,i.size,i.bytes))=some (some (.agg #[.int .i64 0,.int .i64 0,.string {data:=#[]},.string {data:=#[]},.int .i64 0,.int .i64 0]),6,64):=by kernel_rfl
theorem zqy (x:Ex) (w:World):
  Calls Tryz.prog 88 #[.agg #[.int .i64 x.kind,.int .i64 x.num,.string x.name,.string x.field,.int .i64 x.l,.int .i64 x.r]] w fun e h=>e= .returned (.agg #[.int .i64 x.kind,.int .i64 x.num,.string x.name,.string x.field,.int .i64 x.l,.int .i64 x.r])∧Below w.heap.size w h:=by
 go_enter Tryz.func88,Tryz.ntmps88
 go_wp2
 refine bodyPost_ret (results_cell_row rfl _ _ (w.heap.size+1) 109 #[.int .i64 x.kind,.int .i64 x.num,.string x.name,.string x.field,.int .i64 x.l,.int .i64 x.r] (0,0) _ rfl ?_ Tryz.underlying109 rfl (by kernel_rfl)) rfl ?_
 ·rw[heap_alloc_old _ _ (by show _<((w.heap.push _).push _).size;simp)]
  exact heap_alloc2_new w _ _
 ·exact⟨rfl,(((Below.refl _ _).alloc (Nat.le_refl _) _).alloc (by show _≤(w.heap.push _).size;simp) _).alloc (by show _≤((w.heap.push _).push _).size;simp;omega) _⟩
theorem zqz (a:Option Addr) (X:Nat) (l:List Ex) (w:World) (hr:RowAt w a exL 6 l) (hl:l.length≤1048576):
  Calls Tryz.prog 39 #[.slice a l.length X] w fun e w'=>ze8 w 109 6 l.length (l.flatMap exL) e w':=by
 have HR:=zc hr
 clear hr
 obtain⟨i0,hi,V,Y,Z⟩:=info_parts Tryz.infoTEx
 go_enter Tryz.func39,Tryz.ntmps39
 go_wp2_with (first|(at_make;refine wpList_make_full w rfl _ _ 34 rfl w.heap.size 109 i0 _ 6 Tryz.underlying34 hi V Y .i64 .i64 _ _ l.length (by rfl) (by rfl) rfl rfl (by rw[Z];omega) (by unfold maxLen;omega) (Nat.le_refl _) ?_))
 intro O z A
 have ab:=zc ((Below.refl _ _).grown A (Nat.le_refl _) (fun k h=>by cases h):Below w.heap.size w O)
 have D:Hid (OwnC O w.heap.size 109 6 w.heap.size l.length (l.flatMap exL) 0):=⟨_,z,fun j hj=>absurd hj (Nat.not_lt_zero j)⟩
 clear z A
 obtain⟨g,K⟩: ∃g,g=w.heap.size:=⟨_,rfl⟩
 have aa:=zc K
 rw[←K]
 rw[←K] at D
 have ac:Hid (OwnC O w.heap.size 109 6 g l.length (l.flatMap exL) 0):=by rw[←K];exact D.out
 clear K D
 go_wp2
 go_loopg [4] l.length (fun k i wr=>∃j:Nat,i= .int .i64 j∧j+k=l.length∧OwnC wr w.heap.size 109 6 g l.length (l.flatMap exL) (j*6)∧Below w.heap.size w wr)
 case atStart=>exact⟨0,rfl,by omega,ac.out,ab.out⟩
 case round=>
  obtain⟨j,rfl,hj,ho,hb⟩:=hrel
  have HO:=zc ho
  have N:=zc hb
  clear ho hb
  by_cases U:j<l.length
  ·have L:(j:Int)<(l.length:Int):=by omega
   obtain⟨x,hx⟩: ∃x,l[j]? =some x:=⟨_,List.getElem?_eq_getElem U⟩
   obtain⟨b,ae,rfl,H⟩:=(HR.out.later N.out).get hx
   have I:=zc hx
   clear hx
   have c0:=H 0 _ rfl
   have c1:=H 1 _ rfl
   have c2:=H 2 _ rfl
   have c3:=H 3 _ rfl
   have c4:=H 4 _ rfl
   have c5:=H 5 _ rfl
   simp only[Nat.add_zero] at c0
   clear H
   obtain⟨M,J⟩: ∃M,M=j+1:=⟨_,rfl⟩
   have ej:(j:Int)+1=(M:Int):=by omega
   have HJ:=zc J
   clear J
   go_wp2_with fail
   refine (zqy x _).mono ?_
   rintro e w2 ⟨rfl,E⟩
   have n:=zc (HO.out.later E)
   have ad:=zc (N.out.trans (E.mono N.out.size))
   clear E c0 c1 c2 c3 c4 c5
   obtain⟨v0,g0⟩:=n.out.has (j*6) (by omega)
   have f0:=n.out.free (j*6)
   obtain⟨v1,g1⟩:=n.out.has (j*6+1) (by omega)
   have f1:=n.out.free (j*6+1)
   obtain⟨v2,g2⟩:=n.out.has (j*6+2) (by omega)
   have f2:=n.out.free (j*6+2)
   obtain⟨v3,g3⟩:=n.out.has (j*6+3) (by omega)
   have f3:=n.out.free (j*6+3)
   obtain⟨v4,g4⟩:=n.out.has (j*6+4) (by omega)
   have f4:=n.out.free (j*6+4)
   obtain⟨v5,g5⟩:=n.out.has (j*6+5) (by omega)
   have f5:=n.out.free (j*6+5)
   have HN:=zc ((((((n.out.put (by omega) (zbu (f:=exL) (m:=6) (fun _=>rfl) l j x 0 _ I.out rfl)).put (by omega) (zbu (f:=exL) (m:=6) (fun _=>rfl) l j x 1 _ I.out rfl)).put (by omega) (zbu (f:=exL) (m:=6) (fun _=>rfl) l j x 2 _ I.out rfl)).put (by omega) (zbu (f:=exL) (m:=6) (fun _=>rfl) l j x 3 _ I.out rfl)).put (by omega) (zbu (f:=exL) (m:=6) (fun _=>rfl) l j x 4 _ I.out rfl)).put (by omega) (zbu (f:=exL) (m:=6) (fun _=>rfl) l j x 5 _ I.out rfl))
   have q:w.heap.size≤g:=by have:=aa.out;omega
   go_wp2
   go_roundg (gk-1)
   case rel=>exact⟨M,rfl,by have:=HJ.out;omega,by rw[HJ.out,Nat.succ_mul];exact HN.out,((((((ad.out.setCell q _).setCell q _).setCell q _).setCell q _).setCell q _).setCell q _)⟩
   case measure=>omega
  ·have L: ¬(j:Int)<(l.length:Int):=by omega
   obtain rfl:j=l.length:=by omega
   go_wp2
   go_ret
   exact⟨g,rfl,HO.out.all (ze7 (f:=exL) (fun _=>rfl) l),N.out⟩
theorem zq0 (l:List ByteArray):l.map Value.string=l.flatMap (fun x=>[Value.string x]):=by
 induction l with
 |nil=>rfl
 |cons x l h=>rw[List.map_cons,List.flatMap_cons,h];rfl
def zq1 (w:World) (m:Md) (e:Ending) (w':World):Prop:=∃S,e= .returned (zq S m)∧OwnMd w' w.heap.size S m∧Below w.heap.size w w'
theorem zaY {w:World} {j size n c i:Nat} {e:TypeId} {r:Rw} {xs:List Value} {u:Value} {E:Array Value} (h:OwnR w j e size r n xs) (H:w.heap[c]? =some (.cells E 36 (0,0))) (D:e≠36):OwnR (w.setCell ⟨c,i,none⟩ u) j e size r n xs:=
 h.keep fun k g=>heap_setCell_other w ⟨c,i,none⟩ k u fun z=>by
  obtain⟨_,_,A,q⟩:=h.typed g
  simp only at z
  rw[z,H] at q
  simp only[Option.some.injEq,Obj.cells.injEq] at q
  exact D q.2.1.symm
abbrev zq2 (w:World) (b:Nat) (x0 x1 x2 x3 x4:Value):World:=((((w.setCell ⟨b,0,none⟩ x0).setCell ⟨b,1,none⟩ x1).setCell ⟨b,2,none⟩ x2).setCell ⟨b,3,none⟩ x3).setCell ⟨b,4,none⟩ x4
theorem zeA {w:World} {j size n c:Nat} {e:TypeId} {r:Rw} {xs:List Value} {v0 v1 v2 v3 v4 z I K H L:Value} (h:OwnR w j e size r n xs) (J:w.heap[c]? =some (.cells #[v0,v1,v2,v3,v4] 36 (0,0))) (q:e≠36):OwnR (zq2 w c z I K H L) j e size r n xs:=by
 have E:=zag (i:=0) (u:=z) J
 have D:=zag (i:=1) (u:=I) E
 have A:=zag (i:=2) (u:=K) D
 have M:=zag (i:=3) (u:=H) A
 exact zaY (zaY (zaY (zaY (zaY h J q) E q) D q) A q) M q
theorem zg2 (A:MA) (m:Md) (w:World) (hr:ModIn w A m) (f1:m.rq.length≤1048576) (f2:m.im.length≤1048576) (f3:m.ep.length≤1048576) (f4:m.st.length≤1048576) (f5:m.ex.length≤1048576):
  Calls Tryz.prog 8 #[zcX A m] w fun e w'=>zq1 w m e w':=by
 have HR:=zc hr
 clear hr
 unfold zcX
 go_enter Tryz.func8,Tryz.ntmps8
 go_upto_region 2 with fail
 obtain⟨n,ab⟩: ∃n,n=w.heap.size:=⟨_,rfl⟩
 rw[←ab]
 refine zac (R:=(fun W=>W.heap[n]? =some (.cells #[.slice A.a0 m.rq.length A.c0,.slice A.a1 m.im.length A.c1,.slice A.a2 m.ep.length A.c2,.slice A.a3 m.st.length A.c3,.slice A.a4 m.ex.length A.c4] 28 (0,0))∧W.heap[n+1]? =some (.cells #[.slice none 0 0,.slice none 0 0,.slice none 0 0,.slice none 0 0,.slice none 0 0] 36 (0,0))∧W.heap[n+2]? =some (.cells #[.slice none 0 0,.slice none 0 0,.slice none 0 0,.slice none 0 0,.slice none 0 0] 36 (0,0))∧Below w.heap.size w W)) ?_ ?_
 ·rw[ab]
  refine⟨?_,?_,?_,?_⟩
  ·rw[heap_alloc_old _ _ (by show _<((w.heap.push _).push _).size;simp;omega),heap_alloc_old _ _ (by show _<(w.heap.push _).size;simp)]
   exact heap_alloc_new w _
  ·rw[heap_alloc_old _ _ (by show _<((w.heap.push _).push _).size;simp)]
   exact heap_alloc2_new w _ _
  ·have:=heap_alloc_new ((w.alloc (.cells #[.slice A.a0 m.rq.length A.c0,.slice A.a1 m.im.length A.c1,.slice A.a2 m.ep.length A.c2,.slice A.a3 m.st.length A.c3,.slice A.a4 m.ex.length A.c4] 28)).alloc (.cells #[.slice none 0 0,.slice none 0 0,.slice none 0 0,.slice none 0 0,.slice none 0 0] 36)) (.cells #[.slice none 0 0,.slice none 0 0,.slice none 0 0,.slice none 0 0,.slice none 0 0] 36)
   simp only[zk] at this
   exact this
  ·exact (((Below.refl _ _).alloc (Nat.le_refl _) _).alloc (by show _≤(w.heap.push _).size;simp) _).alloc (by show _≤((w.heap.push _).push _).size;simp;omega) _
 have aa:w.heap.size≤n+2:=by omega
 have U:w.heap.size≤n+1:=by omega
 clear ab
 rintro W0 ⟨V,O,M,h⟩
 have X:=zc V
 have Y:=zc O
 have Z:=zc M
 have z:=zc h
 clear V O M h
 obtain⟨L,E,H,J,K,I⟩:=zi X.out
 go_wp2_with fail
 refine (zqr A.a0 A.c0 m.rq W0 (HR.out.later z.out).1 f1).mono ?_
 rintro e V0 ⟨g0,rfl,j,h⟩
 have X2:=zc ((h.block _ (Array.getElem?_eq_some_iff.1 X.out).1).trans X.out)
 have Y2:=zc ((h.block _ (Array.getElem?_eq_some_iff.1 Y.out).1).trans Y.out)
 have q:=zc ((h.block _ (Array.getElem?_eq_some_iff.1 Z.out).1).trans Z.out)
 have D:=zc (z.out.trans (h.mono z.out.size))
 have P0:=zc (j.low z.out.size)
 clear j h L E H J K I X Y Z z
 obtain⟨L,E,H,J,K,I⟩:=zi q.out
 go_upto_region 3 with fail
 refine zac (R:=(fun W=>W.heap[n]? =some (.cells #[.slice A.a0 m.rq.length A.c0,.slice A.a1 m.im.length A.c1,.slice A.a2 m.ep.length A.c2,.slice A.a3 m.st.length A.c3,.slice A.a4 m.ex.length A.c4] 28 (0,0))∧W.heap[n+1]? =some (.cells #[.slice none 0 0,.slice none 0 0,.slice none 0 0,.slice none 0 0,.slice none 0 0] 36 (0,0))∧W.heap[n+2]? =some (.cells #[.slice (some ⟨g0,0,none⟩) m.rq.length m.rq.length,.slice none 0 0,.slice none 0 0,.slice none 0 0,.slice none 0 0] 36 (0,0))∧Below w.heap.size w W∧OwnR W w.heap.size 9 1 ⟨some ⟨g0,0,none⟩,m.rq.length⟩ m.rq.length (m.rq.flatMap (fun x=>[Value.string x])))) ⟨(heap_setCell_other _ _ _ _ (by show n≠n+2;omega)).trans X2.out,(heap_setCell_other _ _ _ _ (by show n+1≠n+2;omega)).trans Y2.out,(zag q.out).trans (by simp),D.out.setCell aa _,zaY P0.out q.out (by decide)⟩ ?_
 clear X2 Y2 q D L E H J K I P0
 rintro W1 ⟨V,O,M,h,o0⟩
 have X:=zc V
 have Y:=zc O
 have Z:=zc M
 have z:=zc h
 have N:=zc o0
 clear V O M h o0
 obtain⟨L,E,H,J,K,I⟩:=zi X.out
 go_wp2_with fail
 refine (zqt A.a1 A.c1 m.im W1 (HR.out.later z.out).2.1 f2).mono ?_
 rintro e V1 ⟨g1,rfl,j,h⟩
 have X2:=zc ((h.block _ (Array.getElem?_eq_some_iff.1 X.out).1).trans X.out)
 have Y2:=zc ((h.block _ (Array.getElem?_eq_some_iff.1 Y.out).1).trans Y.out)
 have q:=zc ((h.block _ (Array.getElem?_eq_some_iff.1 Z.out).1).trans Z.out)
 have D:=zc (z.out.trans (h.mono z.out.size))
 have P0:=zc (N.out.keep fun k g=>h.block k (N.out.typed g).2.1)
 have P1:=zc (j.low z.out.size)
 clear j h L E H J K I X Y Z z N
 obtain⟨L,E,H,J,K,I⟩:=zi q.out
 go_upto_region 4 with fail
 refine zac (R:=(fun W=>W.heap[n]? =some (.cells #[.slice A.a0 m.rq.length A.c0,.slice A.a1 m.im.length A.c1,.slice A.a2 m.ep.length A.c2,.slice A.a3 m.st.length A.c3,.slice A.a4 m.ex.length A.c4] 28 (0,0))∧W.heap[n+1]? =some (.cells #[.slice none 0 0,.slice none 0 0,.slice none 0 0,.slice none 0 0,.slice none 0 0] 36 (0,0))∧W.heap[n+2]? =some (.cells #[.slice (some ⟨g0,0,none⟩) m.rq.length m.rq.length,.slice (some ⟨g1,0,none⟩) m.im.length m.im.length,.slice none 0 0,.slice none 0 0,.slice none 0 0] 36 (0,0))∧Below w.heap.size w W∧OwnR W w.heap.size 9 1 ⟨some ⟨g0,0,none⟩,m.rq.length⟩ m.rq.length (m.rq.flatMap (fun x=>[Value.string x]))∧OwnR W w.heap.size 84 3 ⟨some ⟨g1,0,none⟩,m.im.length⟩ m.im.length (m.im.flatMap imL))) ⟨(heap_setCell_other _ _ _ _ (by show n≠n+2;omega)).trans X2.out,(heap_setCell_other _ _ _ _ (by show n+1≠n+2;omega)).trans Y2.out,(zag q.out).trans (by simp),D.out.setCell aa _,zaY P0.out q.out (by decide),zaY P1.out q.out (by decide)⟩ ?_
 clear X2 Y2 q D L E H J K I P0 P1
 rintro W2 ⟨V,O,M,h,o0,o1⟩
 have X:=zc V
 have Y:=zc O
 have Z:=zc M
 have z:=zc h
 have N:=zc o0
 have O1:=zc o1
 clear V O M h o0 o1
 obtain⟨L,E,H,J,K,I⟩:=zi X.out
 go_wp2_with fail
 refine (zqv A.a2 A.c2 m.ep W2 (HR.out.later z.out).2.2.1 f3).mono ?_
 rintro e V2 ⟨g2,rfl,j,h⟩
 have X2:=zc ((h.block _ (Array.getElem?_eq_some_iff.1 X.out).1).trans X.out)
 have Y2:=zc ((h.block _ (Array.getElem?_eq_some_iff.1 Y.out).1).trans Y.out)
 have q:=zc ((h.block _ (Array.getElem?_eq_some_iff.1 Z.out).1).trans Z.out)
 have D:=zc (z.out.trans (h.mono z.out.size))
 have P0:=zc (N.out.keep fun k g=>h.block k (N.out.typed g).2.1)
 have P1:=zc (O1.out.keep fun k g=>h.block k (O1.out.typed g).2.1)
 have P2:=zc (j.low z.out.size)
 clear j h L E H J K I X Y Z z N O1
 obtain⟨L,E,H,J,K,I⟩:=zi q.out
 go_upto_region 5 with fail
 refine zac (R:=(fun W=>W.heap[n]? =some (.cells #[.slice A.a0 m.rq.length A.c0,.slice A.a1 m.im.length A.c1,.slice A.a2 m.ep.length A.c2,.slice A.a3 m.st.length A.c3,.slice A.a4 m.ex.length A.c4] 28 (0,0))∧W.heap[n+1]? =some (.cells #[.slice none 0 0,.slice none 0 0,.slice none 0 0,.slice none 0 0,.slice none 0 0] 36 (0,0))∧W.heap[n+2]? =some (.cells #[.slice (some ⟨g0,0,none⟩) m.rq.length m.rq.length,.slice (some ⟨g1,0,none⟩) m.im.length m.im.length,.slice (some ⟨g2,0,none⟩) m.ep.length m.ep.length,.slice none 0 0,.slice none 0 0] 36 (0,0))∧Below w.heap.size w W∧OwnR W w.heap.size 9 1 ⟨some ⟨g0,0,none⟩,m.rq.length⟩ m.rq.length (m.rq.flatMap (fun x=>[Value.string x]))∧OwnR W w.heap.size 84 3 ⟨some ⟨g1,0,none⟩,m.im.length⟩ m.im.length (m.im.flatMap imL)∧OwnR W w.heap.size 86 4 ⟨some ⟨g2,0,none⟩,m.ep.length⟩ m.ep.length (m.ep.flatMap epL))) ⟨(heap_setCell_other _ _ _ _ (by show n≠n+2;omega)).trans X2.out,(heap_setCell_other _ _ _ _ (by show n+1≠n+2;omega)).trans Y2.out,(zag q.out).trans (by simp),D.out.setCell aa _,zaY P0.out q.out (by decide),zaY P1.out q.out (by decide),zaY P2.out q.out (by decide)⟩ ?_
 clear X2 Y2 q D L E H J K I P0 P1 P2
 rintro W3 ⟨V,O,M,h,o0,o1,o2⟩
 have X:=zc V
 have Y:=zc O
 have Z:=zc M
 have z:=zc h
 have N:=zc o0
 have O1:=zc o1
 have O2:=zc o2
 clear V O M h o0 o1 o2
 obtain⟨L,E,H,J,K,I⟩:=zi X.out
 go_wp2_with fail
 refine (zqx A.a3 A.c3 m.st W3 (HR.out.later z.out).2.2.2.1 f4).mono ?_
 rintro e V3 ⟨g3,rfl,j,h⟩
 have X2:=zc ((h.block _ (Array.getElem?_eq_some_iff.1 X.out).1).trans X.out)
 have Y2:=zc ((h.block _ (Array.getElem?_eq_some_iff.1 Y.out).1).trans Y.out)
 have q:=zc ((h.block _ (Array.getElem?_eq_some_iff.1 Z.out).1).trans Z.out)
 have D:=zc (z.out.trans (h.mono z.out.size))
 have P0:=zc (N.out.keep fun k g=>h.block k (N.out.typed g).2.1)
 have P1:=zc (O1.out.keep fun k g=>h.block k (O1.out.typed g).2.1)
 have P2:=zc (O2.out.keep fun k g=>h.block k (O2.out.typed g).2.1)
 have P3:=zc (j.low z.out.size)
 clear j h L E H J K I X Y Z z N O1 O2
 obtain⟨L,E,H,J,K,I⟩:=zi q.out
 go_upto_region 6 with fail
 refine zac (R:=(fun W=>W.heap[n]? =some (.cells #[.slice A.a0 m.rq.length A.c0,.slice A.a1 m.im.length A.c1,.slice A.a2 m.ep.length A.c2,.slice A.a3 m.st.length A.c3,.slice A.a4 m.ex.length A.c4] 28 (0,0))∧W.heap[n+1]? =some (.cells #[.slice none 0 0,.slice none 0 0,.slice none 0 0,.slice none 0 0,.slice none 0 0] 36 (0,0))∧W.heap[n+2]? =some (.cells #[.slice (some ⟨g0,0,none⟩) m.rq.length m.rq.length,.slice (some ⟨g1,0,none⟩) m.im.length m.im.length,.slice (some ⟨g2,0,none⟩) m.ep.length m.ep.length,.slice (some ⟨g3,0,none⟩) m.st.length m.st.length,.slice none 0 0] 36 (0,0))∧Below w.heap.size w W∧OwnR W w.heap.size 9 1 ⟨some ⟨g0,0,none⟩,m.rq.length⟩ m.rq.length (m.rq.flatMap (fun x=>[Value.string x]))∧OwnR W w.heap.size 84 3 ⟨some ⟨g1,0,none⟩,m.im.length⟩ m.im.length (m.im.flatMap imL)∧OwnR W w.heap.size 86 4 ⟨some ⟨g2,0,none⟩,m.ep.length⟩ m.ep.length (m.ep.flatMap epL)∧OwnR W w.heap.size 107 3 ⟨some ⟨g3,0,none⟩,m.st.length⟩ m.st.length (m.st.flatMap smL))) ⟨(heap_setCell_other _ _ _ _ (by show n≠n+2;omega)).trans X2.out,(heap_setCell_other _ _ _ _ (by show n+1≠n+2;omega)).trans Y2.out,(zag q.out).trans (by simp),D.out.setCell aa _,zaY P0.out q.out (by decide),zaY P1.out q.out (by decide),zaY P2.out q.out (by decide),zaY P3.out q.out (by decide)⟩ ?_
 clear X2 Y2 q D L E H J K I P0 P1 P2 P3
 rintro W4 ⟨V,O,M,h,o0,o1,o2,o3⟩
 have X:=zc V
 have Y:=zc O
 have Z:=zc M
 have z:=zc h
 have N:=zc o0
 have O1:=zc o1
 have O2:=zc o2
 have O3:=zc o3
 clear V O M h o0 o1 o2 o3
 obtain⟨L,E,H,J,K,I⟩:=zi X.out
 go_wp2_with fail
 refine (zqz A.a4 A.c4 m.ex W4 (HR.out.later z.out).2.2.2.2 f5).mono ?_
 rintro e V4 ⟨g4,rfl,j,h⟩
 have X2:=zc ((h.block _ (Array.getElem?_eq_some_iff.1 X.out).1).trans X.out)
 have Y2:=zc ((h.block _ (Array.getElem?_eq_some_iff.1 Y.out).1).trans Y.out)
 have q:=zc ((h.block _ (Array.getElem?_eq_some_iff.1 Z.out).1).trans Z.out)
 have D:=zc (z.out.trans (h.mono z.out.size))
 have P0:=zc (N.out.keep fun k g=>h.block k (N.out.typed g).2.1)
 have P1:=zc (O1.out.keep fun k g=>h.block k (O1.out.typed g).2.1)
 have P2:=zc (O2.out.keep fun k g=>h.block k (O2.out.typed g).2.1)
 have P3:=zc (O3.out.keep fun k g=>h.block k (O3.out.typed g).2.1)
 have P4:=zc (j.low z.out.size)
 clear j h L E H J K I X Y Z z N O1 O2 O3
 obtain⟨L,E,H,J,K,I⟩:=zi q.out
 go_upto_region 7 with fail
 refine zac (R:=(fun W=>W.heap[n]? =some (.cells #[.slice A.a0 m.rq.length A.c0,.slice A.a1 m.im.length A.c1,.slice A.a2 m.ep.length A.c2,.slice A.a3 m.st.length A.c3,.slice A.a4 m.ex.length A.c4] 28 (0,0))∧W.heap[n+1]? =some (.cells #[.slice none 0 0,.slice none 0 0,.slice none 0 0,.slice none 0 0,.slice none 0 0] 36 (0,0))∧W.heap[n+2]? =some (.cells #[.slice (some ⟨g0,0,none⟩) m.rq.length m.rq.length,.slice (some ⟨g1,0,none⟩) m.im.length m.im.length,.slice (some ⟨g2,0,none⟩) m.ep.length m.ep.length,.slice (some ⟨g3,0,none⟩) m.st.length m.st.length,.slice (some ⟨g4,0,none⟩) m.ex.length m.ex.length] 36 (0,0))∧Below w.heap.size w W∧OwnR W w.heap.size 9 1 ⟨some ⟨g0,0,none⟩,m.rq.length⟩ m.rq.length (m.rq.flatMap (fun x=>[Value.string x]))∧OwnR W w.heap.size 84 3 ⟨some ⟨g1,0,none⟩,m.im.length⟩ m.im.length (m.im.flatMap imL)∧OwnR W w.heap.size 86 4 ⟨some ⟨g2,0,none⟩,m.ep.length⟩ m.ep.length (m.ep.flatMap epL)∧OwnR W w.heap.size 107 3 ⟨some ⟨g3,0,none⟩,m.st.length⟩ m.st.length (m.st.flatMap smL)∧OwnR W w.heap.size 109 6 ⟨some ⟨g4,0,none⟩,m.ex.length⟩ m.ex.length (m.ex.flatMap exL))) ⟨(heap_setCell_other _ _ _ _ (by show n≠n+2;omega)).trans X2.out,(heap_setCell_other _ _ _ _ (by show n+1≠n+2;omega)).trans Y2.out,(zag q.out).trans (by simp),D.out.setCell aa _,zaY P0.out q.out (by decide),zaY P1.out q.out (by decide),zaY P2.out q.out (by decide),zaY P3.out q.out (by decide),zaY P4.out q.out (by decide)⟩ ?_
 clear X2 Y2 q D L E H J K I P0 P1 P2 P3 P4
 rintro W5 ⟨V,O,M,h,o0,o1,o2,o3,o4⟩
 have Y:=zc O
 have Z:=zc M
 have z:=zc h
 have N:=zc o0
 have O1:=zc o1
 have O2:=zc o2
 have O3:=zc o3
 have O4:=zc o4
 clear V O M h o0 o1 o2 o3 o4
 obtain⟨L,E,H,J,K,I⟩:=zi Z.out
 obtain⟨d0,d1,d2,d3,d4,df⟩:=zi Y.out
 go_wp2
 refine bodyPost_ret (results_cell_row rfl _ _ (n+1) 36 #[.slice (some ⟨g0,0,none⟩) m.rq.length m.rq.length,.slice (some ⟨g1,0,none⟩) m.im.length m.im.length,.slice (some ⟨g2,0,none⟩) m.ep.length m.ep.length,.slice (some ⟨g3,0,none⟩) m.st.length m.st.length,.slice (some ⟨g4,0,none⟩) m.ex.length m.ex.length] (0,0) _ rfl ?_ Tryz.underlying36 rfl (by kernel_rfl)) rfl ?_
 ·exact zcJ Y.out
 ·refine⟨⟨⟨some ⟨g0,0,none⟩,m.rq.length⟩,⟨some ⟨g1,0,none⟩,m.im.length⟩,⟨some ⟨g2,0,none⟩,m.ep.length⟩,⟨some ⟨g3,0,none⟩,m.st.length⟩,⟨some ⟨g4,0,none⟩,m.ex.length⟩,⟨none,0⟩⟩,rfl,⟨?_,?_,?_,?_,?_⟩,((((z.out.setCell U _).setCell U _).setCell U _).setCell U _).setCell U _⟩
  ·rw[zq0]
   exact zeA N.out Y.out (by decide)
  ·exact zeA O1.out Y.out (by decide)
  ·exact zeA O2.out Y.out (by decide)
  ·exact zeA O3.out Y.out (by decide)
  ·exact zeA O4.out Y.out (by decide)
end Go.Proofs.YtjdddblpfbmpaaaGreat
