/-
  What the laws' size counters answer: the walks.
  What the laws' copiers answer: the walks.
  What the laws' toMod answers: the walk.
-/
import Derived.Deep.Cut
import Derived.Test.YticdggnnpjachaaGreatCcSrcRowToCostMath
namespace Go.Proofs.YticdggnnpjachaaGreat
set_option maxRecDepth 100000
set_option maxHeartbeats 6400000
open Go.RowKit Go.PlainAid Go.Sort
def zea (x:ByteArray):Prop:=x.size≤9223372036854775807
theorem zpV (a:Option Addr) (K:Nat) (l:List ByteArray) (left:Int) (w:World) (N:RowAt w a (fun x=>[Value.string x]) 1 l) (hl:l.length≤9223372036854775807) (q: ∀x∈l,zea x) (h0:0≤left) (h1:left≤1048576):
  Calls Tryz.prog 40 #[.slice a l.length K,.int .i64 left] w fun e w'=>zcG left (l.length+zQ zca l) e∧Below w.heap.size w w':=by
 have HR:=zc N
 have HG:=zc q
 clear N q
 by_cases aa:(l.length:Int)≤left
 case neg=>
  go_enter Tryz.func40,Tryz.ntmps40
  go_wp2
  go_ret
  exact⟨⟨-1,rfl,by omega,by omega,fun h=>by omega⟩,Below.refl _ _⟩
 go_enter Tryz.func40,Tryz.ntmps40
 go_wp2
 go_loopg [1,5] l.length (fun k Y X wr=>∃(j:Nat) (z:Int),X= .int .i64 j∧Y= .int .i64 z∧j+k=l.length∧0≤z∧z≤left∧z+((l.length+zQ zca (l.take j):Nat):Int)=left∧Below w.heap.size w wr)
 case atStart=>exact⟨0,_,rfl,rfl,by omega,by omega,by omega,by simp[zQ],Below.refl _ _⟩
 case round=>
  obtain⟨j,z,rfl,rfl,hj,ab,M,o,q⟩:=hrel
  have O:=zc o
  have I:=zc q
  clear o q
  by_cases J:j<l.length
  ·have D:(j:Int)<(l.length:Int):=by omega
   obtain⟨x,H⟩: ∃x,l[j]? =some x:=⟨_,List.getElem?_eq_getElem J⟩
   obtain⟨b,ac,rfl,U⟩:=(HR.out.later I.out).get H
   have A:=HG.out x (List.mem_of_getElem? H)
   have Z:=zc (zeC zca H)
   have c0:=U 0 _ rfl
   simp only[Nat.add_zero,Nat.mul_one] at c0
   clear U H
   obtain⟨E,n⟩: ∃E,E=j+1:=⟨_,rfl⟩
   have ej:(j:Int)+1=(E:Int):=by omega
   have V:=zc n
   clear n
   unfold zea at A
   by_cases L:0≤z-(x.size:Int)
   ·go_wp2
    go_roundg (gk-1)
    case rel=>exact⟨E,_,rfl,rfl,by have:=V.out;omega,L,by omega,by have:=O.out;have:zca x=x.size:=rfl;rw[V.out,Z.out];omega,I.out⟩
    case measure=>omega
   ·go_wp2
    go_ret
    exact⟨⟨-1,rfl,by omega,by omega,fun h=>by omega⟩,I.out⟩
  ·have D: ¬(j:Int)<(l.length:Int):=by omega
   obtain rfl:j=l.length:=by omega
   go_wp2
   go_ret
   exact⟨⟨z,rfl,by omega,M,fun _=>by have:=O.out;rw[List.take_length] at this;exact this⟩,I.out⟩
def zdz (x:Im):Prop:=x.spec.size≤9223372036854775807∧x.first.size≤9223372036854775807∧x.loc.size≤9223372036854775807
theorem zpW (x:Im) (left:Int) (w:World) (j:zdz x) (D:0≤left) (z:left≤1048576):
  Calls Tryz.prog 96 #[.agg #[.string x.spec,.string x.first,.string x.loc],.int .i64 left] w fun e n=>zcG left (zbE x) e∧Below w.heap.size w n:=by
 unfold zdz at j
 obtain⟨A,o,q⟩:=j
 go_enter Tryz.func96,Tryz.ntmps96
 go_wp2
 ·go_ret
  exact⟨⟨-1,rfl,by omega,by omega,fun h=>by omega⟩,(Below.refl _ _).alloc (Nat.le_refl _) _⟩
 ·go_ret
  exact⟨⟨-1,rfl,by omega,by omega,fun h=>by omega⟩,(Below.refl _ _).alloc (Nat.le_refl _) _⟩
 ·go_ret
  exact⟨⟨-1,rfl,by omega,by omega,fun h=>by omega⟩,(Below.refl _ _).alloc (Nat.le_refl _) _⟩
 ·go_ret
  exact⟨⟨_,rfl,by omega,by omega,fun _=>by unfold zbE;omega⟩,(Below.refl _ _).alloc (Nat.le_refl _) _⟩
theorem zpX (a:Option Addr) (U:Nat) (l:List Im) (left:Int) (w:World) (Z:RowAt w a imL 3 l) (hl:l.length≤9223372036854775807) (H: ∀x∈l,zdz x) (h0:0≤left) (h1:left≤1048576):
  Calls Tryz.prog 41 #[.slice a l.length U,.int .i64 left] w fun e w'=>zcG left (l.length+zQ zbE l) e∧Below w.heap.size w w':=by
 have HR:=zc Z
 have HG:=zc H
 clear Z H
 by_cases ac:(l.length:Int)≤left
 case neg=>
  go_enter Tryz.func41,Tryz.ntmps41
  go_wp2
  go_ret
  exact⟨⟨-1,rfl,by omega,by omega,fun h=>by omega⟩,Below.refl _ _⟩
 go_enter Tryz.func41,Tryz.ntmps41
 go_wp2
 go_loopg [1,5] l.length (fun k s1 s5 wr=>∃(j:Nat) (z:Int),s5= .int .i64 j∧s1= .int .i64 z∧j+k=l.length∧0≤z∧z≤left∧z+((l.length+zQ zbE (l.take j):Nat):Int)=left∧Below w.heap.size w wr)
 case atStart=>exact⟨0,_,rfl,rfl,by omega,by omega,by omega,by simp[zQ],Below.refl _ _⟩
 case round=>
  obtain⟨j,z,rfl,rfl,hj,X,Y,E,H⟩:=hrel
  have HZ:=zc E
  have N:=zc H
  clear E H
  by_cases O:j<l.length
  ·have J:(j:Int)<(l.length:Int):=by omega
   obtain⟨x,L⟩: ∃x,l[j]? =some x:=⟨_,List.getElem?_eq_getElem O⟩
   obtain⟨b,ad,rfl,M⟩:=(HR.out.later N.out).get L
   have n:=HG.out x (List.mem_of_getElem? L)
   have HC:=zc (zeC zbE L)
   have c0:=M 0 _ rfl
   have c1:=M 1 _ rfl
   have c2:=M 2 _ rfl
   simp only[Nat.add_zero] at c0
   clear M L
   obtain⟨K,A⟩: ∃K,K=j+1:=⟨_,rfl⟩
   have ej:(j:Int)+1=(K:Int):=by omega
   have HJ:=zc A
   clear A
   go_wp2_with fail
   refine (zpW x z _ n X (by omega)).mono ?_
   rintro e w1 ⟨⟨z1,rfl,aa,ab,I⟩,D⟩
   have o:=zc (N.out.trans (D.mono N.out.size))
   have V:=zc I
   clear D I n c0 c1 c2
   by_cases q:0≤z1
   ·go_wp2
    go_roundg (gk-1)
    case rel=>exact⟨K,z1,rfl,rfl,by have:=HJ.out;omega,q,by omega,by have:=HZ.out;have:=V.out q;rw[HJ.out,HC.out];omega,o.out⟩
    case measure=>omega
   ·go_wp2
    go_ret
    exact⟨⟨-1,rfl,by omega,by omega,fun h=>by omega⟩,o.out⟩
  ·have J: ¬(j:Int)<(l.length:Int):=by omega
   obtain rfl:j=l.length:=by omega
   go_wp2
   go_ret
   exact⟨⟨z,rfl,by omega,Y,fun _=>by have:=HZ.out;rw[List.take_length] at this;exact this⟩,N.out⟩
def zd0 (x:Ep):Prop:=x.name.size≤9223372036854775807∧x.loc.size≤9223372036854775807∧x.spec.size≤9223372036854775807
theorem zpY (x:Ep) (left:Int) (w:World) (j:zd0 x) (D:0≤left) (z:left≤1048576):
  Calls Tryz.prog 97 #[.agg #[.int .i64 x.kind,.string x.name,.string x.loc,.string x.spec],.int .i64 left] w fun e n=>zcG left (zbF x) e∧Below w.heap.size w n:=by
 unfold zd0 at j
 obtain⟨A,o,q⟩:=j
 go_enter Tryz.func97,Tryz.ntmps97
 go_wp2
 ·go_ret
  exact⟨⟨-1,rfl,by omega,by omega,fun h=>by omega⟩,(Below.refl _ _).alloc (Nat.le_refl _) _⟩
 ·go_ret
  exact⟨⟨-1,rfl,by omega,by omega,fun h=>by omega⟩,(Below.refl _ _).alloc (Nat.le_refl _) _⟩
 ·go_ret
  exact⟨⟨-1,rfl,by omega,by omega,fun h=>by omega⟩,(Below.refl _ _).alloc (Nat.le_refl _) _⟩
 ·go_ret
  exact⟨⟨_,rfl,by omega,by omega,fun _=>by unfold zbF;omega⟩,(Below.refl _ _).alloc (Nat.le_refl _) _⟩
theorem zpZ (a:Option Addr) (U:Nat) (l:List Ep) (left:Int) (w:World) (Z:RowAt w a epL 4 l) (hl:l.length≤9223372036854775807) (H: ∀x∈l,zd0 x) (h0:0≤left) (h1:left≤1048576):
  Calls Tryz.prog 42 #[.slice a l.length U,.int .i64 left] w fun e w'=>zcG left (l.length+zQ zbF l) e∧Below w.heap.size w w':=by
 have HR:=zc Z
 have HG:=zc H
 clear Z H
 by_cases ac:(l.length:Int)≤left
 case neg=>
  go_enter Tryz.func42,Tryz.ntmps42
  go_wp2
  go_ret
  exact⟨⟨-1,rfl,by omega,by omega,fun h=>by omega⟩,Below.refl _ _⟩
 go_enter Tryz.func42,Tryz.ntmps42
 go_wp2
 go_loopg [1,5] l.length (fun k s1 s5 wr=>∃(j:Nat) (z:Int),s5= .int .i64 j∧s1= .int .i64 z∧j+k=l.length∧0≤z∧z≤left∧z+((l.length+zQ zbF (l.take j):Nat):Int)=left∧Below w.heap.size w wr)
 case atStart=>exact⟨0,_,rfl,rfl,by omega,by omega,by omega,by simp[zQ],Below.refl _ _⟩
 case round=>
  obtain⟨j,z,rfl,rfl,hj,X,Y,E,H⟩:=hrel
  have HZ:=zc E
  have N:=zc H
  clear E H
  by_cases O:j<l.length
  ·have K:(j:Int)<(l.length:Int):=by omega
   obtain⟨x,M⟩: ∃x,l[j]? =some x:=⟨_,List.getElem?_eq_getElem O⟩
   obtain⟨b,ad,rfl,I⟩:=(HR.out.later N.out).get M
   have n:=HG.out x (List.mem_of_getElem? M)
   have HC:=zc (zeC zbF M)
   have c0:=I 0 _ rfl
   have c1:=I 1 _ rfl
   have c2:=I 2 _ rfl
   have c3:=I 3 _ rfl
   simp only[Nat.add_zero] at c0
   clear I M
   obtain⟨L,A⟩: ∃L,L=j+1:=⟨_,rfl⟩
   have ej:(j:Int)+1=(L:Int):=by omega
   have HJ:=zc A
   clear A
   go_wp2_with fail
   refine (zpY x z _ n X (by omega)).mono ?_
   rintro e w1 ⟨⟨z1,rfl,aa,ab,J⟩,D⟩
   have o:=zc (N.out.trans (D.mono N.out.size))
   have V:=zc J
   clear D J n c0 c1 c2 c3
   by_cases q:0≤z1
   ·go_wp2
    go_roundg (gk-1)
    case rel=>exact⟨L,z1,rfl,rfl,by have:=HJ.out;omega,q,by omega,by have:=HZ.out;have:=V.out q;rw[HJ.out,HC.out];omega,o.out⟩
    case measure=>omega
   ·go_wp2
    go_ret
    exact⟨⟨-1,rfl,by omega,by omega,fun h=>by omega⟩,o.out⟩
  ·have K: ¬(j:Int)<(l.length:Int):=by omega
   obtain rfl:j=l.length:=by omega
   go_wp2
   go_ret
   exact⟨⟨z,rfl,by omega,Y,fun _=>by have:=HZ.out;rw[List.take_length] at this;exact this⟩,N.out⟩
def zd1 (x:Sm):Prop:=x.name.size≤9223372036854775807
theorem zqa (x:Sm) (left:Int) (w:World) (n:zd1 x) (q:0≤left) (o:left≤1048576):
  Calls Tryz.prog 98 #[.agg #[.int .i64 x.kind,.string x.name,.int .i64 x.expr],.int .i64 left] w fun e j=>zcG left (zcb x) e∧Below w.heap.size w j:=by
 unfold zd1 at n
 go_enter Tryz.func98,Tryz.ntmps98
 go_wp2
 ·go_ret
  exact⟨⟨-1,rfl,by omega,by omega,fun h=>by omega⟩,(Below.refl _ _).alloc (Nat.le_refl _) _⟩
 ·go_ret
  exact⟨⟨_,rfl,by omega,by omega,fun _=>by unfold zcb;omega⟩,(Below.refl _ _).alloc (Nat.le_refl _) _⟩
theorem zqb (a:Option Addr) (U:Nat) (l:List Sm) (left:Int) (w:World) (Z:RowAt w a smL 3 l) (hl:l.length≤9223372036854775807) (H: ∀x∈l,zd1 x) (h0:0≤left) (h1:left≤1048576):
  Calls Tryz.prog 43 #[.slice a l.length U,.int .i64 left] w fun e w'=>zcG left (l.length+zQ zcb l) e∧Below w.heap.size w w':=by
 have HR:=zc Z
 have HG:=zc H
 clear Z H
 by_cases ac:(l.length:Int)≤left
 case neg=>
  go_enter Tryz.func43,Tryz.ntmps43
  go_wp2
  go_ret
  exact⟨⟨-1,rfl,by omega,by omega,fun h=>by omega⟩,Below.refl _ _⟩
 go_enter Tryz.func43,Tryz.ntmps43
 go_wp2
 go_loopg [1,5] l.length (fun k s1 s5 wr=>∃(j:Nat) (z:Int),s5= .int .i64 j∧s1= .int .i64 z∧j+k=l.length∧0≤z∧z≤left∧z+((l.length+zQ zcb (l.take j):Nat):Int)=left∧Below w.heap.size w wr)
 case atStart=>exact⟨0,_,rfl,rfl,by omega,by omega,by omega,by simp[zQ],Below.refl _ _⟩
 case round=>
  obtain⟨j,z,rfl,rfl,hj,X,Y,E,H⟩:=hrel
  have HZ:=zc E
  have N:=zc H
  clear E H
  by_cases O:j<l.length
  ·have J:(j:Int)<(l.length:Int):=by omega
   obtain⟨x,L⟩: ∃x,l[j]? =some x:=⟨_,List.getElem?_eq_getElem O⟩
   obtain⟨b,ad,rfl,M⟩:=(HR.out.later N.out).get L
   have n:=HG.out x (List.mem_of_getElem? L)
   have HC:=zc (zeC zcb L)
   have c0:=M 0 _ rfl
   have c1:=M 1 _ rfl
   have c2:=M 2 _ rfl
   simp only[Nat.add_zero] at c0
   clear M L
   obtain⟨K,A⟩: ∃K,K=j+1:=⟨_,rfl⟩
   have ej:(j:Int)+1=(K:Int):=by omega
   have HJ:=zc A
   clear A
   go_wp2_with fail
   refine (zqa x z _ n X (by omega)).mono ?_
   rintro e w1 ⟨⟨z1,rfl,aa,ab,I⟩,D⟩
   have o:=zc (N.out.trans (D.mono N.out.size))
   have V:=zc I
   clear D I n c0 c1 c2
   by_cases q:0≤z1
   ·go_wp2
    go_roundg (gk-1)
    case rel=>exact⟨K,z1,rfl,rfl,by have:=HJ.out;omega,q,by omega,by have:=HZ.out;have:=V.out q;rw[HJ.out,HC.out];omega,o.out⟩
    case measure=>omega
   ·go_wp2
    go_ret
    exact⟨⟨-1,rfl,by omega,by omega,fun h=>by omega⟩,o.out⟩
  ·have J: ¬(j:Int)<(l.length:Int):=by omega
   obtain rfl:j=l.length:=by omega
   go_wp2
   go_ret
   exact⟨⟨z,rfl,by omega,Y,fun _=>by have:=HZ.out;rw[List.take_length] at this;exact this⟩,N.out⟩
def zd2 (x:Ex):Prop:=x.name.size≤9223372036854775807∧x.field.size≤9223372036854775807
theorem zqc (x:Ex) (left:Int) (w:World) (j:zd2 x) (A:0≤left) (q:left≤1048576):
  Calls Tryz.prog 99 #[.agg #[.int .i64 x.kind,.int .i64 x.num,.string x.name,.string x.field,.int .i64 x.l,.int .i64 x.r],.int .i64 left] w fun e n=>zcG left (zcw x) e∧Below w.heap.size w n:=by
 unfold zd2 at j
 obtain⟨z,o⟩:=j
 go_enter Tryz.func99,Tryz.ntmps99
 go_wp2
 ·go_ret
  exact⟨⟨-1,rfl,by omega,by omega,fun h=>by omega⟩,(Below.refl _ _).alloc (Nat.le_refl _) _⟩
 ·go_ret
  exact⟨⟨-1,rfl,by omega,by omega,fun h=>by omega⟩,(Below.refl _ _).alloc (Nat.le_refl _) _⟩
 ·go_ret
  exact⟨⟨_,rfl,by omega,by omega,fun _=>by unfold zcw;omega⟩,(Below.refl _ _).alloc (Nat.le_refl _) _⟩
theorem zqd (a:Option Addr) (U:Nat) (l:List Ex) (left:Int) (w:World) (Z:RowAt w a exL 6 l) (hl:l.length≤9223372036854775807) (I: ∀x∈l,zd2 x) (h0:0≤left) (h1:left≤1048576):
  Calls Tryz.prog 44 #[.slice a l.length U,.int .i64 left] w fun e w'=>zcG left (l.length+zQ zcw l) e∧Below w.heap.size w w':=by
 have HR:=zc Z
 have HG:=zc I
 clear Z I
 by_cases ac:(l.length:Int)≤left
 case neg=>
  go_enter Tryz.func44,Tryz.ntmps44
  go_wp2
  go_ret
  exact⟨⟨-1,rfl,by omega,by omega,fun h=>by omega⟩,Below.refl _ _⟩
 go_enter Tryz.func44,Tryz.ntmps44
 go_wp2
 go_loopg [1,5] l.length (fun k s1 s5 wr=>∃(j:Nat) (z:Int),s5= .int .i64 j∧s1= .int .i64 z∧j+k=l.length∧0≤z∧z≤left∧z+((l.length+zQ zcw (l.take j):Nat):Int)=left∧Below w.heap.size w wr)
 case atStart=>exact⟨0,_,rfl,rfl,by omega,by omega,by omega,by simp[zQ],Below.refl _ _⟩
 case round=>
  obtain⟨j,z,rfl,rfl,hj,X,Y,H,I⟩:=hrel
  have HZ:=zc H
  have N:=zc I
  clear H I
  by_cases O:j<l.length
  ·have K:(j:Int)<(l.length:Int):=by omega
   obtain⟨x,M⟩: ∃x,l[j]? =some x:=⟨_,List.getElem?_eq_getElem O⟩
   obtain⟨b,ad,rfl,o⟩:=(HR.out.later N.out).get M
   have n:=HG.out x (List.mem_of_getElem? M)
   have HC:=zc (zeC zcw M)
   have c0:=o 0 _ rfl
   have c1:=o 1 _ rfl
   have c2:=o 2 _ rfl
   have c3:=o 3 _ rfl
   have c4:=o 4 _ rfl
   have c5:=o 5 _ rfl
   simp only[Nat.add_zero] at c0
   clear o M
   obtain⟨L,D⟩: ∃L,L=j+1:=⟨_,rfl⟩
   have ej:(j:Int)+1=(L:Int):=by omega
   have HJ:=zc D
   clear D
   go_wp2_with fail
   refine (zqc x z _ n X (by omega)).mono ?_
   rintro e w1 ⟨⟨z1,rfl,aa,ab,J⟩,E⟩
   have q:=zc (N.out.trans (E.mono N.out.size))
   have V:=zc J
   clear E J n c0 c1 c2 c3 c4 c5
   by_cases A:0≤z1
   ·go_wp2
    go_roundg (gk-1)
    case rel=>exact⟨L,z1,rfl,rfl,by have:=HJ.out;omega,A,by omega,by have:=HZ.out;have:=V.out A;rw[HJ.out,HC.out];omega,q.out⟩
    case measure=>omega
   ·go_wp2
    go_ret
    exact⟨⟨-1,rfl,by omega,by omega,fun h=>by omega⟩,q.out⟩
  ·have K: ¬(j:Int)<(l.length:Int):=by omega
   obtain rfl:j=l.length:=by omega
   go_wp2
   go_ret
   exact⟨⟨z,rfl,by omega,Y,fun _=>by have:=HZ.out;rw[List.take_length] at this;exact this⟩,N.out⟩
structure MA where
 a0:Option Addr
 a1:Option Addr
 a2:Option Addr
 a3:Option Addr
 a4:Option Addr
 c0:Nat
 c1:Nat
 c2:Nat
 c3:Nat
 c4:Nat
def zcZ (A:MA) (m:Md):Value:=.agg #[.slice A.a0 m.rq.length A.c0,.slice A.a1 m.im.length A.c1,.slice A.a2 m.ep.length A.c2,.slice A.a3 m.st.length A.c3,.slice A.a4 m.ex.length A.c4]
def ModIn (w:World) (A:MA) (m:Md):Prop:=RowAt w A.a0 (fun x=>[Value.string x]) 1 m.rq∧RowAt w A.a1 imL 3 m.im∧RowAt w A.a2 epL 4 m.ep∧RowAt w A.a3 smL 3 m.st∧RowAt w A.a4 exL 6 m.ex
theorem ModIn.later {w n:World} {A:MA} {m:Md} (h:ModIn w A m) (j:Below w.heap.size w n):ModIn n A m:=⟨h.1.later j,h.2.1.later j,h.2.2.1.later j,h.2.2.2.1.later j,h.2.2.2.2.later j⟩
def zf3 (m:Md):Prop:=(m.rq.length≤9223372036854775807∧∀x∈m.rq,zea x)∧(m.im.length≤9223372036854775807∧∀x∈m.im,zdz x)∧(m.ep.length≤9223372036854775807∧∀x∈m.ep,zd0 x)∧(m.st.length≤9223372036854775807∧∀x∈m.st,zd1 x)∧(m.ex.length≤9223372036854775807∧∀x∈m.ex,zd2 x)
theorem zqe (A:MA) (m:Md) (left:Int) (w:World) (hr:ModIn w A m) (j:zf3 m) (h0:0≤left) (h1:left≤1048576):
  Calls Tryz.prog 11 #[zcZ A m,.int .i64 left] w fun e w'=>zcG left (zcQ m) e∧Below w.heap.size w w':=by
 have HR:=zc hr
 have q:=zc j
 clear hr j
 unfold zcZ
 go_enter Tryz.func11,Tryz.ntmps11
 go_upto_region 1 with fail
 have HW:Hid (Below w.heap.size w (w.alloc (.cells #[.slice A.a0 m.rq.length A.c0,.slice A.a1 m.im.length A.c1,.slice A.a2 m.ep.length A.c2,.slice A.a3 m.st.length A.c3,.slice A.a4 m.ex.length A.c4] 39))):=(Below.refl _ _).alloc (Nat.le_refl _) _
 refine zah (R:=fun W=>W.heap[w.heap.size]? =some (.cells #[.slice A.a0 m.rq.length A.c0,.slice A.a1 m.im.length A.c1,.slice A.a2 m.ep.length A.c2,.slice A.a3 m.st.length A.c3,.slice A.a4 m.ex.length A.c4] 39 (0,0))∧ModIn W A m∧Below w.heap.size w W) ⟨heap_alloc_new w _,HR.out.later HW.out,HW.out⟩ ?_
 obtain⟨gx,M⟩: ∃gx,gx=w.heap.size:=⟨_,rfl⟩
 rw[←M]
 rintro w0 ⟨hx,hm,j⟩
 rw[M] at j
 clear M HW HR
 have X:=zc hx
 have M0:=zc hm
 have N:=zc j
 clear hx hm j
 obtain⟨D,E,o,H,z,n⟩:=zk X.out
 go_wp2_with fail
 refine (zpV A.a0 A.c0 m.rq left w0 M0.out.1 q.out.1.1 q.out.1.2 (by omega) (by omega)).mono ?_
 rintro e w1 ⟨⟨z0,rfl,y0,u0,v0⟩,j⟩
 have L:=zc (N.out.trans (j.mono N.out.size))
 have M1:=zc (M0.out.later j)
 have Z:=zc ((j.block _ (Array.getElem?_eq_some_iff.1 X.out).1).trans X.out)
 have V0:=zc v0
 clear j v0 D E o H z n
 obtain⟨D,E,o,H,z,n⟩:=zk Z.out
 by_cases t0:0≤z0
 case neg=>
  go_wp2
  go_ret
  exact⟨⟨-1,rfl,by omega,by omega,fun h=>by omega⟩,L.out⟩
 go_wp2_with fail
 refine (zpX A.a1 A.c1 m.im z0 w1 M1.out.2.1 q.out.2.1.1 q.out.2.1.2 (by omega) (by omega)).mono ?_
 rintro e w2 ⟨⟨z1,rfl,y1,u1,v1⟩,j⟩
 have J:=zc (L.out.trans (j.mono L.out.size))
 have M2:=zc (M1.out.later j)
 have U:=zc ((j.block _ (Array.getElem?_eq_some_iff.1 Z.out).1).trans Z.out)
 have V1:=zc v1
 clear j v1 D E o H z n
 obtain⟨D,E,o,H,z,n⟩:=zk U.out
 by_cases t1:0≤z1
 case neg=>
  go_wp2
  go_ret
  exact⟨⟨-1,rfl,by omega,by omega,fun h=>by omega⟩,J.out⟩
 go_wp2_with fail
 refine (zpZ A.a2 A.c2 m.ep z1 w2 M2.out.2.2.1 q.out.2.2.1.1 q.out.2.2.1.2 (by omega) (by omega)).mono ?_
 rintro e w3 ⟨⟨z2,rfl,y2,u2,v2⟩,j⟩
 have K:=zc (J.out.trans (j.mono J.out.size))
 have M3:=zc (M2.out.later j)
 have V:=zc ((j.block _ (Array.getElem?_eq_some_iff.1 U.out).1).trans U.out)
 have V2:=zc v2
 clear j v2 D E o H z n
 obtain⟨D,E,o,H,z,n⟩:=zk V.out
 by_cases t2:0≤z2
 case neg=>
  go_wp2
  go_ret
  exact⟨⟨-1,rfl,by omega,by omega,fun h=>by omega⟩,K.out⟩
 go_wp2_with fail
 refine (zqb A.a3 A.c3 m.st z2 w3 M3.out.2.2.2.1 q.out.2.2.2.1.1 q.out.2.2.2.1.2 (by omega) (by omega)).mono ?_
 rintro e w4 ⟨⟨z3,rfl,y3,u3,v3⟩,j⟩
 have I:=zc (K.out.trans (j.mono K.out.size))
 have M4:=zc (M3.out.later j)
 have Y:=zc ((j.block _ (Array.getElem?_eq_some_iff.1 V.out).1).trans V.out)
 have V3:=zc v3
 clear j v3 D E o H z n
 obtain⟨D,E,o,H,z,n⟩:=zk Y.out
 by_cases t3:0≤z3
 case neg=>
  go_wp2
  go_ret
  exact⟨⟨-1,rfl,by omega,by omega,fun h=>by omega⟩,I.out⟩
 go_wp2_with fail
 refine (zqd A.a4 A.c4 m.ex z3 w4 M4.out.2.2.2.2 q.out.2.2.2.2.1 q.out.2.2.2.2.2 (by omega) (by omega)).mono ?_
 rintro e w5 ⟨⟨z4,rfl,y4,u4,v4⟩,j⟩
 have O:=zc (I.out.trans (j.mono I.out.size))
 have M5:=zc (M4.out.later j)
 have X5:=zc ((j.block _ (Array.getElem?_eq_some_iff.1 Y.out).1).trans Y.out)
 have V4:=zc v4
 clear j v4 D E o H z n
 obtain⟨D,E,o,H,z,n⟩:=zk X5.out
 by_cases t4:0≤z4
 case neg=>
  go_wp2
  go_ret
  exact⟨⟨-1,rfl,by omega,by omega,fun h=>by omega⟩,O.out⟩
 go_wp2
 go_ret
 exact⟨⟨z4,rfl,by omega,by omega,fun _=>by have q0:=V0.out t0;have q1:=V1.out t1;have q2:=V2.out t2;have q3:=V3.out t3;have q4:=V4.out t4;unfold zcQ;omega⟩,O.out⟩
theorem Tryz.infoTStr:(Tryz.prog.info? 9).map (fun i=>(i.zero,i.size,i.bytes))=some (some (.string {data:=#[]}),1,16):=by kernel_rfl
theorem zqf (a:Option Addr) (O:Nat) (l:List ByteArray) (w:World) (hr:RowAt w a (fun x=>[Value.string x]) 1 l) (hl:l.length≤1048576):
  Calls Tryz.prog 46 #[.slice a l.length O] w fun e w'=>zeA w 9 1 l.length (l.flatMap (fun x=>[Value.string x])) e w':=by
 have HR:=zc hr
 clear hr
 obtain⟨i0,hi,X,Y,N⟩:=info_parts Tryz.infoTStr
 go_enter Tryz.func46,Tryz.ntmps46
 go_wp2_with (first|(at_make;refine wpList_make_full w rfl _ _ 22 rfl w.heap.size 9 i0 _ 1 Tryz.underlying22 hi X Y .i64 .i64 _ _ l.length (by rfl) (by rfl) rfl rfl (by rw[N];omega) (by unfold maxLen;omega) (Nat.le_refl _) ?_))
 intro I n o
 have J:=zc ((Below.refl _ _).grown o (Nat.le_refl _) (fun k h=>by cases h):Below w.heap.size w I)
 have q:Hid (OwnC I w.heap.size 9 1 w.heap.size l.length (l.flatMap (fun x=>[Value.string x])) 0):=⟨_,n,fun j hj=>absurd hj (Nat.not_lt_zero j)⟩
 clear n o
 obtain⟨g,z⟩: ∃g,g=w.heap.size:=⟨_,rfl⟩
 have U:=zc z
 rw[←z]
 rw[←z] at q
 have L:Hid (OwnC I w.heap.size 9 1 g l.length (l.flatMap (fun x=>[Value.string x])) 0):=by rw[←z];exact q.out
 clear z q
 go_wp2
 go_loopg [4] l.length (fun k i wr=>∃j:Nat,i= .int .i64 j∧j+k=l.length∧OwnC wr w.heap.size 9 1 g l.length (l.flatMap (fun x=>[Value.string x])) (j*1)∧Below w.heap.size w wr)
 case atStart=>exact⟨0,rfl,by omega,L.out,J.out⟩
 case round=>
  obtain⟨j,rfl,hj,ho,hb⟩:=hrel
  have H:=zc ho
  have Z:=zc hb
  clear ho hb
  by_cases M:j<l.length
  ·have D:(j:Int)<(l.length:Int):=by omega
   obtain⟨x,K⟩: ∃x,l[j]? =some x:=⟨_,List.getElem?_eq_getElem M⟩
   obtain⟨b,aa,rfl,hc⟩:=(HR.out.later Z.out).get K
   have HX:=zc K
   clear K
   have c0:=hc 0 _ rfl
   simp only[Nat.add_zero,Nat.mul_one] at c0
   clear hc
   obtain⟨E,A⟩: ∃E,E=j+1:=⟨_,rfl⟩
   have ej:(j:Int)+1=(E:Int):=by omega
   have HJ:=zc A
   clear A
   obtain⟨v0,g0⟩:=H.out.has (j*1) (by omega)
   have f0:=H.out.free (j*1)
   have HN:=zc (H.out.put (by omega) (zbx (f:=(fun x=>[Value.string x])) (m:=1) (fun _=>rfl) l j x 0 _ HX.out rfl))
   simp only[Nat.mul_one] at g0 f0
   have V:w.heap.size≤g:=by have:=U.out;omega
   go_wp2
   go_roundg (gk-1)
   case rel=>exact⟨E,rfl,by have:=HJ.out;omega,by have:=HN.out;simp only[Nat.mul_one] at this;rw[HJ.out,Nat.mul_one];exact this,(Z.out.setCell V _)⟩
   case measure=>omega
  ·have D: ¬(j:Int)<(l.length:Int):=by omega
   obtain rfl:j=l.length:=by omega
   go_wp2
   go_ret
   exact⟨g,rfl,H.out.all (ze9 (f:=(fun x=>[Value.string x])) (fun _=>rfl) l),Z.out⟩
theorem Tryz.infoTIm:(Tryz.prog.info? 100).map (fun i=>(i.zero,i.size,i.bytes))=some (some (.agg #[.string {data:=#[]},.string {data:=#[]},.string {data:=#[]}]),3,48):=by kernel_rfl
theorem zqg (x:Im) (w:World):
  Calls Tryz.prog 100 #[.agg #[.string x.spec,.string x.first,.string x.loc]] w fun e h=>e= .returned (.agg #[.string x.spec,.string x.first,.string x.loc])∧Below w.heap.size w h:=by
 go_enter Tryz.func100,Tryz.ntmps100
 go_wp2
 refine bodyPost_ret (results_cell_row rfl _ _ (w.heap.size+1) 100 #[.string x.spec,.string x.first,.string x.loc] (0,0) _ rfl ?_ Tryz.underlying100 rfl (by kernel_rfl)) rfl ?_
 ·rw[heap_alloc_old _ _ (by show _<((w.heap.push _).push _).size;simp)]
  exact heap_alloc2_new w _ _
 ·exact⟨rfl,(((Below.refl _ _).alloc (Nat.le_refl _) _).alloc (by show _≤(w.heap.push _).size;simp) _).alloc (by show _≤((w.heap.push _).push _).size;simp;omega) _⟩
theorem zqh (a:Option Addr) (aa:Nat) (l:List Im) (w:World) (hr:RowAt w a imL 3 l) (hl:l.length≤1048576):
  Calls Tryz.prog 47 #[.slice a l.length aa] w fun e w'=>zeA w 100 3 l.length (l.flatMap imL) e w':=by
 have HR:=zc hr
 clear hr
 obtain⟨i0,hi,ac,ad,Z⟩:=info_parts Tryz.infoTIm
 go_enter Tryz.func47,Tryz.ntmps47
 go_wp2_with (first|(at_make;refine wpList_make_full w rfl _ _ 23 rfl w.heap.size 100 i0 _ 3 Tryz.underlying23 hi ac ad .i64 .i64 _ _ l.length (by rfl) (by rfl) rfl rfl (by rw[Z];omega) (by unfold maxLen;omega) (Nat.le_refl _) ?_))
 intro N o q
 have O:=zc ((Below.refl _ _).grown q (Nat.le_refl _) (fun k h=>by cases h):Below w.heap.size w N)
 have z:Hid (OwnC N w.heap.size 100 3 w.heap.size l.length (l.flatMap imL) 0):=⟨_,o,fun j hj=>absurd hj (Nat.not_lt_zero j)⟩
 clear o q
 obtain⟨g,E⟩: ∃g,g=w.heap.size:=⟨_,rfl⟩
 have ab:=zc E
 rw[←E]
 rw[←E] at z
 have V:Hid (OwnC N w.heap.size 100 3 g l.length (l.flatMap imL) 0):=by rw[←E];exact z.out
 clear E z
 go_wp2
 go_loopg [4] l.length (fun k i wr=>∃j:Nat,i= .int .i64 j∧j+k=l.length∧OwnC wr w.heap.size 100 3 g l.length (l.flatMap imL) (j*3)∧Below w.heap.size w wr)
 case atStart=>exact⟨0,rfl,by omega,V.out,O.out⟩
 case round=>
  obtain⟨j,rfl,hj,ho,hb⟩:=hrel
  have HO:=zc ho
  have L:=zc hb
  clear ho hb
  by_cases Y:j<l.length
  ·have I:(j:Int)<(l.length:Int):=by omega
   obtain⟨x,U⟩: ∃x,l[j]? =some x:=⟨_,List.getElem?_eq_getElem Y⟩
   obtain⟨b,ae,rfl,K⟩:=(HR.out.later L.out).get U
   have M:=zc U
   clear U
   have c0:=K 0 _ rfl
   have c1:=K 1 _ rfl
   have c2:=K 2 _ rfl
   simp only[Nat.add_zero] at c0
   clear K
   obtain⟨J,H⟩: ∃J,J=j+1:=⟨_,rfl⟩
   have ej:(j:Int)+1=(J:Int):=by omega
   have HJ:=zc H
   clear H
   go_wp2_with fail
   refine (zqg x _).mono ?_
   rintro e w2 ⟨rfl,D⟩
   have n:=zc (HO.out.later D)
   have X:=zc (L.out.trans (D.mono L.out.size))
   clear D c0 c1 c2
   obtain⟨v0,g0⟩:=n.out.has (j*3) (by omega)
   have f0:=n.out.free (j*3)
   obtain⟨v1,g1⟩:=n.out.has (j*3+1) (by omega)
   have f1:=n.out.free (j*3+1)
   obtain⟨v2,g2⟩:=n.out.has (j*3+2) (by omega)
   have f2:=n.out.free (j*3+2)
   have HN:=zc (((n.out.put (by omega) (zbx (f:=imL) (m:=3) (fun _=>rfl) l j x 0 _ M.out rfl)).put (by omega) (zbx (f:=imL) (m:=3) (fun _=>rfl) l j x 1 _ M.out rfl)).put (by omega) (zbx (f:=imL) (m:=3) (fun _=>rfl) l j x 2 _ M.out rfl))
   have A:w.heap.size≤g:=by have:=ab.out;omega
   go_wp2
   go_roundg (gk-1)
   case rel=>exact⟨J,rfl,by have:=HJ.out;omega,by rw[HJ.out,Nat.succ_mul];exact HN.out,(((X.out.setCell A _).setCell A _).setCell A _)⟩
   case measure=>omega
  ·have I: ¬(j:Int)<(l.length:Int):=by omega
   obtain rfl:j=l.length:=by omega
   go_wp2
   go_ret
   exact⟨g,rfl,HO.out.all (ze9 (f:=imL) (fun _=>rfl) l),L.out⟩
theorem Tryz.infoTEp:(Tryz.prog.info? 102).map (fun i=>(i.zero,i.size,i.bytes))=some (some (.agg #[.int .i64 0,.string {data:=#[]},.string {data:=#[]},.string {data:=#[]}]),4,56):=by kernel_rfl
theorem zqi (x:Ep) (w:World):
  Calls Tryz.prog 101 #[.agg #[.int .i64 x.kind,.string x.name,.string x.loc,.string x.spec]] w fun e h=>e= .returned (.agg #[.int .i64 x.kind,.string x.name,.string x.loc,.string x.spec])∧Below w.heap.size w h:=by
 go_enter Tryz.func101,Tryz.ntmps101
 go_wp2
 refine bodyPost_ret (results_cell_row rfl _ _ (w.heap.size+1) 102 #[.int .i64 x.kind,.string x.name,.string x.loc,.string x.spec] (0,0) _ rfl ?_ Tryz.underlying102 rfl (by kernel_rfl)) rfl ?_
 ·rw[heap_alloc_old _ _ (by show _<((w.heap.push _).push _).size;simp)]
  exact heap_alloc2_new w _ _
 ·exact⟨rfl,(((Below.refl _ _).alloc (Nat.le_refl _) _).alloc (by show _≤(w.heap.push _).size;simp) _).alloc (by show _≤((w.heap.push _).push _).size;simp;omega) _⟩
theorem zqj (a:Option Addr) (aa:Nat) (l:List Ep) (w:World) (hr:RowAt w a epL 4 l) (hl:l.length≤1048576):
  Calls Tryz.prog 48 #[.slice a l.length aa] w fun e w'=>zeA w 102 4 l.length (l.flatMap epL) e w':=by
 have HR:=zc hr
 clear hr
 obtain⟨i0,hi,ac,ad,Z⟩:=info_parts Tryz.infoTEp
 go_enter Tryz.func48,Tryz.ntmps48
 go_wp2_with (first|(at_make;refine wpList_make_full w rfl _ _ 24 rfl w.heap.size 102 i0 _ 4 Tryz.underlying24 hi ac ad .i64 .i64 _ _ l.length (by rfl) (by rfl) rfl rfl (by rw[Z];omega) (by unfold maxLen;omega) (Nat.le_refl _) ?_))
 intro N o z
 have O:=zc ((Below.refl _ _).grown z (Nat.le_refl _) (fun k h=>by cases h):Below w.heap.size w N)
 have A:Hid (OwnC N w.heap.size 102 4 w.heap.size l.length (l.flatMap epL) 0):=⟨_,o,fun j hj=>absurd hj (Nat.not_lt_zero j)⟩
 clear o z
 obtain⟨g,E⟩: ∃g,g=w.heap.size:=⟨_,rfl⟩
 have ab:=zc E
 rw[←E]
 rw[←E] at A
 have V:Hid (OwnC N w.heap.size 102 4 g l.length (l.flatMap epL) 0):=by rw[←E];exact A.out
 clear E A
 go_wp2
 go_loopg [4] l.length (fun k i wr=>∃j:Nat,i= .int .i64 j∧j+k=l.length∧OwnC wr w.heap.size 102 4 g l.length (l.flatMap epL) (j*4)∧Below w.heap.size w wr)
 case atStart=>exact⟨0,rfl,by omega,V.out,O.out⟩
 case round=>
  obtain⟨j,rfl,hj,ho,hb⟩:=hrel
  have HO:=zc ho
  have M:=zc hb
  clear ho hb
  by_cases Y:j<l.length
  ·have J:(j:Int)<(l.length:Int):=by omega
   obtain⟨x,U⟩: ∃x,l[j]? =some x:=⟨_,List.getElem?_eq_getElem Y⟩
   obtain⟨b,ae,rfl,I⟩:=(HR.out.later M.out).get U
   have K:=zc U
   clear U
   have c0:=I 0 _ rfl
   have c1:=I 1 _ rfl
   have c2:=I 2 _ rfl
   have c3:=I 3 _ rfl
   simp only[Nat.add_zero] at c0
   clear I
   obtain⟨L,H⟩: ∃L,L=j+1:=⟨_,rfl⟩
   have ej:(j:Int)+1=(L:Int):=by omega
   have HJ:=zc H
   clear H
   go_wp2_with fail
   refine (zqi x _).mono ?_
   rintro e w2 ⟨rfl,D⟩
   have n:=zc (HO.out.later D)
   have X:=zc (M.out.trans (D.mono M.out.size))
   clear D c0 c1 c2 c3
   obtain⟨v0,g0⟩:=n.out.has (j*4) (by omega)
   have f0:=n.out.free (j*4)
   obtain⟨v1,g1⟩:=n.out.has (j*4+1) (by omega)
   have f1:=n.out.free (j*4+1)
   obtain⟨v2,g2⟩:=n.out.has (j*4+2) (by omega)
   have f2:=n.out.free (j*4+2)
   obtain⟨v3,g3⟩:=n.out.has (j*4+3) (by omega)
   have f3:=n.out.free (j*4+3)
   have HN:=zc ((((n.out.put (by omega) (zbx (f:=epL) (m:=4) (fun _=>rfl) l j x 0 _ K.out rfl)).put (by omega) (zbx (f:=epL) (m:=4) (fun _=>rfl) l j x 1 _ K.out rfl)).put (by omega) (zbx (f:=epL) (m:=4) (fun _=>rfl) l j x 2 _ K.out rfl)).put (by omega) (zbx (f:=epL) (m:=4) (fun _=>rfl) l j x 3 _ K.out rfl))
   have q:w.heap.size≤g:=by have:=ab.out;omega
   go_wp2
   go_roundg (gk-1)
   case rel=>exact⟨L,rfl,by have:=HJ.out;omega,by rw[HJ.out,Nat.succ_mul];exact HN.out,((((X.out.setCell q _).setCell q _).setCell q _).setCell q _)⟩
   case measure=>omega
  ·have J: ¬(j:Int)<(l.length:Int):=by omega
   obtain rfl:j=l.length:=by omega
   go_wp2
   go_ret
   exact⟨g,rfl,HO.out.all (ze9 (f:=epL) (fun _=>rfl) l),M.out⟩
theorem Tryz.infoTSm:(Tryz.prog.info? 106).map (fun i=>(i.zero,i.size,i.bytes))=some (some (.agg #[.int .i64 0,.string {data:=#[]},.int .i64 0]),3,32):=by kernel_rfl
theorem zqk (x:Sm) (w:World):
  Calls Tryz.prog 102 #[.agg #[.int .i64 x.kind,.string x.name,.int .i64 x.expr]] w fun e h=>e= .returned (.agg #[.int .i64 x.kind,.string x.name,.int .i64 x.expr])∧Below w.heap.size w h:=by
 go_enter Tryz.func102,Tryz.ntmps102
 go_wp2
 refine bodyPost_ret (results_cell_row rfl _ _ (w.heap.size+1) 106 #[.int .i64 x.kind,.string x.name,.int .i64 x.expr] (0,0) _ rfl ?_ Tryz.underlying106 rfl (by kernel_rfl)) rfl ?_
 ·rw[heap_alloc_old _ _ (by show _<((w.heap.push _).push _).size;simp)]
  exact heap_alloc2_new w _ _
 ·exact⟨rfl,(((Below.refl _ _).alloc (Nat.le_refl _) _).alloc (by show _≤(w.heap.push _).size;simp) _).alloc (by show _≤((w.heap.push _).push _).size;simp;omega) _⟩
theorem zql (a:Option Addr) (aa:Nat) (l:List Sm) (w:World) (hr:RowAt w a smL 3 l) (hl:l.length≤1048576):
  Calls Tryz.prog 49 #[.slice a l.length aa] w fun e w'=>zeA w 106 3 l.length (l.flatMap smL) e w':=by
 have HR:=zc hr
 clear hr
 obtain⟨i0,hi,ac,ad,Z⟩:=info_parts Tryz.infoTSm
 go_enter Tryz.func49,Tryz.ntmps49
 go_wp2_with (first|(at_make;refine wpList_make_full w rfl _ _ 25 rfl w.heap.size 106 i0 _ 3 Tryz.underlying25 hi ac ad .i64 .i64 _ _ l.length (by rfl) (by rfl) rfl rfl (by rw[Z];omega) (by unfold maxLen;omega) (Nat.le_refl _) ?_))
 intro N o q
 have O:=zc ((Below.refl _ _).grown q (Nat.le_refl _) (fun k h=>by cases h):Below w.heap.size w N)
 have z:Hid (OwnC N w.heap.size 106 3 w.heap.size l.length (l.flatMap smL) 0):=⟨_,o,fun j hj=>absurd hj (Nat.not_lt_zero j)⟩
 clear o q
 obtain⟨g,E⟩: ∃g,g=w.heap.size:=⟨_,rfl⟩
 have ab:=zc E
 rw[←E]
 rw[←E] at z
 have V:Hid (OwnC N w.heap.size 106 3 g l.length (l.flatMap smL) 0):=by rw[←E];exact z.out
 clear E z
 go_wp2
 go_loopg [4] l.length (fun k i wr=>∃j:Nat,i= .int .i64 j∧j+k=l.length∧OwnC wr w.heap.size 106 3 g l.length (l.flatMap smL) (j*3)∧Below w.heap.size w wr)
 case atStart=>exact⟨0,rfl,by omega,V.out,O.out⟩
 case round=>
  obtain⟨j,rfl,hj,ho,hb⟩:=hrel
  have HO:=zc ho
  have L:=zc hb
  clear ho hb
  by_cases Y:j<l.length
  ·have I:(j:Int)<(l.length:Int):=by omega
   obtain⟨x,U⟩: ∃x,l[j]? =some x:=⟨_,List.getElem?_eq_getElem Y⟩
   obtain⟨b,ae,rfl,K⟩:=(HR.out.later L.out).get U
   have M:=zc U
   clear U
   have c0:=K 0 _ rfl
   have c1:=K 1 _ rfl
   have c2:=K 2 _ rfl
   simp only[Nat.add_zero] at c0
   clear K
   obtain⟨J,H⟩: ∃J,J=j+1:=⟨_,rfl⟩
   have ej:(j:Int)+1=(J:Int):=by omega
   have HJ:=zc H
   clear H
   go_wp2_with fail
   refine (zqk x _).mono ?_
   rintro e w2 ⟨rfl,D⟩
   have n:=zc (HO.out.later D)
   have X:=zc (L.out.trans (D.mono L.out.size))
   clear D c0 c1 c2
   obtain⟨v0,g0⟩:=n.out.has (j*3) (by omega)
   have f0:=n.out.free (j*3)
   obtain⟨v1,g1⟩:=n.out.has (j*3+1) (by omega)
   have f1:=n.out.free (j*3+1)
   obtain⟨v2,g2⟩:=n.out.has (j*3+2) (by omega)
   have f2:=n.out.free (j*3+2)
   have HN:=zc (((n.out.put (by omega) (zbx (f:=smL) (m:=3) (fun _=>rfl) l j x 0 _ M.out rfl)).put (by omega) (zbx (f:=smL) (m:=3) (fun _=>rfl) l j x 1 _ M.out rfl)).put (by omega) (zbx (f:=smL) (m:=3) (fun _=>rfl) l j x 2 _ M.out rfl))
   have A:w.heap.size≤g:=by have:=ab.out;omega
   go_wp2
   go_roundg (gk-1)
   case rel=>exact⟨J,rfl,by have:=HJ.out;omega,by rw[HJ.out,Nat.succ_mul];exact HN.out,(((X.out.setCell A _).setCell A _).setCell A _)⟩
   case measure=>omega
  ·have I: ¬(j:Int)<(l.length:Int):=by omega
   obtain rfl:j=l.length:=by omega
   go_wp2
   go_ret
   exact⟨g,rfl,HO.out.all (ze9 (f:=smL) (fun _=>rfl) l),L.out⟩
theorem Tryz.infoTEx:(Tryz.prog.info? 108).map (fun i=>(i.zero,i.size,i.bytes))=some (some (.agg #[.int .i64 0,.int .i64 0,.string {data:=#[]},.string {data:=#[]},.int .i64 0,.int .i64 0]),6,64):=by kernel_rfl
theorem zqm (x:Ex) (w:World):
  Calls Tryz.prog 103 #[.agg #[.int .i64 x.kind,.int .i64 x.num,.string x.name,.string x.field,.int .i64 x.l,.int .i64 x.r]] w fun e h=>e= .returned (.agg #[.int .i64 x.kind,.int .i64 x.num,.string x.name,.string x.field,.int .i64 x.l,.int .i64 x.r])∧Below w.heap.size w h:=by
 go_enter Tryz.func103,Tryz.ntmps103
 go_wp2
 refine bodyPost_ret (results_cell_row rfl _ _ (w.heap.size+1) 108 #[.int .i64 x.kind,.int .i64 x.num,.string x.name,.string x.field,.int .i64 x.l,.int .i64 x.r] (0,0) _ rfl ?_ Tryz.underlying108 rfl (by kernel_rfl)) rfl ?_
 ·rw[heap_alloc_old _ _ (by show _<((w.heap.push _).push _).size;simp)]
  exact heap_alloc2_new w _ _
 ·exact⟨rfl,(((Below.refl _ _).alloc (Nat.le_refl _) _).alloc (by show _≤(w.heap.push _).size;simp) _).alloc (by show _≤((w.heap.push _).push _).size;simp;omega) _⟩
theorem zqn (a:Option Addr) (Z:Nat) (l:List Ex) (w:World) (hr:RowAt w a exL 6 l) (hl:l.length≤1048576):
  Calls Tryz.prog 50 #[.slice a l.length Z] w fun e w'=>zeA w 108 6 l.length (l.flatMap exL) e w':=by
 have HR:=zc hr
 clear hr
 obtain⟨i0,hi,ac,ad,aa⟩:=info_parts Tryz.infoTEx
 go_enter Tryz.func50,Tryz.ntmps50
 go_wp2_with (first|(at_make;refine wpList_make_full w rfl _ _ 26 rfl w.heap.size 108 i0 _ 6 Tryz.underlying26 hi ac ad .i64 .i64 _ _ l.length (by rfl) (by rfl) rfl rfl (by rw[aa];omega) (by unfold maxLen;omega) (Nat.le_refl _) ?_))
 intro N q z
 have O:=zc ((Below.refl _ _).grown z (Nat.le_refl _) (fun k h=>by cases h):Below w.heap.size w N)
 have A:Hid (OwnC N w.heap.size 108 6 w.heap.size l.length (l.flatMap exL) 0):=⟨_,q,fun j hj=>absurd hj (Nat.not_lt_zero j)⟩
 clear q z
 obtain⟨g,I⟩: ∃g,g=w.heap.size:=⟨_,rfl⟩
 have ab:=zc I
 rw[←I]
 rw[←I] at A
 have V:Hid (OwnC N w.heap.size 108 6 g l.length (l.flatMap exL) 0):=by rw[←I];exact A.out
 clear I A
 go_wp2
 go_loopg [4] l.length (fun k i wr=>∃j:Nat,i= .int .i64 j∧j+k=l.length∧OwnC wr w.heap.size 108 6 g l.length (l.flatMap exL) (j*6)∧Below w.heap.size w wr)
 case atStart=>exact⟨0,rfl,by omega,V.out,O.out⟩
 case round=>
  obtain⟨j,rfl,hj,ho,hb⟩:=hrel
  have HO:=zc ho
  have M:=zc hb
  clear ho hb
  by_cases Y:j<l.length
  ·have K:(j:Int)<(l.length:Int):=by omega
   obtain⟨x,U⟩: ∃x,l[j]? =some x:=⟨_,List.getElem?_eq_getElem Y⟩
   obtain⟨b,ae,rfl,D⟩:=(HR.out.later M.out).get U
   have H:=zc U
   clear U
   have c0:=D 0 _ rfl
   have c1:=D 1 _ rfl
   have c2:=D 2 _ rfl
   have c3:=D 3 _ rfl
   have c4:=D 4 _ rfl
   have c5:=D 5 _ rfl
   simp only[Nat.add_zero] at c0
   clear D
   obtain⟨L,J⟩: ∃L,L=j+1:=⟨_,rfl⟩
   have ej:(j:Int)+1=(L:Int):=by omega
   have HJ:=zc J
   clear J
   go_wp2_with fail
   refine (zqm x _).mono ?_
   rintro e w2 ⟨rfl,E⟩
   have n:=zc (HO.out.later E)
   have X:=zc (M.out.trans (E.mono M.out.size))
   clear E c0 c1 c2 c3 c4 c5
   obtain⟨v0,g0⟩:=n.out.has (j*6) (by omega)
   have f0:=n.out.free (j*6)
   obtain⟨v1,g1⟩:=n.out.has (j*6+1) (by omega)
   have f1:=n.out.free (j*6+1)
   obtain⟨v2,g2⟩:=n.out.has (j*6+2) (by omega)
   have f2:=n.out.free (j*6+2)
   obtain⟨v3,g3⟩:=n.out.has (j*6+3) (by omega)
   have f3:=n.out.free (j*6+3)
   obtain⟨v4,g4⟩:=n.out.has (j*6+4) (by omega)
   have f4:=n.out.free (j*6+4)
   obtain⟨v5,g5⟩:=n.out.has (j*6+5) (by omega)
   have f5:=n.out.free (j*6+5)
   have HN:=zc ((((((n.out.put (by omega) (zbx (f:=exL) (m:=6) (fun _=>rfl) l j x 0 _ H.out rfl)).put (by omega) (zbx (f:=exL) (m:=6) (fun _=>rfl) l j x 1 _ H.out rfl)).put (by omega) (zbx (f:=exL) (m:=6) (fun _=>rfl) l j x 2 _ H.out rfl)).put (by omega) (zbx (f:=exL) (m:=6) (fun _=>rfl) l j x 3 _ H.out rfl)).put (by omega) (zbx (f:=exL) (m:=6) (fun _=>rfl) l j x 4 _ H.out rfl)).put (by omega) (zbx (f:=exL) (m:=6) (fun _=>rfl) l j x 5 _ H.out rfl))
   have o:w.heap.size≤g:=by have:=ab.out;omega
   go_wp2
   go_roundg (gk-1)
   case rel=>exact⟨L,rfl,by have:=HJ.out;omega,by rw[HJ.out,Nat.succ_mul];exact HN.out,((((((X.out.setCell o _).setCell o _).setCell o _).setCell o _).setCell o _).setCell o _)⟩
   case measure=>omega
  ·have K: ¬(j:Int)<(l.length:Int):=by omega
   obtain rfl:j=l.length:=by omega
   go_wp2
   go_ret
   exact⟨g,rfl,HO.out.all (ze9 (f:=exL) (fun _=>rfl) l),M.out⟩
theorem zqo (l:List ByteArray):l.map Value.string=l.flatMap (fun x=>[Value.string x]):=by
 induction l with
 |nil=>rfl
 |cons x l h=>rw[List.map_cons,List.flatMap_cons,h];rfl
def zqp (w:World) (m:Md) (e:Ending) (w':World):Prop:=∃S,e= .returned (zt S m)∧OwnMd w' w.heap.size S m∧Below w.heap.size w w'
theorem zba {w:World} {j size n c i:Nat} {e:TypeId} {r:Rw} {xs:List Value} {u:Value} {A:Array Value} (h:OwnR w j e size r n xs) (D:w.heap[c]? =some (.cells A 28 (0,0))) (z:e≠28):OwnR (w.setCell ⟨c,i,none⟩ u) j e size r n xs:=
 h.keep fun k g=>heap_setCell_other w ⟨c,i,none⟩ k u fun q=>by
  obtain⟨_,_,E,o⟩:=h.typed g
  simp only at q
  rw[q,D] at o
  simp only[Option.some.injEq,Obj.cells.injEq] at o
  exact z o.2.1.symm
abbrev zqq (w:World) (b:Nat) (x0 x1 x2 x3 x4:Value):World:=((((w.setCell ⟨b,0,none⟩ x0).setCell ⟨b,1,none⟩ x1).setCell ⟨b,2,none⟩ x2).setCell ⟨b,3,none⟩ x3).setCell ⟨b,4,none⟩ x4
theorem zeD {w:World} {j size n c:Nat} {e:TypeId} {r:Rw} {xs:List Value} {U V N O K H E q J L:Value} (h:OwnR w j e size r n xs) (z:w.heap[c]? =some (.cells #[U,V,N,O,K] 28 (0,0))) (o:e≠28):OwnR (zqq w c H E q J L) j e size r n xs:=by
 have I:=zas (i:=0) (u:=H) z
 have A:=zas (i:=1) (u:=E) I
 have D:=zas (i:=2) (u:=q) A
 have M:=zas (i:=3) (u:=J) D
 exact zba (zba (zba (zba (zba h z o) I o) A o) D o) M o
theorem zg5 (A:MA) (m:Md) (w:World) (hr:ModIn w A m) (f1:m.rq.length≤1048576) (f2:m.im.length≤1048576) (f3:m.ep.length≤1048576) (f4:m.st.length≤1048576) (f5:m.ex.length≤1048576):
  Calls Tryz.prog 13 #[zcZ A m] w fun e w'=>zqp w m e w':=by
 have HR:=zc hr
 clear hr
 unfold zcZ
 go_enter Tryz.func13,Tryz.ntmps13
 go_upto_region 2 with fail
 obtain⟨n,ab⟩: ∃n,n=w.heap.size:=⟨_,rfl⟩
 rw[←ab]
 refine zah (R:=(fun W=>W.heap[n]? =some (.cells #[.slice A.a0 m.rq.length A.c0,.slice A.a1 m.im.length A.c1,.slice A.a2 m.ep.length A.c2,.slice A.a3 m.st.length A.c3,.slice A.a4 m.ex.length A.c4] 39 (0,0))∧W.heap[n+1]? =some (.cells #[.slice none 0 0,.slice none 0 0,.slice none 0 0,.slice none 0 0,.slice none 0 0] 28 (0,0))∧W.heap[n+2]? =some (.cells #[.slice none 0 0,.slice none 0 0,.slice none 0 0,.slice none 0 0,.slice none 0 0] 28 (0,0))∧Below w.heap.size w W)) ?_ ?_
 ·rw[ab]
  refine⟨?_,?_,?_,?_⟩
  ·rw[heap_alloc_old _ _ (by show _<((w.heap.push _).push _).size;simp;omega),heap_alloc_old _ _ (by show _<(w.heap.push _).size;simp)]
   exact heap_alloc_new w _
  ·rw[heap_alloc_old _ _ (by show _<((w.heap.push _).push _).size;simp)]
   exact heap_alloc2_new w _ _
  ·have:=heap_alloc_new ((w.alloc (.cells #[.slice A.a0 m.rq.length A.c0,.slice A.a1 m.im.length A.c1,.slice A.a2 m.ep.length A.c2,.slice A.a3 m.st.length A.c3,.slice A.a4 m.ex.length A.c4] 39)).alloc (.cells #[.slice none 0 0,.slice none 0 0,.slice none 0 0,.slice none 0 0,.slice none 0 0] 28)) (.cells #[.slice none 0 0,.slice none 0 0,.slice none 0 0,.slice none 0 0,.slice none 0 0] 28)
   simp only[zj] at this
   exact this
  ·exact (((Below.refl _ _).alloc (Nat.le_refl _) _).alloc (by show _≤(w.heap.push _).size;simp) _).alloc (by show _≤((w.heap.push _).push _).size;simp;omega) _
 have aa:w.heap.size≤n+2:=by omega
 have L:w.heap.size≤n+1:=by omega
 clear ab
 rintro W0 ⟨U,O,M,h⟩
 have X:=zc U
 have Y:=zc O
 have Z:=zc M
 have q:=zc h
 clear U O M h
 obtain⟨H,J,I,K,D,E⟩:=zk X.out
 go_wp2_with fail
 refine (zqf A.a0 A.c0 m.rq W0 (HR.out.later q.out).1 f1).mono ?_
 rintro e V0 ⟨g0,rfl,j,h⟩
 have V:=zc ((h.block _ (Array.getElem?_eq_some_iff.1 X.out).1).trans X.out)
 have Y2:=zc ((h.block _ (Array.getElem?_eq_some_iff.1 Y.out).1).trans Y.out)
 have o:=zc ((h.block _ (Array.getElem?_eq_some_iff.1 Z.out).1).trans Z.out)
 have z:=zc (q.out.trans (h.mono q.out.size))
 have P0:=zc (j.low q.out.size)
 clear j h H J I K D E X Y Z q
 obtain⟨H,J,I,K,D,E⟩:=zk o.out
 go_upto_region 3 with fail
 refine zah (R:=(fun W=>W.heap[n]? =some (.cells #[.slice A.a0 m.rq.length A.c0,.slice A.a1 m.im.length A.c1,.slice A.a2 m.ep.length A.c2,.slice A.a3 m.st.length A.c3,.slice A.a4 m.ex.length A.c4] 39 (0,0))∧W.heap[n+1]? =some (.cells #[.slice none 0 0,.slice none 0 0,.slice none 0 0,.slice none 0 0,.slice none 0 0] 28 (0,0))∧W.heap[n+2]? =some (.cells #[.slice (some ⟨g0,0,none⟩) m.rq.length m.rq.length,.slice none 0 0,.slice none 0 0,.slice none 0 0,.slice none 0 0] 28 (0,0))∧Below w.heap.size w W∧OwnR W w.heap.size 9 1 ⟨some ⟨g0,0,none⟩,m.rq.length⟩ m.rq.length (m.rq.flatMap (fun x=>[Value.string x])))) ⟨(heap_setCell_other _ _ _ _ (by show n≠n+2;omega)).trans V.out,(heap_setCell_other _ _ _ _ (by show n+1≠n+2;omega)).trans Y2.out,(zas o.out).trans (by simp),z.out.setCell aa _,zba P0.out o.out (by decide)⟩ ?_
 clear V Y2 o z H J I K D E P0
 rintro W1 ⟨U,O,M,h,o0⟩
 have X:=zc U
 have Y:=zc O
 have Z:=zc M
 have q:=zc h
 have N:=zc o0
 clear U O M h o0
 obtain⟨H,J,I,K,D,E⟩:=zk X.out
 go_wp2_with fail
 refine (zqh A.a1 A.c1 m.im W1 (HR.out.later q.out).2.1 f2).mono ?_
 rintro e V1 ⟨g1,rfl,j,h⟩
 have V:=zc ((h.block _ (Array.getElem?_eq_some_iff.1 X.out).1).trans X.out)
 have Y2:=zc ((h.block _ (Array.getElem?_eq_some_iff.1 Y.out).1).trans Y.out)
 have o:=zc ((h.block _ (Array.getElem?_eq_some_iff.1 Z.out).1).trans Z.out)
 have z:=zc (q.out.trans (h.mono q.out.size))
 have P0:=zc (N.out.keep fun k g=>h.block k (N.out.typed g).2.1)
 have P1:=zc (j.low q.out.size)
 clear j h H J I K D E X Y Z q N
 obtain⟨H,J,I,K,D,E⟩:=zk o.out
 go_upto_region 4 with fail
 refine zah (R:=(fun W=>W.heap[n]? =some (.cells #[.slice A.a0 m.rq.length A.c0,.slice A.a1 m.im.length A.c1,.slice A.a2 m.ep.length A.c2,.slice A.a3 m.st.length A.c3,.slice A.a4 m.ex.length A.c4] 39 (0,0))∧W.heap[n+1]? =some (.cells #[.slice none 0 0,.slice none 0 0,.slice none 0 0,.slice none 0 0,.slice none 0 0] 28 (0,0))∧W.heap[n+2]? =some (.cells #[.slice (some ⟨g0,0,none⟩) m.rq.length m.rq.length,.slice (some ⟨g1,0,none⟩) m.im.length m.im.length,.slice none 0 0,.slice none 0 0,.slice none 0 0] 28 (0,0))∧Below w.heap.size w W∧OwnR W w.heap.size 9 1 ⟨some ⟨g0,0,none⟩,m.rq.length⟩ m.rq.length (m.rq.flatMap (fun x=>[Value.string x]))∧OwnR W w.heap.size 100 3 ⟨some ⟨g1,0,none⟩,m.im.length⟩ m.im.length (m.im.flatMap imL))) ⟨(heap_setCell_other _ _ _ _ (by show n≠n+2;omega)).trans V.out,(heap_setCell_other _ _ _ _ (by show n+1≠n+2;omega)).trans Y2.out,(zas o.out).trans (by simp),z.out.setCell aa _,zba P0.out o.out (by decide),zba P1.out o.out (by decide)⟩ ?_
 clear V Y2 o z H J I K D E P0 P1
 rintro W2 ⟨U,O,M,h,o0,o1⟩
 have X:=zc U
 have Y:=zc O
 have Z:=zc M
 have q:=zc h
 have N:=zc o0
 have O1:=zc o1
 clear U O M h o0 o1
 obtain⟨H,J,I,K,D,E⟩:=zk X.out
 go_wp2_with fail
 refine (zqj A.a2 A.c2 m.ep W2 (HR.out.later q.out).2.2.1 f3).mono ?_
 rintro e V2 ⟨g2,rfl,j,h⟩
 have V:=zc ((h.block _ (Array.getElem?_eq_some_iff.1 X.out).1).trans X.out)
 have Y2:=zc ((h.block _ (Array.getElem?_eq_some_iff.1 Y.out).1).trans Y.out)
 have o:=zc ((h.block _ (Array.getElem?_eq_some_iff.1 Z.out).1).trans Z.out)
 have z:=zc (q.out.trans (h.mono q.out.size))
 have P0:=zc (N.out.keep fun k g=>h.block k (N.out.typed g).2.1)
 have P1:=zc (O1.out.keep fun k g=>h.block k (O1.out.typed g).2.1)
 have P2:=zc (j.low q.out.size)
 clear j h H J I K D E X Y Z q N O1
 obtain⟨H,J,I,K,D,E⟩:=zk o.out
 go_upto_region 5 with fail
 refine zah (R:=(fun W=>W.heap[n]? =some (.cells #[.slice A.a0 m.rq.length A.c0,.slice A.a1 m.im.length A.c1,.slice A.a2 m.ep.length A.c2,.slice A.a3 m.st.length A.c3,.slice A.a4 m.ex.length A.c4] 39 (0,0))∧W.heap[n+1]? =some (.cells #[.slice none 0 0,.slice none 0 0,.slice none 0 0,.slice none 0 0,.slice none 0 0] 28 (0,0))∧W.heap[n+2]? =some (.cells #[.slice (some ⟨g0,0,none⟩) m.rq.length m.rq.length,.slice (some ⟨g1,0,none⟩) m.im.length m.im.length,.slice (some ⟨g2,0,none⟩) m.ep.length m.ep.length,.slice none 0 0,.slice none 0 0] 28 (0,0))∧Below w.heap.size w W∧OwnR W w.heap.size 9 1 ⟨some ⟨g0,0,none⟩,m.rq.length⟩ m.rq.length (m.rq.flatMap (fun x=>[Value.string x]))∧OwnR W w.heap.size 100 3 ⟨some ⟨g1,0,none⟩,m.im.length⟩ m.im.length (m.im.flatMap imL)∧OwnR W w.heap.size 102 4 ⟨some ⟨g2,0,none⟩,m.ep.length⟩ m.ep.length (m.ep.flatMap epL))) ⟨(heap_setCell_other _ _ _ _ (by show n≠n+2;omega)).trans V.out,(heap_setCell_other _ _ _ _ (by show n+1≠n+2;omega)).trans Y2.out,(zas o.out).trans (by simp),z.out.setCell aa _,zba P0.out o.out (by decide),zba P1.out o.out (by decide),zba P2.out o.out (by decide)⟩ ?_
 clear V Y2 o z H J I K D E P0 P1 P2
 rintro W3 ⟨U,O,M,h,o0,o1,o2⟩
 have X:=zc U
 have Y:=zc O
 have Z:=zc M
 have q:=zc h
 have N:=zc o0
 have O1:=zc o1
 have O2:=zc o2
 clear U O M h o0 o1 o2
 obtain⟨H,J,I,K,D,E⟩:=zk X.out
 go_wp2_with fail
 refine (zql A.a3 A.c3 m.st W3 (HR.out.later q.out).2.2.2.1 f4).mono ?_
 rintro e V3 ⟨g3,rfl,j,h⟩
 have V:=zc ((h.block _ (Array.getElem?_eq_some_iff.1 X.out).1).trans X.out)
 have Y2:=zc ((h.block _ (Array.getElem?_eq_some_iff.1 Y.out).1).trans Y.out)
 have o:=zc ((h.block _ (Array.getElem?_eq_some_iff.1 Z.out).1).trans Z.out)
 have z:=zc (q.out.trans (h.mono q.out.size))
 have P0:=zc (N.out.keep fun k g=>h.block k (N.out.typed g).2.1)
 have P1:=zc (O1.out.keep fun k g=>h.block k (O1.out.typed g).2.1)
 have P2:=zc (O2.out.keep fun k g=>h.block k (O2.out.typed g).2.1)
 have P3:=zc (j.low q.out.size)
 clear j h H J I K D E X Y Z q N O1 O2
 obtain⟨H,J,I,K,D,E⟩:=zk o.out
 go_upto_region 6 with fail
 refine zah (R:=(fun W=>W.heap[n]? =some (.cells #[.slice A.a0 m.rq.length A.c0,.slice A.a1 m.im.length A.c1,.slice A.a2 m.ep.length A.c2,.slice A.a3 m.st.length A.c3,.slice A.a4 m.ex.length A.c4] 39 (0,0))∧W.heap[n+1]? =some (.cells #[.slice none 0 0,.slice none 0 0,.slice none 0 0,.slice none 0 0,.slice none 0 0] 28 (0,0))∧W.heap[n+2]? =some (.cells #[.slice (some ⟨g0,0,none⟩) m.rq.length m.rq.length,.slice (some ⟨g1,0,none⟩) m.im.length m.im.length,.slice (some ⟨g2,0,none⟩) m.ep.length m.ep.length,.slice (some ⟨g3,0,none⟩) m.st.length m.st.length,.slice none 0 0] 28 (0,0))∧Below w.heap.size w W∧OwnR W w.heap.size 9 1 ⟨some ⟨g0,0,none⟩,m.rq.length⟩ m.rq.length (m.rq.flatMap (fun x=>[Value.string x]))∧OwnR W w.heap.size 100 3 ⟨some ⟨g1,0,none⟩,m.im.length⟩ m.im.length (m.im.flatMap imL)∧OwnR W w.heap.size 102 4 ⟨some ⟨g2,0,none⟩,m.ep.length⟩ m.ep.length (m.ep.flatMap epL)∧OwnR W w.heap.size 106 3 ⟨some ⟨g3,0,none⟩,m.st.length⟩ m.st.length (m.st.flatMap smL))) ⟨(heap_setCell_other _ _ _ _ (by show n≠n+2;omega)).trans V.out,(heap_setCell_other _ _ _ _ (by show n+1≠n+2;omega)).trans Y2.out,(zas o.out).trans (by simp),z.out.setCell aa _,zba P0.out o.out (by decide),zba P1.out o.out (by decide),zba P2.out o.out (by decide),zba P3.out o.out (by decide)⟩ ?_
 clear V Y2 o z H J I K D E P0 P1 P2 P3
 rintro W4 ⟨U,O,M,h,o0,o1,o2,o3⟩
 have X:=zc U
 have Y:=zc O
 have Z:=zc M
 have q:=zc h
 have N:=zc o0
 have O1:=zc o1
 have O2:=zc o2
 have O3:=zc o3
 clear U O M h o0 o1 o2 o3
 obtain⟨H,J,I,K,D,E⟩:=zk X.out
 go_wp2_with fail
 refine (zqn A.a4 A.c4 m.ex W4 (HR.out.later q.out).2.2.2.2 f5).mono ?_
 rintro e V4 ⟨g4,rfl,j,h⟩
 have V:=zc ((h.block _ (Array.getElem?_eq_some_iff.1 X.out).1).trans X.out)
 have Y2:=zc ((h.block _ (Array.getElem?_eq_some_iff.1 Y.out).1).trans Y.out)
 have o:=zc ((h.block _ (Array.getElem?_eq_some_iff.1 Z.out).1).trans Z.out)
 have z:=zc (q.out.trans (h.mono q.out.size))
 have P0:=zc (N.out.keep fun k g=>h.block k (N.out.typed g).2.1)
 have P1:=zc (O1.out.keep fun k g=>h.block k (O1.out.typed g).2.1)
 have P2:=zc (O2.out.keep fun k g=>h.block k (O2.out.typed g).2.1)
 have P3:=zc (O3.out.keep fun k g=>h.block k (O3.out.typed g).2.1)
 have P4:=zc (j.low q.out.size)
 clear j h H J I K D E X Y Z q N O1 O2 O3
 obtain⟨H,J,I,K,D,E⟩:=zk o.out
 go_upto_region 7 with fail
 refine zah (R:=(fun W=>W.heap[n]? =some (.cells #[.slice A.a0 m.rq.length A.c0,.slice A.a1 m.im.length A.c1,.slice A.a2 m.ep.length A.c2,.slice A.a3 m.st.length A.c3,.slice A.a4 m.ex.length A.c4] 39 (0,0))∧W.heap[n+1]? =some (.cells #[.slice none 0 0,.slice none 0 0,.slice none 0 0,.slice none 0 0,.slice none 0 0] 28 (0,0))∧W.heap[n+2]? =some (.cells #[.slice (some ⟨g0,0,none⟩) m.rq.length m.rq.length,.slice (some ⟨g1,0,none⟩) m.im.length m.im.length,.slice (some ⟨g2,0,none⟩) m.ep.length m.ep.length,.slice (some ⟨g3,0,none⟩) m.st.length m.st.length,.slice (some ⟨g4,0,none⟩) m.ex.length m.ex.length] 28 (0,0))∧Below w.heap.size w W∧OwnR W w.heap.size 9 1 ⟨some ⟨g0,0,none⟩,m.rq.length⟩ m.rq.length (m.rq.flatMap (fun x=>[Value.string x]))∧OwnR W w.heap.size 100 3 ⟨some ⟨g1,0,none⟩,m.im.length⟩ m.im.length (m.im.flatMap imL)∧OwnR W w.heap.size 102 4 ⟨some ⟨g2,0,none⟩,m.ep.length⟩ m.ep.length (m.ep.flatMap epL)∧OwnR W w.heap.size 106 3 ⟨some ⟨g3,0,none⟩,m.st.length⟩ m.st.length (m.st.flatMap smL)∧OwnR W w.heap.size 108 6 ⟨some ⟨g4,0,none⟩,m.ex.length⟩ m.ex.length (m.ex.flatMap exL))) ⟨(heap_setCell_other _ _ _ _ (by show n≠n+2;omega)).trans V.out,(heap_setCell_other _ _ _ _ (by show n+1≠n+2;omega)).trans Y2.out,(zas o.out).trans (by simp),z.out.setCell aa _,zba P0.out o.out (by decide),zba P1.out o.out (by decide),zba P2.out o.out (by decide),zba P3.out o.out (by decide),zba P4.out o.out (by decide)⟩ ?_
 clear V Y2 o z H J I K D E P0 P1 P2 P3 P4
 rintro W5 ⟨U,O,M,h,o0,o1,o2,o3,o4⟩
 have Y:=zc O
 have Z:=zc M
 have q:=zc h
 have N:=zc o0
 have O1:=zc o1
 have O2:=zc o2
 have O3:=zc o3
 have O4:=zc o4
 clear U O M h o0 o1 o2 o3 o4
 obtain⟨H,J,I,K,D,E⟩:=zk Z.out
 obtain⟨d0,d1,d2,d3,d4,df⟩:=zk Y.out
 go_wp2
 refine bodyPost_ret (results_cell_row rfl _ _ (n+1) 28 #[.slice (some ⟨g0,0,none⟩) m.rq.length m.rq.length,.slice (some ⟨g1,0,none⟩) m.im.length m.im.length,.slice (some ⟨g2,0,none⟩) m.ep.length m.ep.length,.slice (some ⟨g3,0,none⟩) m.st.length m.st.length,.slice (some ⟨g4,0,none⟩) m.ex.length m.ex.length] (0,0) _ rfl ?_ Tryz.underlying28 rfl (by kernel_rfl)) rfl ?_
 ·exact zcU Y.out
 ·refine⟨⟨⟨some ⟨g0,0,none⟩,m.rq.length⟩,⟨some ⟨g1,0,none⟩,m.im.length⟩,⟨some ⟨g2,0,none⟩,m.ep.length⟩,⟨some ⟨g3,0,none⟩,m.st.length⟩,⟨some ⟨g4,0,none⟩,m.ex.length⟩,⟨none,0⟩⟩,rfl,⟨?_,?_,?_,?_,?_⟩,((((q.out.setCell L _).setCell L _).setCell L _).setCell L _).setCell L _⟩
  ·rw[zqo]
   exact zeD N.out Y.out (by decide)
  ·exact zeD O1.out Y.out (by decide)
  ·exact zeD O2.out Y.out (by decide)
  ·exact zeD O3.out Y.out (by decide)
  ·exact zeD O4.out Y.out (by decide)
end Go.Proofs.YticdggnnpjachaaGreat
