/-
 What the laws' size counters answer: the walks.
-/
import Derived.Test.YtjdddblpfbmpaaaGreatClSrcRow
import Derived.Test.YtjdddblpfbmpaaaGreatClTwoModToLawMark
namespace Go.Proofs.YtjdddblpfbmpaaaGreat
set_option maxRecDepth 100000
set_option maxHeartbeats 3200000
open Go.RowKit Go.PlainAid Go.Sort
def zeB (x:ByteArray):Prop:=x.size≤9223372036854775807
theorem zoN (a:Option Addr) (V:Nat) (l:List ByteArray) (left:Int) (w:World) (hr:RowAt w a (fun x=>[Value.string x]) 1 l) (hl:l.length≤9223372036854775807) (H: ∀x∈l,zeB x) (h0:0≤left) (h1:left≤1048576):
  Calls Tryz.prog 27 #[.slice a l.length V,.int .i64 left] w fun e w'=>zdo left (l.length+zq za2 l) e∧Below w.heap.size w w':=by
 have HR:=zc hr
 have HG:=zc H
 clear hr H
 by_cases aa:(l.length:Int)≤left
 case neg=>
  go_enter Tryz.func27,Tryz.ntmps27
  go_wp2
  go_ret
  exact⟨⟨-1,rfl,by omega,by omega,fun h=>by omega⟩,Below.refl _ _⟩
 go_enter Tryz.func27,Tryz.ntmps27
 go_wp2
 go_loopg [1,5] l.length (fun k s1 s5 wr=>∃(j:Nat) (z:Int),s5= .int .i64 j∧s1= .int .i64 z∧j+k=l.length∧0≤z∧z≤left∧z+((l.length+zq za2 (l.take j):Nat):Int)=left∧Below w.heap.size w wr)
 case atStart=>exact⟨0,_,rfl,rfl,by omega,by omega,by omega,by simp[zq],Below.refl _ _⟩
 case round=>
  obtain⟨j,z,rfl,rfl,hj,ab,Y,I,H⟩:=hrel
  have HZ:=zc I
  have N:=zc H
  clear I H
  by_cases U:j<l.length
  ·have L:(j:Int)<(l.length:Int):=by omega
   obtain⟨x,O⟩: ∃x,l[j]? =some x:=⟨_,List.getElem?_eq_getElem U⟩
   obtain⟨b,ac,rfl,hc⟩:=(HR.out.later N.out).get O
   have J:=HG.out x (List.mem_of_getElem? O)
   have HC:=zc (zfl za2 O)
   have c0:=hc 0 _ rfl
   simp only[Nat.add_zero,Nat.mul_one] at c0
   clear hc O
   obtain⟨M,A⟩: ∃M,M=j+1:=⟨_,rfl⟩
   have ej:(j:Int)+1=(M:Int):=by omega
   have Z:=zc A
   clear A
   unfold zeB at J
   by_cases X:0≤z-(x.size:Int)
   ·go_wp2
    go_roundg (gk-1)
    case rel=>exact⟨M,_,rfl,rfl,by have:=Z.out;omega,X,by omega,by have:=HZ.out;have:za2 x=x.size:=rfl;rw[Z.out,HC.out];omega,N.out⟩
    case measure=>omega
   ·go_wp2
    go_ret
    exact⟨⟨-1,rfl,by omega,by omega,fun h=>by omega⟩,N.out⟩
  ·have L: ¬(j:Int)<(l.length:Int):=by omega
   obtain rfl:j=l.length:=by omega
   go_wp2
   go_ret
   exact⟨⟨z,rfl,by omega,Y,fun _=>by have:=HZ.out;rw[List.take_length] at this;exact this⟩,N.out⟩
def zea (x:Im):Prop:=x.spec.size≤9223372036854775807∧x.first.size≤9223372036854775807∧x.loc.size≤9223372036854775807
theorem zoO (x:Im) (left:Int) (w:World) (j:zea x) (I:0≤left) (H:left≤1048576):
  Calls Tryz.prog 74 #[.agg #[.string x.spec,.string x.first,.string x.loc],.int .i64 left] w fun e w'=>zdo left (zbi x) e∧Below w.heap.size w w':=by
 unfold zea at j
 obtain⟨A,z,J⟩:=j
 go_enter Tryz.func74,Tryz.ntmps74
 go_wp2
 ·go_ret
  exact⟨⟨-1,rfl,by omega,by omega,fun h=>by omega⟩,(Below.refl _ _).alloc (Nat.le_refl _) _⟩
 ·go_ret
  exact⟨⟨-1,rfl,by omega,by omega,fun h=>by omega⟩,(Below.refl _ _).alloc (Nat.le_refl _) _⟩
 ·go_ret
  exact⟨⟨-1,rfl,by omega,by omega,fun h=>by omega⟩,(Below.refl _ _).alloc (Nat.le_refl _) _⟩
 ·go_ret
  exact⟨⟨_,rfl,by omega,by omega,fun _=>by unfold zbi;omega⟩,(Below.refl _ _).alloc (Nat.le_refl _) _⟩
theorem zoP (a:Option Addr) (ac:Nat) (l:List Im) (left:Int) (w:World) (hr:RowAt w a imL 3 l) (hl:l.length≤9223372036854775807) (I: ∀x∈l,zea x) (h0:0≤left) (h1:left≤1048576):
  Calls Tryz.prog 28 #[.slice a l.length ac,.int .i64 left] w fun e w'=>zdo left (l.length+zq zbi l) e∧Below w.heap.size w w':=by
 have HR:=zc hr
 have HG:=zc I
 clear hr I
 by_cases af:(l.length:Int)≤left
 case neg=>
  go_enter Tryz.func28,Tryz.ntmps28
  go_wp2
  go_ret
  exact⟨⟨-1,rfl,by omega,by omega,fun h=>by omega⟩,Below.refl _ _⟩
 go_enter Tryz.func28,Tryz.ntmps28
 go_wp2
 go_loopg [1,5] l.length (fun k s1 s5 wr=>∃(j:Nat) (z:Int),s5= .int .i64 j∧s1= .int .i64 z∧j+k=l.length∧0≤z∧z≤left∧z+((l.length+zq zbi (l.take j):Nat):Int)=left∧Below w.heap.size w wr)
 case atStart=>exact⟨0,_,rfl,rfl,by omega,by omega,by omega,by simp[zq],Below.refl _ _⟩
 case round=>
  obtain⟨j,z,rfl,rfl,hj,ab,ad,M,I⟩:=hrel
  have HZ:=zc M
  have X:=zc I
  clear M I
  by_cases aa:j<l.length
  ·have U:(j:Int)<(l.length:Int):=by omega
   obtain⟨x,Y⟩: ∃x,l[j]? =some x:=⟨_,List.getElem?_eq_getElem aa⟩
   obtain⟨b,ah,rfl,Z⟩:=(HR.out.later X.out).get Y
   have A:=HG.out x (List.mem_of_getElem? Y)
   have HC:=zc (zfl zbi Y)
   have c0:=Z 0 _ rfl
   have c1:=Z 1 _ rfl
   have c2:=Z 2 _ rfl
   simp only[Nat.add_zero] at c0
   clear Z Y
   obtain⟨V,H⟩: ∃V,V=j+1:=⟨_,rfl⟩
   have ej:(j:Int)+1=(V:Int):=by omega
   have HJ:=zc H
   clear H
   go_wp2_with fail
   refine (zoO x z _ A ab (by omega)).mono ?_
   rintro e w1 ⟨⟨z1,rfl,ai,ag,L⟩,O⟩
   have N:=zc (X.out.trans (O.mono X.out.size))
   have ae:=zc L
   clear O L A c0 c1 c2
   by_cases J:0≤z1
   ·go_wp2
    go_roundg (gk-1)
    case rel=>exact⟨V,z1,rfl,rfl,by have:=HJ.out;omega,J,by omega,by have:=HZ.out;have:=ae.out J;rw[HJ.out,HC.out];omega,N.out⟩
    case measure=>omega
   ·go_wp2
    go_ret
    exact⟨⟨-1,rfl,by omega,by omega,fun h=>by omega⟩,N.out⟩
  ·have U: ¬(j:Int)<(l.length:Int):=by omega
   obtain rfl:j=l.length:=by omega
   go_wp2
   go_ret
   exact⟨⟨z,rfl,by omega,ad,fun _=>by have:=HZ.out;rw[List.take_length] at this;exact this⟩,X.out⟩
def zeb (x:Ep):Prop:=x.name.size≤9223372036854775807∧x.loc.size≤9223372036854775807∧x.spec.size≤9223372036854775807
theorem zoQ (x:Ep) (left:Int) (w:World) (j:zeb x) (I:0≤left) (H:left≤1048576):
  Calls Tryz.prog 75 #[.agg #[.int .i64 x.kind,.string x.name,.string x.loc,.string x.spec],.int .i64 left] w fun e w'=>zdo left (zbj x) e∧Below w.heap.size w w':=by
 unfold zeb at j
 obtain⟨A,z,J⟩:=j
 go_enter Tryz.func75,Tryz.ntmps75
 go_wp2
 ·go_ret
  exact⟨⟨-1,rfl,by omega,by omega,fun h=>by omega⟩,(Below.refl _ _).alloc (Nat.le_refl _) _⟩
 ·go_ret
  exact⟨⟨-1,rfl,by omega,by omega,fun h=>by omega⟩,(Below.refl _ _).alloc (Nat.le_refl _) _⟩
 ·go_ret
  exact⟨⟨-1,rfl,by omega,by omega,fun h=>by omega⟩,(Below.refl _ _).alloc (Nat.le_refl _) _⟩
 ·go_ret
  exact⟨⟨_,rfl,by omega,by omega,fun _=>by unfold zbj;omega⟩,(Below.refl _ _).alloc (Nat.le_refl _) _⟩
theorem zoR (a:Option Addr) (ac:Nat) (l:List Ep) (left:Int) (w:World) (hr:RowAt w a epL 4 l) (hl:l.length≤9223372036854775807) (I: ∀x∈l,zeb x) (h0:0≤left) (h1:left≤1048576):
  Calls Tryz.prog 29 #[.slice a l.length ac,.int .i64 left] w fun e w'=>zdo left (l.length+zq zbj l) e∧Below w.heap.size w w':=by
 have HR:=zc hr
 have HG:=zc I
 clear hr I
 by_cases af:(l.length:Int)≤left
 case neg=>
  go_enter Tryz.func29,Tryz.ntmps29
  go_wp2
  go_ret
  exact⟨⟨-1,rfl,by omega,by omega,fun h=>by omega⟩,Below.refl _ _⟩
 go_enter Tryz.func29,Tryz.ntmps29
 go_wp2
 go_loopg [1,5] l.length (fun k s1 s5 wr=>∃(j:Nat) (z:Int),s5= .int .i64 j∧s1= .int .i64 z∧j+k=l.length∧0≤z∧z≤left∧z+((l.length+zq zbj (l.take j):Nat):Int)=left∧Below w.heap.size w wr)
 case atStart=>exact⟨0,_,rfl,rfl,by omega,by omega,by omega,by simp[zq],Below.refl _ _⟩
 case round=>
  obtain⟨j,z,rfl,rfl,hj,ab,ad,M,I⟩:=hrel
  have HZ:=zc M
  have Y:=zc I
  clear M I
  by_cases aa:j<l.length
  ·have U:(j:Int)<(l.length:Int):=by omega
   obtain⟨x,Z⟩: ∃x,l[j]? =some x:=⟨_,List.getElem?_eq_getElem aa⟩
   obtain⟨b,ah,rfl,V⟩:=(HR.out.later Y.out).get Z
   have A:=HG.out x (List.mem_of_getElem? Z)
   have HC:=zc (zfl zbj Z)
   have c0:=V 0 _ rfl
   have c1:=V 1 _ rfl
   have c2:=V 2 _ rfl
   have c3:=V 3 _ rfl
   simp only[Nat.add_zero] at c0
   clear V Z
   obtain⟨X,H⟩: ∃X,X=j+1:=⟨_,rfl⟩
   have ej:(j:Int)+1=(X:Int):=by omega
   have HJ:=zc H
   clear H
   go_wp2_with fail
   refine (zoQ x z _ A ab (by omega)).mono ?_
   rintro e w1 ⟨⟨z1,rfl,ai,ag,L⟩,O⟩
   have N:=zc (Y.out.trans (O.mono Y.out.size))
   have ae:=zc L
   clear O L A c0 c1 c2 c3
   by_cases J:0≤z1
   ·go_wp2
    go_roundg (gk-1)
    case rel=>exact⟨X,z1,rfl,rfl,by have:=HJ.out;omega,J,by omega,by have:=HZ.out;have:=ae.out J;rw[HJ.out,HC.out];omega,N.out⟩
    case measure=>omega
   ·go_wp2
    go_ret
    exact⟨⟨-1,rfl,by omega,by omega,fun h=>by omega⟩,N.out⟩
  ·have U: ¬(j:Int)<(l.length:Int):=by omega
   obtain rfl:j=l.length:=by omega
   go_wp2
   go_ret
   exact⟨⟨z,rfl,by omega,ad,fun _=>by have:=HZ.out;rw[List.take_length] at this;exact this⟩,Y.out⟩
def zec (x:Sm):Prop:=x.name.size≤9223372036854775807
theorem zoS (x:Sm) (left:Int) (w:World) (j:zec x) (A:0≤left) (z:left≤1048576):
  Calls Tryz.prog 76 #[.agg #[.int .i64 x.kind,.string x.name,.int .i64 x.expr],.int .i64 left] w fun e w'=>zdo left (zbZ x) e∧Below w.heap.size w w':=by
 unfold zec at j
 go_enter Tryz.func76,Tryz.ntmps76
 go_wp2
 ·go_ret
  exact⟨⟨-1,rfl,by omega,by omega,fun h=>by omega⟩,(Below.refl _ _).alloc (Nat.le_refl _) _⟩
 ·go_ret
  exact⟨⟨_,rfl,by omega,by omega,fun _=>by unfold zbZ;omega⟩,(Below.refl _ _).alloc (Nat.le_refl _) _⟩
theorem zoT (a:Option Addr) (ac:Nat) (l:List Sm) (left:Int) (w:World) (hr:RowAt w a smL 3 l) (hl:l.length≤9223372036854775807) (I: ∀x∈l,zec x) (h0:0≤left) (h1:left≤1048576):
  Calls Tryz.prog 30 #[.slice a l.length ac,.int .i64 left] w fun e w'=>zdo left (l.length+zq zbZ l) e∧Below w.heap.size w w':=by
 have HR:=zc hr
 have HG:=zc I
 clear hr I
 by_cases af:(l.length:Int)≤left
 case neg=>
  go_enter Tryz.func30,Tryz.ntmps30
  go_wp2
  go_ret
  exact⟨⟨-1,rfl,by omega,by omega,fun h=>by omega⟩,Below.refl _ _⟩
 go_enter Tryz.func30,Tryz.ntmps30
 go_wp2
 go_loopg [1,5] l.length (fun k s1 s5 wr=>∃(j:Nat) (z:Int),s5= .int .i64 j∧s1= .int .i64 z∧j+k=l.length∧0≤z∧z≤left∧z+((l.length+zq zbZ (l.take j):Nat):Int)=left∧Below w.heap.size w wr)
 case atStart=>exact⟨0,_,rfl,rfl,by omega,by omega,by omega,by simp[zq],Below.refl _ _⟩
 case round=>
  obtain⟨j,z,rfl,rfl,hj,ab,ad,M,I⟩:=hrel
  have HZ:=zc M
  have X:=zc I
  clear M I
  by_cases aa:j<l.length
  ·have U:(j:Int)<(l.length:Int):=by omega
   obtain⟨x,Y⟩: ∃x,l[j]? =some x:=⟨_,List.getElem?_eq_getElem aa⟩
   obtain⟨b,ah,rfl,Z⟩:=(HR.out.later X.out).get Y
   have A:=HG.out x (List.mem_of_getElem? Y)
   have HC:=zc (zfl zbZ Y)
   have c0:=Z 0 _ rfl
   have c1:=Z 1 _ rfl
   have c2:=Z 2 _ rfl
   simp only[Nat.add_zero] at c0
   clear Z Y
   obtain⟨V,H⟩: ∃V,V=j+1:=⟨_,rfl⟩
   have ej:(j:Int)+1=(V:Int):=by omega
   have HJ:=zc H
   clear H
   go_wp2_with fail
   refine (zoS x z _ A ab (by omega)).mono ?_
   rintro e w1 ⟨⟨z1,rfl,ai,ag,L⟩,O⟩
   have N:=zc (X.out.trans (O.mono X.out.size))
   have ae:=zc L
   clear O L A c0 c1 c2
   by_cases J:0≤z1
   ·go_wp2
    go_roundg (gk-1)
    case rel=>exact⟨V,z1,rfl,rfl,by have:=HJ.out;omega,J,by omega,by have:=HZ.out;have:=ae.out J;rw[HJ.out,HC.out];omega,N.out⟩
    case measure=>omega
   ·go_wp2
    go_ret
    exact⟨⟨-1,rfl,by omega,by omega,fun h=>by omega⟩,N.out⟩
  ·have U: ¬(j:Int)<(l.length:Int):=by omega
   obtain rfl:j=l.length:=by omega
   go_wp2
   go_ret
   exact⟨⟨z,rfl,by omega,ad,fun _=>by have:=HZ.out;rw[List.take_length] at this;exact this⟩,X.out⟩
def zed (x:Ex):Prop:=x.name.size≤9223372036854775807∧x.field.size≤9223372036854775807
theorem zoU (x:Ex) (left:Int) (w:World) (j:zed x) (I:0≤left) (H:left≤1048576):
  Calls Tryz.prog 77 #[.agg #[.int .i64 x.kind,.int .i64 x.num,.string x.name,.string x.field,.int .i64 x.l,.int .i64 x.r],.int .i64 left] w fun e w'=>zdo left (zcl x) e∧Below w.heap.size w w':=by
 unfold zed at j
 obtain⟨A,z⟩:=j
 go_enter Tryz.func77,Tryz.ntmps77
 go_wp2
 ·go_ret
  exact⟨⟨-1,rfl,by omega,by omega,fun h=>by omega⟩,(Below.refl _ _).alloc (Nat.le_refl _) _⟩
 ·go_ret
  exact⟨⟨-1,rfl,by omega,by omega,fun h=>by omega⟩,(Below.refl _ _).alloc (Nat.le_refl _) _⟩
 ·go_ret
  exact⟨⟨_,rfl,by omega,by omega,fun _=>by unfold zcl;omega⟩,(Below.refl _ _).alloc (Nat.le_refl _) _⟩
theorem zoV (a:Option Addr) (ac:Nat) (l:List Ex) (left:Int) (w:World) (hr:RowAt w a exL 6 l) (hl:l.length≤9223372036854775807) (J: ∀x∈l,zed x) (h0:0≤left) (h1:left≤1048576):
  Calls Tryz.prog 31 #[.slice a l.length ac,.int .i64 left] w fun e w'=>zdo left (l.length+zq zcl l) e∧Below w.heap.size w w':=by
 have HR:=zc hr
 have HG:=zc J
 clear hr J
 by_cases af:(l.length:Int)≤left
 case neg=>
  go_enter Tryz.func31,Tryz.ntmps31
  go_wp2
  go_ret
  exact⟨⟨-1,rfl,by omega,by omega,fun h=>by omega⟩,Below.refl _ _⟩
 go_enter Tryz.func31,Tryz.ntmps31
 go_wp2
 go_loopg [1,5] l.length (fun k s1 s5 wr=>∃(j:Nat) (z:Int),s5= .int .i64 j∧s1= .int .i64 z∧j+k=l.length∧0≤z∧z≤left∧z+((l.length+zq zcl (l.take j):Nat):Int)=left∧Below w.heap.size w wr)
 case atStart=>exact⟨0,_,rfl,rfl,by omega,by omega,by omega,by simp[zq],Below.refl _ _⟩
 case round=>
  obtain⟨j,z,rfl,rfl,hj,ab,ad,N,J⟩:=hrel
  have HZ:=zc N
  have Y:=zc J
  clear N J
  by_cases aa:j<l.length
  ·have V:(j:Int)<(l.length:Int):=by omega
   obtain⟨x,Z⟩: ∃x,l[j]? =some x:=⟨_,List.getElem?_eq_getElem aa⟩
   obtain⟨b,ah,rfl,H⟩:=(HR.out.later Y.out).get Z
   have A:=HG.out x (List.mem_of_getElem? Z)
   have HC:=zc (zfl zcl Z)
   have c0:=H 0 _ rfl
   have c1:=H 1 _ rfl
   have c2:=H 2 _ rfl
   have c3:=H 3 _ rfl
   have c4:=H 4 _ rfl
   have c5:=H 5 _ rfl
   simp only[Nat.add_zero] at c0
   clear H Z
   obtain⟨X,I⟩: ∃X,X=j+1:=⟨_,rfl⟩
   have ej:(j:Int)+1=(X:Int):=by omega
   have HJ:=zc I
   clear I
   go_wp2_with fail
   refine (zoU x z _ A ab (by omega)).mono ?_
   rintro e w1 ⟨⟨z1,rfl,ai,ag,M⟩,U⟩
   have O:=zc (Y.out.trans (U.mono Y.out.size))
   have ae:=zc M
   clear U M A c0 c1 c2 c3 c4 c5
   by_cases L:0≤z1
   ·go_wp2
    go_roundg (gk-1)
    case rel=>exact⟨X,z1,rfl,rfl,by have:=HJ.out;omega,L,by omega,by have:=HZ.out;have:=ae.out L;rw[HJ.out,HC.out];omega,O.out⟩
    case measure=>omega
   ·go_wp2
    go_ret
    exact⟨⟨-1,rfl,by omega,by omega,fun h=>by omega⟩,O.out⟩
  ·have V: ¬(j:Int)<(l.length:Int):=by omega
   obtain rfl:j=l.length:=by omega
   go_wp2
   go_ret
   exact⟨⟨z,rfl,by omega,ad,fun _=>by have:=HZ.out;rw[List.take_length] at this;exact this⟩,Y.out⟩
structure MA where
 a0:Option Addr
 a1:Option Addr
 a2:Option Addr
 a3:Option Addr
 a4:Option Addr
 c0:Nat
 c1:Nat
 c2:Nat
 c3:Nat
 c4:Nat
def zaW (A:MA) (m:Md):Value:=.agg #[.slice A.a0 m.rq.length A.c0,.slice A.a1 m.im.length A.c1,.slice A.a2 m.ep.length A.c2,.slice A.a3 m.st.length A.c3,.slice A.a4 m.ex.length A.c4]
def ModIn (w:World) (A:MA) (m:Md):Prop:=RowAt w A.a0 (fun x=>[Value.string x]) 1 m.rq∧RowAt w A.a1 imL 3 m.im∧RowAt w A.a2 epL 4 m.ep∧RowAt w A.a3 smL 3 m.st∧RowAt w A.a4 exL 6 m.ex
theorem ModIn.later {w w':World} {A:MA} {m:Md} (h:ModIn w A m) (j:Below w.heap.size w w'):ModIn w' A m:=⟨h.1.later j,h.2.1.later j,h.2.2.1.later j,h.2.2.2.1.later j,h.2.2.2.2.later j⟩
def zgq (m:Md):Prop:=(m.rq.length≤9223372036854775807∧∀x∈m.rq,zeB x)∧(m.im.length≤9223372036854775807∧∀x∈m.im,zea x)∧(m.ep.length≤9223372036854775807∧∀x∈m.ep,zeb x)∧(m.st.length≤9223372036854775807∧∀x∈m.st,zec x)∧(m.ex.length≤9223372036854775807∧∀x∈m.ex,zed x)
theorem zoW (A:MA) (m:Md) (left:Int) (w:World) (hr:ModIn w A m) (j:zgq m) (h0:0≤left) (h1:left≤1048576):
  Calls Tryz.prog 6 #[zaW A m,.int .i64 left] w fun e w'=>zdo left (zbb m) e∧Below w.heap.size w w':=by
 have HR:=zc hr
 have z:=zc j
 clear hr j
 unfold zaW
 go_enter Tryz.func6,Tryz.ntmps6
 go_upto_region 1 with fail
 have HW:Hid (Below w.heap.size w (w.alloc (.cells #[.slice A.a0 m.rq.length A.c0,.slice A.a1 m.im.length A.c1,.slice A.a2 m.ep.length A.c2,.slice A.a3 m.st.length A.c3,.slice A.a4 m.ex.length A.c4] 28))):=(Below.refl _ _).alloc (Nat.le_refl _) _
 refine zV (R:=fun W=>W.heap[w.heap.size]? =some (.cells #[.slice A.a0 m.rq.length A.c0,.slice A.a1 m.im.length A.c1,.slice A.a2 m.ep.length A.c2,.slice A.a3 m.st.length A.c3,.slice A.a4 m.ex.length A.c4] 28 (0,0))∧ModIn W A m∧Below w.heap.size w W) ⟨heap_alloc_new w _,HR.out.later HW.out,HW.out⟩ ?_
 obtain⟨gx,Y⟩: ∃gx,gx=w.heap.size:=⟨_,rfl⟩
 rw[←Y]
 rintro w0 ⟨hx,hm,j⟩
 rw[Y] at j
 clear Y HW HR
 have X0:=zc hx
 have M0:=zc hm
 have Z:=zc j
 clear hx hm j
 obtain⟨N,H,I,L,M,J⟩:=zg X0.out
 go_wp2_with fail
 refine (zoN A.a0 A.c0 m.rq left w0 M0.out.1 z.out.1.1 z.out.1.2 (by omega) (by omega)).mono ?_
 rintro e w1 ⟨⟨z0,rfl,y0,u0,v0⟩,j⟩
 have U:=zc (Z.out.trans (j.mono Z.out.size))
 have M1:=zc (M0.out.later j)
 have X1:=zc ((j.block _ (Array.getElem?_eq_some_iff.1 X0.out).1).trans X0.out)
 have V0:=zc v0
 clear j v0 N H I L M J
 obtain⟨N,H,I,L,M,J⟩:=zg X1.out
 by_cases t0:0≤z0
 case neg=>
  go_wp2
  go_ret
  exact⟨⟨-1,rfl,by omega,by omega,fun h=>by omega⟩,U.out⟩
 go_wp2_with fail
 refine (zoP A.a1 A.c1 m.im z0 w1 M1.out.2.1 z.out.2.1.1 z.out.2.1.2 (by omega) (by omega)).mono ?_
 rintro e w2 ⟨⟨z1,rfl,y1,u1,v1⟩,j⟩
 have V:=zc (U.out.trans (j.mono U.out.size))
 have M2:=zc (M1.out.later j)
 have X2:=zc ((j.block _ (Array.getElem?_eq_some_iff.1 X1.out).1).trans X1.out)
 have V1:=zc v1
 clear j v1 N H I L M J
 obtain⟨N,H,I,L,M,J⟩:=zg X2.out
 by_cases t1:0≤z1
 case neg=>
  go_wp2
  go_ret
  exact⟨⟨-1,rfl,by omega,by omega,fun h=>by omega⟩,V.out⟩
 go_wp2_with fail
 refine (zoR A.a2 A.c2 m.ep z1 w2 M2.out.2.2.1 z.out.2.2.1.1 z.out.2.2.1.2 (by omega) (by omega)).mono ?_
 rintro e w3 ⟨⟨z2,rfl,y2,u2,v2⟩,j⟩
 have O:=zc (V.out.trans (j.mono V.out.size))
 have M3:=zc (M2.out.later j)
 have X3:=zc ((j.block _ (Array.getElem?_eq_some_iff.1 X2.out).1).trans X2.out)
 have V2:=zc v2
 clear j v2 N H I L M J
 obtain⟨N,H,I,L,M,J⟩:=zg X3.out
 by_cases t2:0≤z2
 case neg=>
  go_wp2
  go_ret
  exact⟨⟨-1,rfl,by omega,by omega,fun h=>by omega⟩,O.out⟩
 go_wp2_with fail
 refine (zoT A.a3 A.c3 m.st z2 w3 M3.out.2.2.2.1 z.out.2.2.2.1.1 z.out.2.2.2.1.2 (by omega) (by omega)).mono ?_
 rintro e w4 ⟨⟨z3,rfl,y3,u3,v3⟩,j⟩
 have X:=zc (O.out.trans (j.mono O.out.size))
 have M4:=zc (M3.out.later j)
 have X4:=zc ((j.block _ (Array.getElem?_eq_some_iff.1 X3.out).1).trans X3.out)
 have V3:=zc v3
 clear j v3 N H I L M J
 obtain⟨N,H,I,L,M,J⟩:=zg X4.out
 by_cases t3:0≤z3
 case neg=>
  go_wp2
  go_ret
  exact⟨⟨-1,rfl,by omega,by omega,fun h=>by omega⟩,X.out⟩
 go_wp2_with fail
 refine (zoV A.a4 A.c4 m.ex z3 w4 M4.out.2.2.2.2 z.out.2.2.2.2.1 z.out.2.2.2.2.2 (by omega) (by omega)).mono ?_
 rintro e w5 ⟨⟨z4,rfl,y4,u4,v4⟩,j⟩
 have aa:=zc (X.out.trans (j.mono X.out.size))
 have M5:=zc (M4.out.later j)
 have X5:=zc ((j.block _ (Array.getElem?_eq_some_iff.1 X4.out).1).trans X4.out)
 have V4:=zc v4
 clear j v4 N H I L M J
 obtain⟨N,H,I,L,M,J⟩:=zg X5.out
 by_cases t4:0≤z4
 case neg=>
  go_wp2
  go_ret
  exact⟨⟨-1,rfl,by omega,by omega,fun h=>by omega⟩,aa.out⟩
 go_wp2
 go_ret
 exact⟨⟨z4,rfl,by omega,by omega,fun _=>by have q0:=V0.out t0;have q1:=V1.out t1;have q2:=V2.out t2;have q3:=V3.out t3;have q4:=V4.out t4;unfold zbb;omega⟩,aa.out⟩
end Go.Proofs.YtjdddblpfbmpaaaGreat