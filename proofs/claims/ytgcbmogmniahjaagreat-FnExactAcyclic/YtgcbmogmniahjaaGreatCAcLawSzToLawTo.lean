/-
  What the laws' size counters answer: the walks.
  What the laws' copiers answer: the walks.
-/
import Derived.Deep.Cut
import Derived.Test.YtgcbmogmniahjaaGreatCAcSrcRowToCostMath
namespace Go.Proofs.YtgcbmogmniahjaaGreat
set_option maxRecDepth 100000
set_option maxHeartbeats 3200000
open Go.RowKit Go.PlainAid Go.Sort
def zdR (x:ByteArray):Prop:=x.size≤9223372036854775807
theorem zky (a:Option Addr) (O:Nat) (l:List ByteArray) (left:Int) (w:World) (Y:RowAt w a (fun x=>[Value.string x]) 1 l) (hl:l.length≤9223372036854775807) (A: ∀x∈l,zdR x) (h0:0≤left) (h1:left≤1048576):
  Calls Tryz.prog 22 #[.slice a l.length O,.int .i64 left] w fun e w'=>zct left (l.length+zF zbZ l) e∧Below w.heap.size w w':=by
 have HR:=zc Y
 have HG:=zc A
 clear Y A
 by_cases aa:(l.length:Int)≤left
 case neg=>
  go_enter Tryz.func22,Tryz.ntmps22
  go_wp2
  go_ret
  exact⟨⟨-1,rfl,by omega,by omega,fun h=>by omega⟩,Below.refl _ _⟩
 go_enter Tryz.func22,Tryz.ntmps22
 go_wp2
 go_loopg [1,5] l.length (fun k s1 s5 wr=>∃(j:Nat) (z:Int),s5= .int .i64 j∧s1= .int .i64 z∧j+k=l.length∧0≤z∧z≤left∧z+((l.length+zF zbZ (l.take j):Nat):Int)=left∧Below w.heap.size w wr)
 case atStart=>exact⟨0,_,rfl,rfl,by omega,by omega,by omega,by simp[zF],Below.refl _ _⟩
 case round=>
  obtain⟨j,z,rfl,rfl,hj,ab,V,H,A⟩:=hrel
  have Z:=zc H
  have L:=zc A
  clear H A
  by_cases N:j<l.length
  ·have J:(j:Int)<(l.length:Int):=by omega
   obtain⟨x,M⟩: ∃x,l[j]? =some x:=⟨_,List.getElem?_eq_getElem N⟩
   obtain⟨b,ac,rfl,hc⟩:=(HR.out.later L.out).get M
   have I:=HG.out x (List.mem_of_getElem? M)
   have HC:=zc (zeo zbZ M)
   have c0:=hc 0 _ rfl
   simp only[Nat.add_zero,Nat.mul_one] at c0
   clear hc M
   obtain⟨K,q⟩: ∃K,K=j+1:=⟨_,rfl⟩
   have ej:(j:Int)+1=(K:Int):=by omega
   have X:=zc q
   clear q
   unfold zdR at I
   by_cases U:0≤z-(x.size:Int)
   ·go_wp2
    go_roundg (gk-1)
    case rel=>exact⟨K,_,rfl,rfl,by have:=X.out;omega,U,by omega,by have:=Z.out;have:zbZ x=x.size:=rfl;rw[X.out,HC.out];omega,L.out⟩
    case measure=>omega
   ·go_wp2
    go_ret
    exact⟨⟨-1,rfl,by omega,by omega,fun h=>by omega⟩,L.out⟩
  ·have J: ¬(j:Int)<(l.length:Int):=by omega
   obtain rfl:j=l.length:=by omega
   go_wp2
   go_ret
   exact⟨⟨z,rfl,by omega,V,fun _=>by have:=Z.out;rw[List.take_length] at this;exact this⟩,L.out⟩
def zep (x:Im):Prop:=x.spec.size≤9223372036854775807∧x.first.size≤9223372036854775807∧x.loc.size≤9223372036854775807
theorem zpL (x:Im) (left:Int) (w:World) (q:zep x) (I:0≤left) (H:left≤1048576):
  Calls Tryz.prog 107 #[.agg #[.string x.spec,.string x.first,.string x.loc],.int .i64 left] w fun e w'=>zct left (zca x) e∧Below w.heap.size w w':=by
 unfold zep at q
 obtain⟨A,z,J⟩:=q
 go_enter Tryz.func107,Tryz.ntmps107
 go_wp2
 ·go_ret
  exact⟨⟨-1,rfl,by omega,by omega,fun h=>by omega⟩,(Below.refl _ _).alloc (Nat.le_refl _) _⟩
 ·go_ret
  exact⟨⟨-1,rfl,by omega,by omega,fun h=>by omega⟩,(Below.refl _ _).alloc (Nat.le_refl _) _⟩
 ·go_ret
  exact⟨⟨-1,rfl,by omega,by omega,fun h=>by omega⟩,(Below.refl _ _).alloc (Nat.le_refl _) _⟩
 ·go_ret
  exact⟨⟨_,rfl,by omega,by omega,fun _=>by unfold zca;omega⟩,(Below.refl _ _).alloc (Nat.le_refl _) _⟩
theorem zpM (a:Option Addr) (aa:Nat) (l:List Im) (left:Int) (w:World) (hr:RowAt w a imL 3 l) (hl:l.length≤9223372036854775807) (H: ∀x∈l,zep x) (h0:0≤left) (h1:left≤1048576):
  Calls Tryz.prog 77 #[.slice a l.length aa,.int .i64 left] w fun e w'=>zct left (l.length+zF zca l) e∧Below w.heap.size w w':=by
 have HR:=zc hr
 have HG:=zc H
 clear hr H
 by_cases ad:(l.length:Int)≤left
 case neg=>
  go_enter Tryz.func77,Tryz.ntmps77
  go_wp2
  go_ret
  exact⟨⟨-1,rfl,by omega,by omega,fun h=>by omega⟩,Below.refl _ _⟩
 go_enter Tryz.func77,Tryz.ntmps77
 go_wp2
 go_loopg [1,5] l.length (fun k s1 s5 wr=>∃(j:Nat) (z:Int),s5= .int .i64 j∧s1= .int .i64 z∧j+k=l.length∧0≤z∧z≤left∧z+((l.length+zF zca (l.take j):Nat):Int)=left∧Below w.heap.size w wr)
 case atStart=>exact⟨0,_,rfl,rfl,by omega,by omega,by omega,by simp[zF],Below.refl _ _⟩
 case round=>
  obtain⟨j,z,rfl,rfl,hj,Z,ab,K,H⟩:=hrel
  have HZ:=zc K
  have U:=zc H
  clear K H
  by_cases Y:j<l.length
  ·have N:(j:Int)<(l.length:Int):=by omega
   obtain⟨x,V⟩: ∃x,l[j]? =some x:=⟨_,List.getElem?_eq_getElem Y⟩
   obtain⟨b,af,rfl,X⟩:=(HR.out.later U.out).get V
   have q:=HG.out x (List.mem_of_getElem? V)
   have HC:=zc (zeo zca V)
   have c0:=X 0 _ rfl
   have c1:=X 1 _ rfl
   have c2:=X 2 _ rfl
   simp only[Nat.add_zero] at c0
   clear X V
   obtain⟨O,A⟩: ∃O,O=j+1:=⟨_,rfl⟩
   have ej:(j:Int)+1=(O:Int):=by omega
   have HJ:=zc A
   clear A
   go_wp2_with fail
   refine (zpL x z _ q Z (by omega)).mono ?_
   rintro e w1 ⟨⟨z1,rfl,ag,ae,J⟩,M⟩
   have L:=zc (U.out.trans (M.mono U.out.size))
   have ac:=zc J
   clear M J q c0 c1 c2
   by_cases I:0≤z1
   ·go_wp2
    go_roundg (gk-1)
    case rel=>exact⟨O,z1,rfl,rfl,by have:=HJ.out;omega,I,by omega,by have:=HZ.out;have:=ac.out I;rw[HJ.out,HC.out];omega,L.out⟩
    case measure=>omega
   ·go_wp2
    go_ret
    exact⟨⟨-1,rfl,by omega,by omega,fun h=>by omega⟩,L.out⟩
  ·have N: ¬(j:Int)<(l.length:Int):=by omega
   obtain rfl:j=l.length:=by omega
   go_wp2
   go_ret
   exact⟨⟨z,rfl,by omega,ab,fun _=>by have:=HZ.out;rw[List.take_length] at this;exact this⟩,U.out⟩
def zeq (x:Ep):Prop:=x.name.size≤9223372036854775807∧x.loc.size≤9223372036854775807∧x.spec.size≤9223372036854775807
theorem zpN (x:Ep) (left:Int) (w:World) (q:zeq x) (I:0≤left) (H:left≤1048576):
  Calls Tryz.prog 108 #[.agg #[.int .i64 x.kind,.string x.name,.string x.loc,.string x.spec],.int .i64 left] w fun e w'=>zct left (zcb x) e∧Below w.heap.size w w':=by
 unfold zeq at q
 obtain⟨A,z,J⟩:=q
 go_enter Tryz.func108,Tryz.ntmps108
 go_wp2
 ·go_ret
  exact⟨⟨-1,rfl,by omega,by omega,fun h=>by omega⟩,(Below.refl _ _).alloc (Nat.le_refl _) _⟩
 ·go_ret
  exact⟨⟨-1,rfl,by omega,by omega,fun h=>by omega⟩,(Below.refl _ _).alloc (Nat.le_refl _) _⟩
 ·go_ret
  exact⟨⟨-1,rfl,by omega,by omega,fun h=>by omega⟩,(Below.refl _ _).alloc (Nat.le_refl _) _⟩
 ·go_ret
  exact⟨⟨_,rfl,by omega,by omega,fun _=>by unfold zcb;omega⟩,(Below.refl _ _).alloc (Nat.le_refl _) _⟩
theorem zpO (a:Option Addr) (aa:Nat) (l:List Ep) (left:Int) (w:World) (hr:RowAt w a epL 4 l) (hl:l.length≤9223372036854775807) (H: ∀x∈l,zeq x) (h0:0≤left) (h1:left≤1048576):
  Calls Tryz.prog 78 #[.slice a l.length aa,.int .i64 left] w fun e w'=>zct left (l.length+zF zcb l) e∧Below w.heap.size w w':=by
 have HR:=zc hr
 have HG:=zc H
 clear hr H
 by_cases ad:(l.length:Int)≤left
 case neg=>
  go_enter Tryz.func78,Tryz.ntmps78
  go_wp2
  go_ret
  exact⟨⟨-1,rfl,by omega,by omega,fun h=>by omega⟩,Below.refl _ _⟩
 go_enter Tryz.func78,Tryz.ntmps78
 go_wp2
 go_loopg [1,5] l.length (fun k s1 s5 wr=>∃(j:Nat) (z:Int),s5= .int .i64 j∧s1= .int .i64 z∧j+k=l.length∧0≤z∧z≤left∧z+((l.length+zF zcb (l.take j):Nat):Int)=left∧Below w.heap.size w wr)
 case atStart=>exact⟨0,_,rfl,rfl,by omega,by omega,by omega,by simp[zF],Below.refl _ _⟩
 case round=>
  obtain⟨j,z,rfl,rfl,hj,Z,ab,K,H⟩:=hrel
  have HZ:=zc K
  have V:=zc H
  clear K H
  by_cases Y:j<l.length
  ·have N:(j:Int)<(l.length:Int):=by omega
   obtain⟨x,X⟩: ∃x,l[j]? =some x:=⟨_,List.getElem?_eq_getElem Y⟩
   obtain⟨b,af,rfl,O⟩:=(HR.out.later V.out).get X
   have q:=HG.out x (List.mem_of_getElem? X)
   have HC:=zc (zeo zcb X)
   have c0:=O 0 _ rfl
   have c1:=O 1 _ rfl
   have c2:=O 2 _ rfl
   have c3:=O 3 _ rfl
   simp only[Nat.add_zero] at c0
   clear O X
   obtain⟨U,A⟩: ∃U,U=j+1:=⟨_,rfl⟩
   have ej:(j:Int)+1=(U:Int):=by omega
   have HJ:=zc A
   clear A
   go_wp2_with fail
   refine (zpN x z _ q Z (by omega)).mono ?_
   rintro e w1 ⟨⟨z1,rfl,ag,ae,J⟩,M⟩
   have L:=zc (V.out.trans (M.mono V.out.size))
   have ac:=zc J
   clear M J q c0 c1 c2 c3
   by_cases I:0≤z1
   ·go_wp2
    go_roundg (gk-1)
    case rel=>exact⟨U,z1,rfl,rfl,by have:=HJ.out;omega,I,by omega,by have:=HZ.out;have:=ac.out I;rw[HJ.out,HC.out];omega,L.out⟩
    case measure=>omega
   ·go_wp2
    go_ret
    exact⟨⟨-1,rfl,by omega,by omega,fun h=>by omega⟩,L.out⟩
  ·have N: ¬(j:Int)<(l.length:Int):=by omega
   obtain rfl:j=l.length:=by omega
   go_wp2
   go_ret
   exact⟨⟨z,rfl,by omega,ab,fun _=>by have:=HZ.out;rw[List.take_length] at this;exact this⟩,V.out⟩
def zer (x:Sm):Prop:=x.name.size≤9223372036854775807
theorem zpP (x:Sm) (left:Int) (w:World) (q:zer x) (A:0≤left) (z:left≤1048576):
  Calls Tryz.prog 109 #[.agg #[.int .i64 x.kind,.string x.name,.int .i64 x.expr],.int .i64 left] w fun e w'=>zct left (zcu x) e∧Below w.heap.size w w':=by
 unfold zer at q
 go_enter Tryz.func109,Tryz.ntmps109
 go_wp2
 ·go_ret
  exact⟨⟨-1,rfl,by omega,by omega,fun h=>by omega⟩,(Below.refl _ _).alloc (Nat.le_refl _) _⟩
 ·go_ret
  exact⟨⟨_,rfl,by omega,by omega,fun _=>by unfold zcu;omega⟩,(Below.refl _ _).alloc (Nat.le_refl _) _⟩
theorem zpQ (a:Option Addr) (aa:Nat) (l:List Sm) (left:Int) (w:World) (hr:RowAt w a smL 3 l) (hl:l.length≤9223372036854775807) (H: ∀x∈l,zer x) (h0:0≤left) (h1:left≤1048576):
  Calls Tryz.prog 79 #[.slice a l.length aa,.int .i64 left] w fun e w'=>zct left (l.length+zF zcu l) e∧Below w.heap.size w w':=by
 have HR:=zc hr
 have HG:=zc H
 clear hr H
 by_cases ad:(l.length:Int)≤left
 case neg=>
  go_enter Tryz.func79,Tryz.ntmps79
  go_wp2
  go_ret
  exact⟨⟨-1,rfl,by omega,by omega,fun h=>by omega⟩,Below.refl _ _⟩
 go_enter Tryz.func79,Tryz.ntmps79
 go_wp2
 go_loopg [1,5] l.length (fun k s1 s5 wr=>∃(j:Nat) (z:Int),s5= .int .i64 j∧s1= .int .i64 z∧j+k=l.length∧0≤z∧z≤left∧z+((l.length+zF zcu (l.take j):Nat):Int)=left∧Below w.heap.size w wr)
 case atStart=>exact⟨0,_,rfl,rfl,by omega,by omega,by omega,by simp[zF],Below.refl _ _⟩
 case round=>
  obtain⟨j,z,rfl,rfl,hj,Z,ab,K,H⟩:=hrel
  have HZ:=zc K
  have U:=zc H
  clear K H
  by_cases Y:j<l.length
  ·have N:(j:Int)<(l.length:Int):=by omega
   obtain⟨x,V⟩: ∃x,l[j]? =some x:=⟨_,List.getElem?_eq_getElem Y⟩
   obtain⟨b,af,rfl,X⟩:=(HR.out.later U.out).get V
   have q:=HG.out x (List.mem_of_getElem? V)
   have HC:=zc (zeo zcu V)
   have c0:=X 0 _ rfl
   have c1:=X 1 _ rfl
   have c2:=X 2 _ rfl
   simp only[Nat.add_zero] at c0
   clear X V
   obtain⟨O,A⟩: ∃O,O=j+1:=⟨_,rfl⟩
   have ej:(j:Int)+1=(O:Int):=by omega
   have HJ:=zc A
   clear A
   go_wp2_with fail
   refine (zpP x z _ q Z (by omega)).mono ?_
   rintro e w1 ⟨⟨z1,rfl,ag,ae,J⟩,M⟩
   have L:=zc (U.out.trans (M.mono U.out.size))
   have ac:=zc J
   clear M J q c0 c1 c2
   by_cases I:0≤z1
   ·go_wp2
    go_roundg (gk-1)
    case rel=>exact⟨O,z1,rfl,rfl,by have:=HJ.out;omega,I,by omega,by have:=HZ.out;have:=ac.out I;rw[HJ.out,HC.out];omega,L.out⟩
    case measure=>omega
   ·go_wp2
    go_ret
    exact⟨⟨-1,rfl,by omega,by omega,fun h=>by omega⟩,L.out⟩
  ·have N: ¬(j:Int)<(l.length:Int):=by omega
   obtain rfl:j=l.length:=by omega
   go_wp2
   go_ret
   exact⟨⟨z,rfl,by omega,ab,fun _=>by have:=HZ.out;rw[List.take_length] at this;exact this⟩,U.out⟩
def zes (x:Ex):Prop:=x.name.size≤9223372036854775807∧x.field.size≤9223372036854775807
theorem zpR (x:Ex) (left:Int) (w:World) (q:zes x) (I:0≤left) (H:left≤1048576):
  Calls Tryz.prog 110 #[.agg #[.int .i64 x.kind,.int .i64 x.num,.string x.name,.string x.field,.int .i64 x.l,.int .i64 x.r],.int .i64 left] w fun e w'=>zct left (zcJ x) e∧Below w.heap.size w w':=by
 unfold zes at q
 obtain⟨A,z⟩:=q
 go_enter Tryz.func110,Tryz.ntmps110
 go_wp2
 ·go_ret
  exact⟨⟨-1,rfl,by omega,by omega,fun h=>by omega⟩,(Below.refl _ _).alloc (Nat.le_refl _) _⟩
 ·go_ret
  exact⟨⟨-1,rfl,by omega,by omega,fun h=>by omega⟩,(Below.refl _ _).alloc (Nat.le_refl _) _⟩
 ·go_ret
  exact⟨⟨_,rfl,by omega,by omega,fun _=>by unfold zcJ;omega⟩,(Below.refl _ _).alloc (Nat.le_refl _) _⟩
theorem zpS (a:Option Addr) (aa:Nat) (l:List Ex) (left:Int) (w:World) (hr:RowAt w a exL 6 l) (hl:l.length≤9223372036854775807) (I: ∀x∈l,zes x) (h0:0≤left) (h1:left≤1048576):
  Calls Tryz.prog 80 #[.slice a l.length aa,.int .i64 left] w fun e w'=>zct left (l.length+zF zcJ l) e∧Below w.heap.size w w':=by
 have HR:=zc hr
 have HG:=zc I
 clear hr I
 by_cases ad:(l.length:Int)≤left
 case neg=>
  go_enter Tryz.func80,Tryz.ntmps80
  go_wp2
  go_ret
  exact⟨⟨-1,rfl,by omega,by omega,fun h=>by omega⟩,Below.refl _ _⟩
 go_enter Tryz.func80,Tryz.ntmps80
 go_wp2
 go_loopg [1,5] l.length (fun k s1 s5 wr=>∃(j:Nat) (z:Int),s5= .int .i64 j∧s1= .int .i64 z∧j+k=l.length∧0≤z∧z≤left∧z+((l.length+zF zcJ (l.take j):Nat):Int)=left∧Below w.heap.size w wr)
 case atStart=>exact⟨0,_,rfl,rfl,by omega,by omega,by omega,by simp[zF],Below.refl _ _⟩
 case round=>
  obtain⟨j,z,rfl,rfl,hj,Z,ab,L,I⟩:=hrel
  have HZ:=zc L
  have V:=zc I
  clear L I
  by_cases Y:j<l.length
  ·have O:(j:Int)<(l.length:Int):=by omega
   obtain⟨x,X⟩: ∃x,l[j]? =some x:=⟨_,List.getElem?_eq_getElem Y⟩
   obtain⟨b,af,rfl,A⟩:=(HR.out.later V.out).get X
   have q:=HG.out x (List.mem_of_getElem? X)
   have HC:=zc (zeo zcJ X)
   have c0:=A 0 _ rfl
   have c1:=A 1 _ rfl
   have c2:=A 2 _ rfl
   have c3:=A 3 _ rfl
   have c4:=A 4 _ rfl
   have c5:=A 5 _ rfl
   simp only[Nat.add_zero] at c0
   clear A X
   obtain⟨U,H⟩: ∃U,U=j+1:=⟨_,rfl⟩
   have ej:(j:Int)+1=(U:Int):=by omega
   have HJ:=zc H
   clear H
   go_wp2_with fail
   refine (zpR x z _ q Z (by omega)).mono ?_
   rintro e w1 ⟨⟨z1,rfl,ag,ae,K⟩,N⟩
   have M:=zc (V.out.trans (N.mono V.out.size))
   have ac:=zc K
   clear N K q c0 c1 c2 c3 c4 c5
   by_cases J:0≤z1
   ·go_wp2
    go_roundg (gk-1)
    case rel=>exact⟨U,z1,rfl,rfl,by have:=HJ.out;omega,J,by omega,by have:=HZ.out;have:=ac.out J;rw[HJ.out,HC.out];omega,M.out⟩
    case measure=>omega
   ·go_wp2
    go_ret
    exact⟨⟨-1,rfl,by omega,by omega,fun h=>by omega⟩,M.out⟩
  ·have O: ¬(j:Int)<(l.length:Int):=by omega
   obtain rfl:j=l.length:=by omega
   go_wp2
   go_ret
   exact⟨⟨z,rfl,by omega,ab,fun _=>by have:=HZ.out;rw[List.take_length] at this;exact this⟩,V.out⟩
structure MA where
 a0:Option Addr
 a1:Option Addr
 a2:Option Addr
 a3:Option Addr
 a4:Option Addr
 c0:Nat
 c1:Nat
 c2:Nat
 c3:Nat
 c4:Nat
def zfC (A:MA) (m:Md):Value:=.agg #[.slice A.a0 m.rq.length A.c0,.slice A.a1 m.im.length A.c1,.slice A.a2 m.ep.length A.c2,.slice A.a3 m.st.length A.c3,.slice A.a4 m.ex.length A.c4]
def ModIn (w:World) (A:MA) (m:Md):Prop:=RowAt w A.a0 (fun x=>[Value.string x]) 1 m.rq∧RowAt w A.a1 imL 3 m.im∧RowAt w A.a2 epL 4 m.ep∧RowAt w A.a3 smL 3 m.st∧RowAt w A.a4 exL 6 m.ex
theorem ModIn.later {w w':World} {A:MA} {m:Md} (h:ModIn w A m) (q:Below w.heap.size w w'):ModIn w' A m:=⟨h.1.later q,h.2.1.later q,h.2.2.1.later q,h.2.2.2.1.later q,h.2.2.2.2.later q⟩
def zfD (m:Md):Prop:=(m.rq.length≤9223372036854775807∧∀x∈m.rq,zdR x)∧(m.im.length≤9223372036854775807∧∀x∈m.im,zep x)∧(m.ep.length≤9223372036854775807∧∀x∈m.ep,zeq x)∧(m.st.length≤9223372036854775807∧∀x∈m.st,zer x)∧(m.ex.length≤9223372036854775807∧∀x∈m.ex,zes x)
theorem zpT (A:MA) (m:Md) (left:Int) (w:World) (hr:ModIn w A m) (q:zfD m) (h0:0≤left) (h1:left≤1048576):
  Calls Tryz.prog 51 #[zfC A m,.int .i64 left] w fun e w'=>zct left (zbv m) e∧Below w.heap.size w w':=by
 have HR:=zc hr
 have z:=zc q
 clear hr q
 unfold zfC
 go_enter Tryz.func51,Tryz.ntmps51
 go_upto_region 1 with fail
 have HW:Hid (Below w.heap.size w (w.alloc (.cells #[.slice A.a0 m.rq.length A.c0,.slice A.a1 m.im.length A.c1,.slice A.a2 m.ep.length A.c2,.slice A.a3 m.st.length A.c3,.slice A.a4 m.ex.length A.c4] 85))):=(Below.refl _ _).alloc (Nat.le_refl _) _
 refine zx (R:=fun W=>W.heap[w.heap.size]? =some (.cells #[.slice A.a0 m.rq.length A.c0,.slice A.a1 m.im.length A.c1,.slice A.a2 m.ep.length A.c2,.slice A.a3 m.st.length A.c3,.slice A.a4 m.ex.length A.c4] 85 (0,0))∧ModIn W A m∧Below w.heap.size w W) ⟨heap_alloc_new w _,HR.out.later HW.out,HW.out⟩ ?_
 obtain⟨gx,X⟩: ∃gx,gx=w.heap.size:=⟨_,rfl⟩
 rw[←X]
 rintro w0 ⟨hx,hm,q⟩
 rw[X] at q
 clear X HW HR
 have X0:=zc hx
 have M0:=zc hm
 have Y:=zc q
 clear hx hm q
 obtain⟨M,H,I,K,L,J⟩:=zj X0.out
 go_wp2_with fail
 refine (zky A.a0 A.c0 m.rq left w0 M0.out.1 z.out.1.1 z.out.1.2 (by omega) (by omega)).mono ?_
 rintro e w1 ⟨⟨z0,rfl,y0,u0,v0⟩,q⟩
 have O:=zc (Y.out.trans (q.mono Y.out.size))
 have M1:=zc (M0.out.later q)
 have X1:=zc ((q.block _ (Array.getElem?_eq_some_iff.1 X0.out).1).trans X0.out)
 have V0:=zc v0
 clear q v0 M H I K L J
 obtain⟨M,H,I,K,L,J⟩:=zj X1.out
 by_cases t0:0≤z0
 case neg=>
  go_wp2
  go_ret
  exact⟨⟨-1,rfl,by omega,by omega,fun h=>by omega⟩,O.out⟩
 go_wp2_with fail
 refine (zpM A.a1 A.c1 m.im z0 w1 M1.out.2.1 z.out.2.1.1 z.out.2.1.2 (by omega) (by omega)).mono ?_
 rintro e w2 ⟨⟨z1,rfl,y1,u1,v1⟩,q⟩
 have U:=zc (O.out.trans (q.mono O.out.size))
 have M2:=zc (M1.out.later q)
 have X2:=zc ((q.block _ (Array.getElem?_eq_some_iff.1 X1.out).1).trans X1.out)
 have V1:=zc v1
 clear q v1 M H I K L J
 obtain⟨M,H,I,K,L,J⟩:=zj X2.out
 by_cases t1:0≤z1
 case neg=>
  go_wp2
  go_ret
  exact⟨⟨-1,rfl,by omega,by omega,fun h=>by omega⟩,U.out⟩
 go_wp2_with fail
 refine (zpO A.a2 A.c2 m.ep z1 w2 M2.out.2.2.1 z.out.2.2.1.1 z.out.2.2.1.2 (by omega) (by omega)).mono ?_
 rintro e w3 ⟨⟨z2,rfl,y2,u2,v2⟩,q⟩
 have N:=zc (U.out.trans (q.mono U.out.size))
 have M3:=zc (M2.out.later q)
 have X3:=zc ((q.block _ (Array.getElem?_eq_some_iff.1 X2.out).1).trans X2.out)
 have V2:=zc v2
 clear q v2 M H I K L J
 obtain⟨M,H,I,K,L,J⟩:=zj X3.out
 by_cases t2:0≤z2
 case neg=>
  go_wp2
  go_ret
  exact⟨⟨-1,rfl,by omega,by omega,fun h=>by omega⟩,N.out⟩
 go_wp2_with fail
 refine (zpQ A.a3 A.c3 m.st z2 w3 M3.out.2.2.2.1 z.out.2.2.2.1.1 z.out.2.2.2.1.2 (by omega) (by omega)).mono ?_
 rintro e w4 ⟨⟨z3,rfl,y3,u3,v3⟩,q⟩
 have V:=zc (N.out.trans (q.mono N.out.size))
 have M4:=zc (M3.out.later q)
 have X4:=zc ((q.block _ (Array.getElem?_eq_some_iff.1 X3.out).1).trans X3.out)
 have V3:=zc v3
 clear q v3 M H I K L J
 obtain⟨M,H,I,K,L,J⟩:=zj X4.out
 by_cases t3:0≤z3
 case neg=>
  go_wp2
  go_ret
  exact⟨⟨-1,rfl,by omega,by omega,fun h=>by omega⟩,V.out⟩
 go_wp2_with fail
 refine (zpS A.a4 A.c4 m.ex z3 w4 M4.out.2.2.2.2 z.out.2.2.2.2.1 z.out.2.2.2.2.2 (by omega) (by omega)).mono ?_
 rintro e w5 ⟨⟨z4,rfl,y4,u4,v4⟩,q⟩
 have Z:=zc (V.out.trans (q.mono V.out.size))
 have M5:=zc (M4.out.later q)
 have X5:=zc ((q.block _ (Array.getElem?_eq_some_iff.1 X4.out).1).trans X4.out)
 have V4:=zc v4
 clear q v4 M H I K L J
 obtain⟨M,H,I,K,L,J⟩:=zj X5.out
 by_cases t4:0≤z4
 case neg=>
  go_wp2
  go_ret
  exact⟨⟨-1,rfl,by omega,by omega,fun h=>by omega⟩,Z.out⟩
 go_wp2
 go_ret
 exact⟨⟨z4,rfl,by omega,by omega,fun _=>by have q0:=V0.out t0;have q1:=V1.out t1;have q2:=V2.out t2;have q3:=V3.out t3;have q4:=V4.out t4;unfold zbv;omega⟩,Z.out⟩
theorem Tryz.infoTStr:(Tryz.prog.info? 9).map (fun i=>(i.zero,i.size,i.bytes))=some (some (.string {data:=#[]}),1,16):=by kernel_rfl
theorem zkz (a:Option Addr) (X:Nat) (l:List ByteArray) (w:World) (hr:RowAt w a (fun x=>[Value.string x]) 1 l) (hl:l.length≤1048576):
  Calls Tryz.prog 31 #[.slice a l.length X] w fun e w'=>zeP w 9 1 l.length (l.flatMap (fun x=>[Value.string x])) e w':=by
 have HR:=zc hr
 clear hr
 obtain⟨i0,hi,U,Y,Z⟩:=info_parts Tryz.infoTStr
 go_enter Tryz.func31,Tryz.ntmps31
 go_wp2_with (first|(at_make;refine wpList_make_full w rfl _ _ 22 rfl w.heap.size 9 i0 _ 1 Tryz.underlying22 hi U Y .i64 .i64 _ _ l.length (by rfl) (by rfl) rfl rfl (by rw[Z];omega) (by unfold maxLen;omega) (Nat.le_refl _) ?_))
 intro N q z
 have ab:=zc ((Below.refl _ _).grown z (Nat.le_refl _) (fun k h=>by cases h):Below w.heap.size w N)
 have A:Hid (OwnC N w.heap.size 9 1 w.heap.size l.length (l.flatMap (fun x=>[Value.string x])) 0):=⟨_,q,fun j hj=>absurd hj (Nat.not_lt_zero j)⟩
 clear q z
 obtain⟨g,I⟩: ∃g,g=w.heap.size:=⟨_,rfl⟩
 have aa:=zc I
 rw[←I]
 rw[←I] at A
 have ac:Hid (OwnC N w.heap.size 9 1 g l.length (l.flatMap (fun x=>[Value.string x])) 0):=by rw[←I];exact A.out
 clear I A
 go_wp2
 go_loopg [4] l.length (fun k i wr=>∃j:Nat,i= .int .i64 j∧j+k=l.length∧OwnC wr w.heap.size 9 1 g l.length (l.flatMap (fun x=>[Value.string x])) (j*1)∧Below w.heap.size w wr)
 case atStart=>exact⟨0,rfl,by omega,ac.out,ab.out⟩
 case round=>
  obtain⟨j,rfl,hj,ho,hb⟩:=hrel
  have L:=zc ho
  have V:=zc hb
  clear ho hb
  by_cases O:j<l.length
  ·have J:(j:Int)<(l.length:Int):=by omega
   obtain⟨x,hx⟩: ∃x,l[j]? =some x:=⟨_,List.getElem?_eq_getElem O⟩
   obtain⟨b,ad,rfl,hc⟩:=(HR.out.later V.out).get hx
   have HX:=zc hx
   clear hx
   have c0:=hc 0 _ rfl
   simp only[Nat.add_zero,Nat.mul_one] at c0
   clear hc
   obtain⟨K,H⟩: ∃K,K=j+1:=⟨_,rfl⟩
   have ej:(j:Int)+1=(K:Int):=by omega
   have HJ:=zc H
   clear H
   obtain⟨v0,g0⟩:=L.out.has (j*1) (by omega)
   have f0:=L.out.free (j*1)
   have HN:=zc (L.out.put (by omega) (zbm (f:=(fun x=>[Value.string x])) (m:=1) (fun _=>rfl) l j x 0 _ HX.out rfl))
   simp only[Nat.mul_one] at g0 f0
   have M:w.heap.size≤g:=by have:=aa.out;omega
   go_wp2
   go_roundg (gk-1)
   case rel=>exact⟨K,rfl,by have:=HJ.out;omega,by have:=HN.out;simp only[Nat.mul_one] at this;rw[HJ.out,Nat.mul_one];exact this,(V.out.setCell M _)⟩
   case measure=>omega
  ·have J: ¬(j:Int)<(l.length:Int):=by omega
   obtain rfl:j=l.length:=by omega
   go_wp2
   go_ret
   exact⟨g,rfl,L.out.all (zdQ (f:=(fun x=>[Value.string x])) (fun _=>rfl) l),V.out⟩
theorem Tryz.infoTIm:(Tryz.prog.info? 95).map (fun i=>(i.zero,i.size,i.bytes))=some (some (.agg #[.string {data:=#[]},.string {data:=#[]},.string {data:=#[]}]),3,48):=by kernel_rfl
theorem zpU (x:Im) (w:World):
  Calls Tryz.prog 126 #[.agg #[.string x.spec,.string x.first,.string x.loc]] w fun e w'=>e= .returned (.agg #[.string x.spec,.string x.first,.string x.loc])∧Below w.heap.size w w':=by
 go_enter Tryz.func126,Tryz.ntmps126
 go_wp2
 refine bodyPost_ret (results_cell_row rfl _ _ (w.heap.size+1) 95 #[.string x.spec,.string x.first,.string x.loc] (0,0) _ rfl ?_ Tryz.underlying95 rfl (by kernel_rfl)) rfl ?_
 ·rw[heap_alloc_old _ _ (by show _<((w.heap.push _).push _).size;simp)]
  exact heap_alloc2_new w _ _
 ·exact⟨rfl,(((Below.refl _ _).alloc (Nat.le_refl _) _).alloc (by show _≤(w.heap.push _).size;simp) _).alloc (by show _≤((w.heap.push _).push _).size;simp;omega) _⟩
theorem zpV (a:Option Addr) (Z:Nat) (l:List Im) (w:World) (hr:RowAt w a imL 3 l) (hl:l.length≤1048576):
  Calls Tryz.prog 89 #[.slice a l.length Z] w fun e w'=>zeP w 95 3 l.length (l.flatMap imL) e w':=by
 have HR:=zc hr
 clear hr
 obtain⟨i0,hi,Y,aa,ab⟩:=info_parts Tryz.infoTIm
 go_enter Tryz.func89,Tryz.ntmps89
 go_wp2_with (first|(at_make;refine wpList_make_full w rfl _ _ 49 rfl w.heap.size 95 i0 _ 3 Tryz.underlying49 hi Y aa .i64 .i64 _ _ l.length (by rfl) (by rfl) rfl rfl (by rw[ab];omega) (by unfold maxLen;omega) (Nat.le_refl _) ?_))
 intro V z A
 have ad:=zc ((Below.refl _ _).grown A (Nat.le_refl _) (fun k h=>by cases h):Below w.heap.size w V)
 have I:Hid (OwnC V w.heap.size 95 3 w.heap.size l.length (l.flatMap imL) 0):=⟨_,z,fun j hj=>absurd hj (Nat.not_lt_zero j)⟩
 clear z A
 obtain⟨g,L⟩: ∃g,g=w.heap.size:=⟨_,rfl⟩
 have ac:=zc L
 rw[←L]
 rw[←L] at I
 have ae:Hid (OwnC V w.heap.size 95 3 g l.length (l.flatMap imL) 0):=by rw[←L];exact I.out
 clear L I
 go_wp2
 go_loopg [4] l.length (fun k i wr=>∃j:Nat,i= .int .i64 j∧j+k=l.length∧OwnC wr w.heap.size 95 3 g l.length (l.flatMap imL) (j*3)∧Below w.heap.size w wr)
 case atStart=>exact⟨0,rfl,by omega,ae.out,ad.out⟩
 case round=>
  obtain⟨j,rfl,hj,ho,hb⟩:=hrel
  have HO:=zc ho
  have O:=zc hb
  clear ho hb
  by_cases X:j<l.length
  ·have M:(j:Int)<(l.length:Int):=by omega
   obtain⟨x,hx⟩: ∃x,l[j]? =some x:=⟨_,List.getElem?_eq_getElem X⟩
   obtain⟨b,ag,rfl,U⟩:=(HR.out.later O.out).get hx
   have HX:=zc hx
   clear hx
   have c0:=U 0 _ rfl
   have c1:=U 1 _ rfl
   have c2:=U 2 _ rfl
   simp only[Nat.add_zero] at c0
   clear U
   obtain⟨N,K⟩: ∃N,N=j+1:=⟨_,rfl⟩
   have ej:(j:Int)+1=(N:Int):=by omega
   have HJ:=zc K
   clear K
   go_wp2_with fail
   refine (zpU x _).mono ?_
   rintro e w2 ⟨rfl,J⟩
   have q:=zc (HO.out.later J)
   have af:=zc (O.out.trans (J.mono O.out.size))
   clear J c0 c1 c2
   obtain⟨v0,g0⟩:=q.out.has (j*3) (by omega)
   have f0:=q.out.free (j*3)
   obtain⟨v1,g1⟩:=q.out.has (j*3+1) (by omega)
   have f1:=q.out.free (j*3+1)
   obtain⟨v2,g2⟩:=q.out.has (j*3+2) (by omega)
   have f2:=q.out.free (j*3+2)
   have HN:=zc (((q.out.put (by omega) (zbm (f:=imL) (m:=3) (fun _=>rfl) l j x 0 _ HX.out rfl)).put (by omega) (zbm (f:=imL) (m:=3) (fun _=>rfl) l j x 1 _ HX.out rfl)).put (by omega) (zbm (f:=imL) (m:=3) (fun _=>rfl) l j x 2 _ HX.out rfl))
   have H:w.heap.size≤g:=by have:=ac.out;omega
   go_wp2
   go_roundg (gk-1)
   case rel=>exact⟨N,rfl,by have:=HJ.out;omega,by rw[HJ.out,Nat.succ_mul];exact HN.out,(((af.out.setCell H _).setCell H _).setCell H _)⟩
   case measure=>omega
  ·have M: ¬(j:Int)<(l.length:Int):=by omega
   obtain rfl:j=l.length:=by omega
   go_wp2
   go_ret
   exact⟨g,rfl,HO.out.all (zdQ (f:=imL) (fun _=>rfl) l),O.out⟩
theorem Tryz.infoTEp:(Tryz.prog.info? 97).map (fun i=>(i.zero,i.size,i.bytes))=some (some (.agg #[.int .i64 0,.string {data:=#[]},.string {data:=#[]},.string {data:=#[]}]),4,56):=by kernel_rfl
theorem zpW (x:Ep) (w:World):
  Calls Tryz.prog 127 #[.agg #[.int .i64 x.kind,.string x.name,.string x.loc,.string x.spec]] w fun e w'=>e= .returned (.agg #[.int .i64 x.kind,.string x.name,.string x.loc,.string x.spec])∧Below w.heap.size w w':=by
 go_enter Tryz.func127,Tryz.ntmps127
 go_wp2
 refine bodyPost_ret (results_cell_row rfl _ _ (w.heap.size+1) 97 #[.int .i64 x.kind,.string x.name,.string x.loc,.string x.spec] (0,0) _ rfl ?_ Tryz.underlying97 rfl (by kernel_rfl)) rfl ?_
 ·rw[heap_alloc_old _ _ (by show _<((w.heap.push _).push _).size;simp)]
  exact heap_alloc2_new w _ _
 ·exact⟨rfl,(((Below.refl _ _).alloc (Nat.le_refl _) _).alloc (by show _≤(w.heap.push _).size;simp) _).alloc (by show _≤((w.heap.push _).push _).size;simp;omega) _⟩
theorem zpX (a:Option Addr) (aa:Nat) (l:List Ep) (w:World) (hr:RowAt w a epL 4 l) (hl:l.length≤1048576):
  Calls Tryz.prog 90 #[.slice a l.length aa] w fun e w'=>zeP w 97 4 l.length (l.flatMap epL) e w':=by
 have HR:=zc hr
 clear hr
 obtain⟨i0,hi,Z,ab,ac⟩:=info_parts Tryz.infoTEp
 go_enter Tryz.func90,Tryz.ntmps90
 go_wp2_with (first|(at_make;refine wpList_make_full w rfl _ _ 50 rfl w.heap.size 97 i0 _ 4 Tryz.underlying50 hi Z ab .i64 .i64 _ _ l.length (by rfl) (by rfl) rfl rfl (by rw[ac];omega) (by unfold maxLen;omega) (Nat.le_refl _) ?_))
 intro X z H
 have ae:=zc ((Below.refl _ _).grown H (Nat.le_refl _) (fun k h=>by cases h):Below w.heap.size w X)
 have I:Hid (OwnC X w.heap.size 97 4 w.heap.size l.length (l.flatMap epL) 0):=⟨_,z,fun j hj=>absurd hj (Nat.not_lt_zero j)⟩
 clear z H
 obtain⟨g,L⟩: ∃g,g=w.heap.size:=⟨_,rfl⟩
 have ad:=zc L
 rw[←L]
 rw[←L] at I
 have af:Hid (OwnC X w.heap.size 97 4 g l.length (l.flatMap epL) 0):=by rw[←L];exact I.out
 clear L I
 go_wp2
 go_loopg [4] l.length (fun k i wr=>∃j:Nat,i= .int .i64 j∧j+k=l.length∧OwnC wr w.heap.size 97 4 g l.length (l.flatMap epL) (j*4)∧Below w.heap.size w wr)
 case atStart=>exact⟨0,rfl,by omega,af.out,ae.out⟩
 case round=>
  obtain⟨j,rfl,hj,ho,hb⟩:=hrel
  have HO:=zc ho
  have U:=zc hb
  clear ho hb
  by_cases Y:j<l.length
  ·have M:(j:Int)<(l.length:Int):=by omega
   obtain⟨x,hx⟩: ∃x,l[j]? =some x:=⟨_,List.getElem?_eq_getElem Y⟩
   obtain⟨b,ah,rfl,N⟩:=(HR.out.later U.out).get hx
   have V:=zc hx
   clear hx
   have c0:=N 0 _ rfl
   have c1:=N 1 _ rfl
   have c2:=N 2 _ rfl
   have c3:=N 3 _ rfl
   simp only[Nat.add_zero] at c0
   clear N
   obtain⟨O,K⟩: ∃O,O=j+1:=⟨_,rfl⟩
   have ej:(j:Int)+1=(O:Int):=by omega
   have HJ:=zc K
   clear K
   go_wp2_with fail
   refine (zpW x _).mono ?_
   rintro e w2 ⟨rfl,J⟩
   have q:=zc (HO.out.later J)
   have ag:=zc (U.out.trans (J.mono U.out.size))
   clear J c0 c1 c2 c3
   obtain⟨v0,g0⟩:=q.out.has (j*4) (by omega)
   have f0:=q.out.free (j*4)
   obtain⟨v1,g1⟩:=q.out.has (j*4+1) (by omega)
   have f1:=q.out.free (j*4+1)
   obtain⟨v2,g2⟩:=q.out.has (j*4+2) (by omega)
   have f2:=q.out.free (j*4+2)
   obtain⟨v3,g3⟩:=q.out.has (j*4+3) (by omega)
   have f3:=q.out.free (j*4+3)
   have HN:=zc ((((q.out.put (by omega) (zbm (f:=epL) (m:=4) (fun _=>rfl) l j x 0 _ V.out rfl)).put (by omega) (zbm (f:=epL) (m:=4) (fun _=>rfl) l j x 1 _ V.out rfl)).put (by omega) (zbm (f:=epL) (m:=4) (fun _=>rfl) l j x 2 _ V.out rfl)).put (by omega) (zbm (f:=epL) (m:=4) (fun _=>rfl) l j x 3 _ V.out rfl))
   have A:w.heap.size≤g:=by have:=ad.out;omega
   go_wp2
   go_roundg (gk-1)
   case rel=>exact⟨O,rfl,by have:=HJ.out;omega,by rw[HJ.out,Nat.succ_mul];exact HN.out,((((ag.out.setCell A _).setCell A _).setCell A _).setCell A _)⟩
   case measure=>omega
  ·have M: ¬(j:Int)<(l.length:Int):=by omega
   obtain rfl:j=l.length:=by omega
   go_wp2
   go_ret
   exact⟨g,rfl,HO.out.all (zdQ (f:=epL) (fun _=>rfl) l),U.out⟩
theorem Tryz.infoTSm:(Tryz.prog.info? 102).map (fun i=>(i.zero,i.size,i.bytes))=some (some (.agg #[.int .i64 0,.string {data:=#[]},.int .i64 0]),3,32):=by kernel_rfl
theorem zpY (x:Sm) (w:World):
  Calls Tryz.prog 128 #[.agg #[.int .i64 x.kind,.string x.name,.int .i64 x.expr]] w fun e w'=>e= .returned (.agg #[.int .i64 x.kind,.string x.name,.int .i64 x.expr])∧Below w.heap.size w w':=by
 go_enter Tryz.func128,Tryz.ntmps128
 go_wp2
 refine bodyPost_ret (results_cell_row rfl _ _ (w.heap.size+1) 102 #[.int .i64 x.kind,.string x.name,.int .i64 x.expr] (0,0) _ rfl ?_ Tryz.underlying102 rfl (by kernel_rfl)) rfl ?_
 ·rw[heap_alloc_old _ _ (by show _<((w.heap.push _).push _).size;simp)]
  exact heap_alloc2_new w _ _
 ·exact⟨rfl,(((Below.refl _ _).alloc (Nat.le_refl _) _).alloc (by show _≤(w.heap.push _).size;simp) _).alloc (by show _≤((w.heap.push _).push _).size;simp;omega) _⟩
theorem zpZ (a:Option Addr) (Z:Nat) (l:List Sm) (w:World) (hr:RowAt w a smL 3 l) (hl:l.length≤1048576):
  Calls Tryz.prog 91 #[.slice a l.length Z] w fun e w'=>zeP w 102 3 l.length (l.flatMap smL) e w':=by
 have HR:=zc hr
 clear hr
 obtain⟨i0,hi,Y,aa,ab⟩:=info_parts Tryz.infoTSm
 go_enter Tryz.func91,Tryz.ntmps91
 go_wp2_with (first|(at_make;refine wpList_make_full w rfl _ _ 51 rfl w.heap.size 102 i0 _ 3 Tryz.underlying51 hi Y aa .i64 .i64 _ _ l.length (by rfl) (by rfl) rfl rfl (by rw[ab];omega) (by unfold maxLen;omega) (Nat.le_refl _) ?_))
 intro V z A
 have ad:=zc ((Below.refl _ _).grown A (Nat.le_refl _) (fun k h=>by cases h):Below w.heap.size w V)
 have I:Hid (OwnC V w.heap.size 102 3 w.heap.size l.length (l.flatMap smL) 0):=⟨_,z,fun j hj=>absurd hj (Nat.not_lt_zero j)⟩
 clear z A
 obtain⟨g,L⟩: ∃g,g=w.heap.size:=⟨_,rfl⟩
 have ac:=zc L
 rw[←L]
 rw[←L] at I
 have ae:Hid (OwnC V w.heap.size 102 3 g l.length (l.flatMap smL) 0):=by rw[←L];exact I.out
 clear L I
 go_wp2
 go_loopg [4] l.length (fun k i wr=>∃j:Nat,i= .int .i64 j∧j+k=l.length∧OwnC wr w.heap.size 102 3 g l.length (l.flatMap smL) (j*3)∧Below w.heap.size w wr)
 case atStart=>exact⟨0,rfl,by omega,ae.out,ad.out⟩
 case round=>
  obtain⟨j,rfl,hj,ho,hb⟩:=hrel
  have HO:=zc ho
  have O:=zc hb
  clear ho hb
  by_cases X:j<l.length
  ·have M:(j:Int)<(l.length:Int):=by omega
   obtain⟨x,hx⟩: ∃x,l[j]? =some x:=⟨_,List.getElem?_eq_getElem X⟩
   obtain⟨b,ag,rfl,U⟩:=(HR.out.later O.out).get hx
   have HX:=zc hx
   clear hx
   have c0:=U 0 _ rfl
   have c1:=U 1 _ rfl
   have c2:=U 2 _ rfl
   simp only[Nat.add_zero] at c0
   clear U
   obtain⟨N,K⟩: ∃N,N=j+1:=⟨_,rfl⟩
   have ej:(j:Int)+1=(N:Int):=by omega
   have HJ:=zc K
   clear K
   go_wp2_with fail
   refine (zpY x _).mono ?_
   rintro e w2 ⟨rfl,J⟩
   have q:=zc (HO.out.later J)
   have af:=zc (O.out.trans (J.mono O.out.size))
   clear J c0 c1 c2
   obtain⟨v0,g0⟩:=q.out.has (j*3) (by omega)
   have f0:=q.out.free (j*3)
   obtain⟨v1,g1⟩:=q.out.has (j*3+1) (by omega)
   have f1:=q.out.free (j*3+1)
   obtain⟨v2,g2⟩:=q.out.has (j*3+2) (by omega)
   have f2:=q.out.free (j*3+2)
   have HN:=zc (((q.out.put (by omega) (zbm (f:=smL) (m:=3) (fun _=>rfl) l j x 0 _ HX.out rfl)).put (by omega) (zbm (f:=smL) (m:=3) (fun _=>rfl) l j x 1 _ HX.out rfl)).put (by omega) (zbm (f:=smL) (m:=3) (fun _=>rfl) l j x 2 _ HX.out rfl))
   have H:w.heap.size≤g:=by have:=ac.out;omega
   go_wp2
   go_roundg (gk-1)
   case rel=>exact⟨N,rfl,by have:=HJ.out;omega,by rw[HJ.out,Nat.succ_mul];exact HN.out,(((af.out.setCell H _).setCell H _).setCell H _)⟩
   case measure=>omega
  ·have M: ¬(j:Int)<(l.length:Int):=by omega
   obtain rfl:j=l.length:=by omega
   go_wp2
   go_ret
   exact⟨g,rfl,HO.out.all (zdQ (f:=smL) (fun _=>rfl) l),O.out⟩
theorem Tryz.infoTEx:(Tryz.prog.info? 100).map (fun i=>(i.zero,i.size,i.bytes))=some (some (.agg #[.int .i64 0,.int .i64 0,.string {data:=#[]},.string {data:=#[]},.int .i64 0,.int .i64 0]),6,64):=by kernel_rfl
theorem zqa (x:Ex) (w:World):
  Calls Tryz.prog 129 #[.agg #[.int .i64 x.kind,.int .i64 x.num,.string x.name,.string x.field,.int .i64 x.l,.int .i64 x.r]] w fun e w'=>e= .returned (.agg #[.int .i64 x.kind,.int .i64 x.num,.string x.name,.string x.field,.int .i64 x.l,.int .i64 x.r])∧Below w.heap.size w w':=by
 go_enter Tryz.func129,Tryz.ntmps129
 go_wp2
 refine bodyPost_ret (results_cell_row rfl _ _ (w.heap.size+1) 100 #[.int .i64 x.kind,.int .i64 x.num,.string x.name,.string x.field,.int .i64 x.l,.int .i64 x.r] (0,0) _ rfl ?_ Tryz.underlying100 rfl (by kernel_rfl)) rfl ?_
 ·rw[heap_alloc_old _ _ (by show _<((w.heap.push _).push _).size;simp)]
  exact heap_alloc2_new w _ _
 ·exact⟨rfl,(((Below.refl _ _).alloc (Nat.le_refl _) _).alloc (by show _≤(w.heap.push _).size;simp) _).alloc (by show _≤((w.heap.push _).push _).size;simp;omega) _⟩
theorem zqb (a:Option Addr) (aa:Nat) (l:List Ex) (w:World) (hr:RowAt w a exL 6 l) (hl:l.length≤1048576):
  Calls Tryz.prog 92 #[.slice a l.length aa] w fun e w'=>zeP w 100 6 l.length (l.flatMap exL) e w':=by
 have HR:=zc hr
 clear hr
 obtain⟨i0,hi,Z,ab,ac⟩:=info_parts Tryz.infoTEx
 go_enter Tryz.func92,Tryz.ntmps92
 go_wp2_with (first|(at_make;refine wpList_make_full w rfl _ _ 52 rfl w.heap.size 100 i0 _ 6 Tryz.underlying52 hi Z ab .i64 .i64 _ _ l.length (by rfl) (by rfl) rfl rfl (by rw[ac];omega) (by unfold maxLen;omega) (Nat.le_refl _) ?_))
 intro X A H
 have ae:=zc ((Below.refl _ _).grown H (Nat.le_refl _) (fun k h=>by cases h):Below w.heap.size w X)
 have I:Hid (OwnC X w.heap.size 100 6 w.heap.size l.length (l.flatMap exL) 0):=⟨_,A,fun j hj=>absurd hj (Nat.not_lt_zero j)⟩
 clear A H
 obtain⟨g,N⟩: ∃g,g=w.heap.size:=⟨_,rfl⟩
 have ad:=zc N
 rw[←N]
 rw[←N] at I
 have af:Hid (OwnC X w.heap.size 100 6 g l.length (l.flatMap exL) 0):=by rw[←N];exact I.out
 clear N I
 go_wp2
 go_loopg [4] l.length (fun k i wr=>∃j:Nat,i= .int .i64 j∧j+k=l.length∧OwnC wr w.heap.size 100 6 g l.length (l.flatMap exL) (j*6)∧Below w.heap.size w wr)
 case atStart=>exact⟨0,rfl,by omega,af.out,ae.out⟩
 case round=>
  obtain⟨j,rfl,hj,ho,hb⟩:=hrel
  have HO:=zc ho
  have V:=zc hb
  clear ho hb
  by_cases Y:j<l.length
  ·have O:(j:Int)<(l.length:Int):=by omega
   obtain⟨x,hx⟩: ∃x,l[j]? =some x:=⟨_,List.getElem?_eq_getElem Y⟩
   obtain⟨b,ah,rfl,K⟩:=(HR.out.later V.out).get hx
   have L:=zc hx
   clear hx
   have c0:=K 0 _ rfl
   have c1:=K 1 _ rfl
   have c2:=K 2 _ rfl
   have c3:=K 3 _ rfl
   have c4:=K 4 _ rfl
   have c5:=K 5 _ rfl
   simp only[Nat.add_zero] at c0
   clear K
   obtain⟨U,M⟩: ∃U,U=j+1:=⟨_,rfl⟩
   have ej:(j:Int)+1=(U:Int):=by omega
   have HJ:=zc M
   clear M
   go_wp2_with fail
   refine (zqa x _).mono ?_
   rintro e w2 ⟨rfl,J⟩
   have q:=zc (HO.out.later J)
   have ag:=zc (V.out.trans (J.mono V.out.size))
   clear J c0 c1 c2 c3 c4 c5
   obtain⟨v0,g0⟩:=q.out.has (j*6) (by omega)
   have f0:=q.out.free (j*6)
   obtain⟨v1,g1⟩:=q.out.has (j*6+1) (by omega)
   have f1:=q.out.free (j*6+1)
   obtain⟨v2,g2⟩:=q.out.has (j*6+2) (by omega)
   have f2:=q.out.free (j*6+2)
   obtain⟨v3,g3⟩:=q.out.has (j*6+3) (by omega)
   have f3:=q.out.free (j*6+3)
   obtain⟨v4,g4⟩:=q.out.has (j*6+4) (by omega)
   have f4:=q.out.free (j*6+4)
   obtain⟨v5,g5⟩:=q.out.has (j*6+5) (by omega)
   have f5:=q.out.free (j*6+5)
   have HN:=zc ((((((q.out.put (by omega) (zbm (f:=exL) (m:=6) (fun _=>rfl) l j x 0 _ L.out rfl)).put (by omega) (zbm (f:=exL) (m:=6) (fun _=>rfl) l j x 1 _ L.out rfl)).put (by omega) (zbm (f:=exL) (m:=6) (fun _=>rfl) l j x 2 _ L.out rfl)).put (by omega) (zbm (f:=exL) (m:=6) (fun _=>rfl) l j x 3 _ L.out rfl)).put (by omega) (zbm (f:=exL) (m:=6) (fun _=>rfl) l j x 4 _ L.out rfl)).put (by omega) (zbm (f:=exL) (m:=6) (fun _=>rfl) l j x 5 _ L.out rfl))
   have z:w.heap.size≤g:=by have:=ad.out;omega
   go_wp2
   go_roundg (gk-1)
   case rel=>exact⟨U,rfl,by have:=HJ.out;omega,by rw[HJ.out,Nat.succ_mul];exact HN.out,((((((ag.out.setCell z _).setCell z _).setCell z _).setCell z _).setCell z _).setCell z _)⟩
   case measure=>omega
  ·have O: ¬(j:Int)<(l.length:Int):=by omega
   obtain rfl:j=l.length:=by omega
   go_wp2
   go_ret
   exact⟨g,rfl,HO.out.all (zdQ (f:=exL) (fun _=>rfl) l),V.out⟩
end Go.Proofs.YtgcbmogmniahjaaGreat
