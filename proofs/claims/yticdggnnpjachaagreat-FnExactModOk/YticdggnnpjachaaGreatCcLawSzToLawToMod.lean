/-
  What the laws' size counters answer: the walks.
  What the laws' copiers answer: the walks.
  What the laws' toMod answers: the walk.
-/
import Derived.Deep.Cut
import Derived.Test.YticdggnnpjachaaGreatCcSrcRowToCostMath
namespace Go.Proofs.YticdggnnpjachaaGreat
set_option maxRecDepth 100000
set_option maxHeartbeats 6400000
open Go.RowKit Go.PlainAid Go.Sort
def zea (x:ByteArray):Prop:=x.size≤9223372036854775807
theorem zpV (a:Option Addr) (M:Nat) (l:List ByteArray) (left:Int) (w:World) (O:RowAt w a (fun x=>[Value.string x]) 1 l) (hl:l.length≤9223372036854775807) (D: ∀x∈l,zea x) (h0:0≤left) (h1:left≤1048576):
  Calls Tryz.prog 40 #[.slice a l.length M,.int .i64 left] w fun e w'=>zcG left (l.length+zQ zca l) e∧Below w.heap.size w w':=by
 have X:=zc O
 have HG:=zc D
 clear O D
 by_cases aa:(l.length:Int)≤left
 case neg=>
  go_enter Tryz.func40,Tryz.ntmps40
  go_wp2
  go_ret
  exact⟨⟨-1,rfl,by omega,by omega,fun h=>by omega⟩,Below.refl _ _⟩
 go_enter Tryz.func40,Tryz.ntmps40
 go_wp2
 go_loopg [1,5] l.length (fun k Y s5 wr=>∃(j:Nat) (z:Int),s5= .int .i64 j∧Y= .int .i64 z∧j+k=l.length∧0≤z∧z≤left∧z+((l.length+zQ zca (l.take j):Nat):Int)=left∧Below w.heap.size w wr)
 case atStart=>exact⟨0,_,rfl,rfl,by omega,by omega,by omega,by simp[zQ],Below.refl _ _⟩
 case round=>
  obtain⟨j,z,rfl,rfl,hj,ab,K,A,D⟩:=hrel
  have N:=zc A
  have I:=zc D
  clear A D
  by_cases L:j<l.length
  ·have o:(j:Int)<(l.length:Int):=by omega
   obtain⟨x,E⟩: ∃x,l[j]? =some x:=⟨_,List.getElem?_eq_getElem L⟩
   obtain⟨b,Z,rfl,U⟩:=(X.out.later I.out).get E
   have q:=HG.out x (List.mem_of_getElem? E)
   have HC:=zc (zeC zca E)
   have c0:=U 0 _ rfl
   simp only[Nat.add_zero,Nat.mul_one] at c0
   clear U E
   obtain⟨H,n⟩: ∃H,H=j+1:=⟨_,rfl⟩
   have ej:(j:Int)+1=(H:Int):=by omega
   have V:=zc n
   clear n
   unfold zea at q
   by_cases J:0≤z-(x.size:Int)
   ·go_wp2
    go_roundg (gk-1)
    case rel=>exact⟨H,_,rfl,rfl,by have:=V.out;omega,J,by omega,by have:=N.out;have:zca x=x.size:=rfl;rw[V.out,HC.out];omega,I.out⟩
    case measure=>omega
   ·go_wp2
    go_ret
    exact⟨⟨-1,rfl,by omega,by omega,fun h=>by omega⟩,I.out⟩
  ·have o: ¬(j:Int)<(l.length:Int):=by omega
   obtain rfl:j=l.length:=by omega
   go_wp2
   go_ret
   exact⟨⟨z,rfl,by omega,K,fun _=>by have:=N.out;rw[List.take_length] at this;exact this⟩,I.out⟩
def zdz (x:Im):Prop:=x.spec.size≤9223372036854775807∧x.first.size≤9223372036854775807∧x.loc.size≤9223372036854775807
theorem zpW (x:Im) (left:Int) (w:World) (j:zdz x) (o:0≤left) (D:left≤1048576):
  Calls Tryz.prog 96 #[.agg #[.string x.spec,.string x.first,.string x.loc],.int .i64 left] w fun e n=>zcG left (zbE x) e∧Below w.heap.size w n:=by
 unfold zdz at j
 obtain⟨q,z,A⟩:=j
 go_enter Tryz.func96,Tryz.ntmps96
 go_wp2
 ·go_ret
  exact⟨⟨-1,rfl,by omega,by omega,fun h=>by omega⟩,(Below.refl _ _).alloc (Nat.le_refl _) _⟩
 ·go_ret
  exact⟨⟨-1,rfl,by omega,by omega,fun h=>by omega⟩,(Below.refl _ _).alloc (Nat.le_refl _) _⟩
 ·go_ret
  exact⟨⟨-1,rfl,by omega,by omega,fun h=>by omega⟩,(Below.refl _ _).alloc (Nat.le_refl _) _⟩
 ·go_ret
  exact⟨⟨_,rfl,by omega,by omega,fun _=>by unfold zbE;omega⟩,(Below.refl _ _).alloc (Nat.le_refl _) _⟩
theorem zpX (a:Option Addr) (Y:Nat) (l:List Im) (left:Int) (w:World) (hr:RowAt w a imL 3 l) (hl:l.length≤9223372036854775807) (I: ∀x∈l,zdz x) (h0:0≤left) (h1:left≤1048576):
  Calls Tryz.prog 41 #[.slice a l.length Y,.int .i64 left] w fun e w'=>zcG left (l.length+zQ zbE l) e∧Below w.heap.size w w':=by
 have HR:=zc hr
 have HG:=zc I
 clear hr I
 by_cases ab:(l.length:Int)≤left
 case neg=>
  go_enter Tryz.func41,Tryz.ntmps41
  go_wp2
  go_ret
  exact⟨⟨-1,rfl,by omega,by omega,fun h=>by omega⟩,Below.refl _ _⟩
 go_enter Tryz.func41,Tryz.ntmps41
 go_wp2
 go_loopg [1,5] l.length (fun k s1 s5 wr=>∃(j:Nat) (z:Int),s5= .int .i64 j∧s1= .int .i64 z∧j+k=l.length∧0≤z∧z≤left∧z+((l.length+zQ zbE (l.take j):Nat):Int)=left∧Below w.heap.size w wr)
 case atStart=>exact⟨0,_,rfl,rfl,by omega,by omega,by omega,by simp[zQ],Below.refl _ _⟩
 case round=>
  obtain⟨j,z,rfl,rfl,hj,U,V,H,I⟩:=hrel
  have Z:=zc H
  have M:=zc I
  clear H I
  by_cases X:j<l.length
  ·have q:(j:Int)<(l.length:Int):=by omega
   obtain⟨x,K⟩: ∃x,l[j]? =some x:=⟨_,List.getElem?_eq_getElem X⟩
   obtain⟨b,aa,rfl,N⟩:=(HR.out.later M.out).get K
   have n:=HG.out x (List.mem_of_getElem? K)
   have HC:=zc (zeC zbE K)
   have c0:=N 0 _ rfl
   have c1:=N 1 _ rfl
   have c2:=N 2 _ rfl
   simp only[Nat.add_zero] at c0
   clear N K
   obtain⟨L,o⟩: ∃L,L=j+1:=⟨_,rfl⟩
   have ej:(j:Int)+1=(L:Int):=by omega
   have HJ:=zc o
   clear o
   go_wp2_with fail
   refine (zpW x z _ n U (by omega)).mono ?_
   rintro e w1 ⟨⟨z1,rfl,ac,ad,A⟩,J⟩
   have E:=zc (M.out.trans (J.mono M.out.size))
   have O:=zc A
   clear J A n c0 c1 c2
   by_cases D:0≤z1
   ·go_wp2
    go_roundg (gk-1)
    case rel=>exact⟨L,z1,rfl,rfl,by have:=HJ.out;omega,D,by omega,by have:=Z.out;have:=O.out D;rw[HJ.out,HC.out];omega,E.out⟩
    case measure=>omega
   ·go_wp2
    go_ret
    exact⟨⟨-1,rfl,by omega,by omega,fun h=>by omega⟩,E.out⟩
  ·have q: ¬(j:Int)<(l.length:Int):=by omega
   obtain rfl:j=l.length:=by omega
   go_wp2
   go_ret
   exact⟨⟨z,rfl,by omega,V,fun _=>by have:=Z.out;rw[List.take_length] at this;exact this⟩,M.out⟩
def zd0 (x:Ep):Prop:=x.name.size≤9223372036854775807∧x.loc.size≤9223372036854775807∧x.spec.size≤9223372036854775807
theorem zpY (x:Ep) (left:Int) (w:World) (j:zd0 x) (o:0≤left) (D:left≤1048576):
  Calls Tryz.prog 97 #[.agg #[.int .i64 x.kind,.string x.name,.string x.loc,.string x.spec],.int .i64 left] w fun e n=>zcG left (zbF x) e∧Below w.heap.size w n:=by
 unfold zd0 at j
 obtain⟨q,z,A⟩:=j
 go_enter Tryz.func97,Tryz.ntmps97
 go_wp2
 ·go_ret
  exact⟨⟨-1,rfl,by omega,by omega,fun h=>by omega⟩,(Below.refl _ _).alloc (Nat.le_refl _) _⟩
 ·go_ret
  exact⟨⟨-1,rfl,by omega,by omega,fun h=>by omega⟩,(Below.refl _ _).alloc (Nat.le_refl _) _⟩
 ·go_ret
  exact⟨⟨-1,rfl,by omega,by omega,fun h=>by omega⟩,(Below.refl _ _).alloc (Nat.le_refl _) _⟩
 ·go_ret
  exact⟨⟨_,rfl,by omega,by omega,fun _=>by unfold zbF;omega⟩,(Below.refl _ _).alloc (Nat.le_refl _) _⟩
theorem zpZ (a:Option Addr) (Y:Nat) (l:List Ep) (left:Int) (w:World) (hr:RowAt w a epL 4 l) (hl:l.length≤9223372036854775807) (J: ∀x∈l,zd0 x) (h0:0≤left) (h1:left≤1048576):
  Calls Tryz.prog 42 #[.slice a l.length Y,.int .i64 left] w fun e w'=>zcG left (l.length+zQ zbF l) e∧Below w.heap.size w w':=by
 have HR:=zc hr
 have HG:=zc J
 clear hr J
 by_cases ab:(l.length:Int)≤left
 case neg=>
  go_enter Tryz.func42,Tryz.ntmps42
  go_wp2
  go_ret
  exact⟨⟨-1,rfl,by omega,by omega,fun h=>by omega⟩,Below.refl _ _⟩
 go_enter Tryz.func42,Tryz.ntmps42
 go_wp2
 go_loopg [1,5] l.length (fun k s1 s5 wr=>∃(j:Nat) (z:Int),s5= .int .i64 j∧s1= .int .i64 z∧j+k=l.length∧0≤z∧z≤left∧z+((l.length+zQ zbF (l.take j):Nat):Int)=left∧Below w.heap.size w wr)
 case atStart=>exact⟨0,_,rfl,rfl,by omega,by omega,by omega,by simp[zQ],Below.refl _ _⟩
 case round=>
  obtain⟨j,z,rfl,rfl,hj,U,V,H,J⟩:=hrel
  have Z:=zc H
  have N:=zc J
  clear H J
  by_cases X:j<l.length
  ·have q:(j:Int)<(l.length:Int):=by omega
   obtain⟨x,L⟩: ∃x,l[j]? =some x:=⟨_,List.getElem?_eq_getElem X⟩
   obtain⟨b,aa,rfl,I⟩:=(HR.out.later N.out).get L
   have n:=HG.out x (List.mem_of_getElem? L)
   have HC:=zc (zeC zbF L)
   have c0:=I 0 _ rfl
   have c1:=I 1 _ rfl
   have c2:=I 2 _ rfl
   have c3:=I 3 _ rfl
   simp only[Nat.add_zero] at c0
   clear I L
   obtain⟨M,o⟩: ∃M,M=j+1:=⟨_,rfl⟩
   have ej:(j:Int)+1=(M:Int):=by omega
   have HJ:=zc o
   clear o
   go_wp2_with fail
   refine (zpY x z _ n U (by omega)).mono ?_
   rintro e w1 ⟨⟨z1,rfl,ac,ad,A⟩,K⟩
   have E:=zc (N.out.trans (K.mono N.out.size))
   have O:=zc A
   clear K A n c0 c1 c2 c3
   by_cases D:0≤z1
   ·go_wp2
    go_roundg (gk-1)
    case rel=>exact⟨M,z1,rfl,rfl,by have:=HJ.out;omega,D,by omega,by have:=Z.out;have:=O.out D;rw[HJ.out,HC.out];omega,E.out⟩
    case measure=>omega
   ·go_wp2
    go_ret
    exact⟨⟨-1,rfl,by omega,by omega,fun h=>by omega⟩,E.out⟩
  ·have q: ¬(j:Int)<(l.length:Int):=by omega
   obtain rfl:j=l.length:=by omega
   go_wp2
   go_ret
   exact⟨⟨z,rfl,by omega,V,fun _=>by have:=Z.out;rw[List.take_length] at this;exact this⟩,N.out⟩
def zd1 (x:Sm):Prop:=x.name.size≤9223372036854775807
theorem zqa (x:Sm) (left:Int) (w:World) (j:zd1 x) (o:0≤left) (q:left≤1048576):
  Calls Tryz.prog 98 #[.agg #[.int .i64 x.kind,.string x.name,.int .i64 x.expr],.int .i64 left] w fun e n=>zcG left (zcb x) e∧Below w.heap.size w n:=by
 unfold zd1 at j
 go_enter Tryz.func98,Tryz.ntmps98
 go_wp2
 ·go_ret
  exact⟨⟨-1,rfl,by omega,by omega,fun h=>by omega⟩,(Below.refl _ _).alloc (Nat.le_refl _) _⟩
 ·go_ret
  exact⟨⟨_,rfl,by omega,by omega,fun _=>by unfold zcb;omega⟩,(Below.refl _ _).alloc (Nat.le_refl _) _⟩
theorem zqb (a:Option Addr) (Y:Nat) (l:List Sm) (left:Int) (w:World) (hr:RowAt w a smL 3 l) (hl:l.length≤9223372036854775807) (I: ∀x∈l,zd1 x) (h0:0≤left) (h1:left≤1048576):
  Calls Tryz.prog 43 #[.slice a l.length Y,.int .i64 left] w fun e w'=>zcG left (l.length+zQ zcb l) e∧Below w.heap.size w w':=by
 have HR:=zc hr
 have HG:=zc I
 clear hr I
 by_cases ab:(l.length:Int)≤left
 case neg=>
  go_enter Tryz.func43,Tryz.ntmps43
  go_wp2
  go_ret
  exact⟨⟨-1,rfl,by omega,by omega,fun h=>by omega⟩,Below.refl _ _⟩
 go_enter Tryz.func43,Tryz.ntmps43
 go_wp2
 go_loopg [1,5] l.length (fun k s1 s5 wr=>∃(j:Nat) (z:Int),s5= .int .i64 j∧s1= .int .i64 z∧j+k=l.length∧0≤z∧z≤left∧z+((l.length+zQ zcb (l.take j):Nat):Int)=left∧Below w.heap.size w wr)
 case atStart=>exact⟨0,_,rfl,rfl,by omega,by omega,by omega,by simp[zQ],Below.refl _ _⟩
 case round=>
  obtain⟨j,z,rfl,rfl,hj,U,V,H,I⟩:=hrel
  have Z:=zc H
  have M:=zc I
  clear H I
  by_cases X:j<l.length
  ·have q:(j:Int)<(l.length:Int):=by omega
   obtain⟨x,K⟩: ∃x,l[j]? =some x:=⟨_,List.getElem?_eq_getElem X⟩
   obtain⟨b,aa,rfl,N⟩:=(HR.out.later M.out).get K
   have n:=HG.out x (List.mem_of_getElem? K)
   have HC:=zc (zeC zcb K)
   have c0:=N 0 _ rfl
   have c1:=N 1 _ rfl
   have c2:=N 2 _ rfl
   simp only[Nat.add_zero] at c0
   clear N K
   obtain⟨L,o⟩: ∃L,L=j+1:=⟨_,rfl⟩
   have ej:(j:Int)+1=(L:Int):=by omega
   have HJ:=zc o
   clear o
   go_wp2_with fail
   refine (zqa x z _ n U (by omega)).mono ?_
   rintro e w1 ⟨⟨z1,rfl,ac,ad,A⟩,J⟩
   have E:=zc (M.out.trans (J.mono M.out.size))
   have O:=zc A
   clear J A n c0 c1 c2
   by_cases D:0≤z1
   ·go_wp2
    go_roundg (gk-1)
    case rel=>exact⟨L,z1,rfl,rfl,by have:=HJ.out;omega,D,by omega,by have:=Z.out;have:=O.out D;rw[HJ.out,HC.out];omega,E.out⟩
    case measure=>omega
   ·go_wp2
    go_ret
    exact⟨⟨-1,rfl,by omega,by omega,fun h=>by omega⟩,E.out⟩
  ·have q: ¬(j:Int)<(l.length:Int):=by omega
   obtain rfl:j=l.length:=by omega
   go_wp2
   go_ret
   exact⟨⟨z,rfl,by omega,V,fun _=>by have:=Z.out;rw[List.take_length] at this;exact this⟩,M.out⟩
def zd2 (x:Ex):Prop:=x.name.size≤9223372036854775807∧x.field.size≤9223372036854775807
theorem zqc (x:Ex) (left:Int) (w:World) (j:zd2 x) (o:0≤left) (A:left≤1048576):
  Calls Tryz.prog 99 #[.agg #[.int .i64 x.kind,.int .i64 x.num,.string x.name,.string x.field,.int .i64 x.l,.int .i64 x.r],.int .i64 left] w fun e n=>zcG left (zcw x) e∧Below w.heap.size w n:=by
 unfold zd2 at j
 obtain⟨q,z⟩:=j
 go_enter Tryz.func99,Tryz.ntmps99
 go_wp2
 ·go_ret
  exact⟨⟨-1,rfl,by omega,by omega,fun h=>by omega⟩,(Below.refl _ _).alloc (Nat.le_refl _) _⟩
 ·go_ret
  exact⟨⟨-1,rfl,by omega,by omega,fun h=>by omega⟩,(Below.refl _ _).alloc (Nat.le_refl _) _⟩
 ·go_ret
  exact⟨⟨_,rfl,by omega,by omega,fun _=>by unfold zcw;omega⟩,(Below.refl _ _).alloc (Nat.le_refl _) _⟩
theorem zqd (a:Option Addr) (Y:Nat) (l:List Ex) (left:Int) (w:World) (hr:RowAt w a exL 6 l) (hl:l.length≤9223372036854775807) (J: ∀x∈l,zd2 x) (h0:0≤left) (h1:left≤1048576):
  Calls Tryz.prog 44 #[.slice a l.length Y,.int .i64 left] w fun e w'=>zcG left (l.length+zQ zcw l) e∧Below w.heap.size w w':=by
 have HR:=zc hr
 have HG:=zc J
 clear hr J
 by_cases ab:(l.length:Int)≤left
 case neg=>
  go_enter Tryz.func44,Tryz.ntmps44
  go_wp2
  go_ret
  exact⟨⟨-1,rfl,by omega,by omega,fun h=>by omega⟩,Below.refl _ _⟩
 go_enter Tryz.func44,Tryz.ntmps44
 go_wp2
 go_loopg [1,5] l.length (fun k s1 s5 wr=>∃(j:Nat) (z:Int),s5= .int .i64 j∧s1= .int .i64 z∧j+k=l.length∧0≤z∧z≤left∧z+((l.length+zQ zcw (l.take j):Nat):Int)=left∧Below w.heap.size w wr)
 case atStart=>exact⟨0,_,rfl,rfl,by omega,by omega,by omega,by simp[zQ],Below.refl _ _⟩
 case round=>
  obtain⟨j,z,rfl,rfl,hj,U,V,I,J⟩:=hrel
  have Z:=zc I
  have N:=zc J
  clear I J
  by_cases X:j<l.length
  ·have A:(j:Int)<(l.length:Int):=by omega
   obtain⟨x,L⟩: ∃x,l[j]? =some x:=⟨_,List.getElem?_eq_getElem X⟩
   obtain⟨b,aa,rfl,o⟩:=(HR.out.later N.out).get L
   have n:=HG.out x (List.mem_of_getElem? L)
   have HC:=zc (zeC zcw L)
   have c0:=o 0 _ rfl
   have c1:=o 1 _ rfl
   have c2:=o 2 _ rfl
   have c3:=o 3 _ rfl
   have c4:=o 4 _ rfl
   have c5:=o 5 _ rfl
   simp only[Nat.add_zero] at c0
   clear o L
   obtain⟨M,q⟩: ∃M,M=j+1:=⟨_,rfl⟩
   have ej:(j:Int)+1=(M:Int):=by omega
   have HJ:=zc q
   clear q
   go_wp2_with fail
   refine (zqc x z _ n U (by omega)).mono ?_
   rintro e w1 ⟨⟨z1,rfl,ac,ad,D⟩,K⟩
   have H:=zc (N.out.trans (K.mono N.out.size))
   have O:=zc D
   clear K D n c0 c1 c2 c3 c4 c5
   by_cases E:0≤z1
   ·go_wp2
    go_roundg (gk-1)
    case rel=>exact⟨M,z1,rfl,rfl,by have:=HJ.out;omega,E,by omega,by have:=Z.out;have:=O.out E;rw[HJ.out,HC.out];omega,H.out⟩
    case measure=>omega
   ·go_wp2
    go_ret
    exact⟨⟨-1,rfl,by omega,by omega,fun h=>by omega⟩,H.out⟩
  ·have A: ¬(j:Int)<(l.length:Int):=by omega
   obtain rfl:j=l.length:=by omega
   go_wp2
   go_ret
   exact⟨⟨z,rfl,by omega,V,fun _=>by have:=Z.out;rw[List.take_length] at this;exact this⟩,N.out⟩
structure MA where
 a0:Option Addr
 a1:Option Addr
 a2:Option Addr
 a3:Option Addr
 a4:Option Addr
 c0:Nat
 c1:Nat
 c2:Nat
 c3:Nat
 c4:Nat
def zcZ (A:MA) (m:Md):Value:=.agg #[.slice A.a0 m.rq.length A.c0,.slice A.a1 m.im.length A.c1,.slice A.a2 m.ep.length A.c2,.slice A.a3 m.st.length A.c3,.slice A.a4 m.ex.length A.c4]
def ModIn (w:World) (A:MA) (m:Md):Prop:=RowAt w A.a0 (fun x=>[Value.string x]) 1 m.rq∧RowAt w A.a1 imL 3 m.im∧RowAt w A.a2 epL 4 m.ep∧RowAt w A.a3 smL 3 m.st∧RowAt w A.a4 exL 6 m.ex
theorem ModIn.later {w n:World} {A:MA} {m:Md} (h:ModIn w A m) (j:Below w.heap.size w n):ModIn n A m:=⟨h.1.later j,h.2.1.later j,h.2.2.1.later j,h.2.2.2.1.later j,h.2.2.2.2.later j⟩
def zf3 (m:Md):Prop:=(m.rq.length≤9223372036854775807∧∀x∈m.rq,zea x)∧(m.im.length≤9223372036854775807∧∀x∈m.im,zdz x)∧(m.ep.length≤9223372036854775807∧∀x∈m.ep,zd0 x)∧(m.st.length≤9223372036854775807∧∀x∈m.st,zd1 x)∧(m.ex.length≤9223372036854775807∧∀x∈m.ex,zd2 x)
theorem zqe (A:MA) (m:Md) (left:Int) (w:World) (hr:ModIn w A m) (j:zf3 m) (h0:0≤left) (h1:left≤1048576):
  Calls Tryz.prog 11 #[zcZ A m,.int .i64 left] w fun e w'=>zcG left (zcQ m) e∧Below w.heap.size w w':=by
 have HR:=zc hr
 have D:=zc j
 clear hr j
 unfold zcZ
 go_enter Tryz.func11,Tryz.ntmps11
 go_upto_region 1 with fail
 have Z:Hid (Below w.heap.size w (w.alloc (.cells #[.slice A.a0 m.rq.length A.c0,.slice A.a1 m.im.length A.c1,.slice A.a2 m.ep.length A.c2,.slice A.a3 m.st.length A.c3,.slice A.a4 m.ex.length A.c4] 39))):=(Below.refl _ _).alloc (Nat.le_refl _) _
 refine zah (R:=fun W=>W.heap[w.heap.size]? =some (.cells #[.slice A.a0 m.rq.length A.c0,.slice A.a1 m.im.length A.c1,.slice A.a2 m.ep.length A.c2,.slice A.a3 m.st.length A.c3,.slice A.a4 m.ex.length A.c4] 39 (0,0))∧ModIn W A m∧Below w.heap.size w W) ⟨heap_alloc_new w _,HR.out.later Z.out,Z.out⟩ ?_
 obtain⟨gx,K⟩: ∃gx,gx=w.heap.size:=⟨_,rfl⟩
 rw[←K]
 rintro w0 ⟨hx,hm,j⟩
 rw[K] at j
 clear K Z HR
 have X0:=zc hx
 have M0:=zc hm
 have O:=zc j
 clear hx hm j
 obtain⟨E,o,z,n,q,H⟩:=zk X0.out
 go_wp2_with fail
 refine (zpV A.a0 A.c0 m.rq left w0 M0.out.1 D.out.1.1 D.out.1.2 (by omega) (by omega)).mono ?_
 rintro e w1 ⟨⟨z0,rfl,y0,u0,v0⟩,j⟩
 have I:=zc (O.out.trans (j.mono O.out.size))
 have M1:=zc (M0.out.later j)
 have X:=zc ((j.block _ (Array.getElem?_eq_some_iff.1 X0.out).1).trans X0.out)
 have V0:=zc v0
 clear j v0 E o z n q H
 obtain⟨E,o,z,n,q,H⟩:=zk X.out
 by_cases t0:0≤z0
 case neg=>
  go_wp2
  go_ret
  exact⟨⟨-1,rfl,by omega,by omega,fun h=>by omega⟩,I.out⟩
 go_wp2_with fail
 refine (zpX A.a1 A.c1 m.im z0 w1 M1.out.2.1 D.out.2.1.1 D.out.2.1.2 (by omega) (by omega)).mono ?_
 rintro e w2 ⟨⟨z1,rfl,y1,u1,v1⟩,j⟩
 have L:=zc (I.out.trans (j.mono I.out.size))
 have M2:=zc (M1.out.later j)
 have U:=zc ((j.block _ (Array.getElem?_eq_some_iff.1 X.out).1).trans X.out)
 have V1:=zc v1
 clear j v1 E o z n q H
 obtain⟨E,o,z,n,q,H⟩:=zk U.out
 by_cases t1:0≤z1
 case neg=>
  go_wp2
  go_ret
  exact⟨⟨-1,rfl,by omega,by omega,fun h=>by omega⟩,L.out⟩
 go_wp2_with fail
 refine (zpZ A.a2 A.c2 m.ep z1 w2 M2.out.2.2.1 D.out.2.2.1.1 D.out.2.2.1.2 (by omega) (by omega)).mono ?_
 rintro e w3 ⟨⟨z2,rfl,y2,u2,v2⟩,j⟩
 have M:=zc (L.out.trans (j.mono L.out.size))
 have M3:=zc (M2.out.later j)
 have Y:=zc ((j.block _ (Array.getElem?_eq_some_iff.1 U.out).1).trans U.out)
 have V2:=zc v2
 clear j v2 E o z n q H
 obtain⟨E,o,z,n,q,H⟩:=zk Y.out
 by_cases t2:0≤z2
 case neg=>
  go_wp2
  go_ret
  exact⟨⟨-1,rfl,by omega,by omega,fun h=>by omega⟩,M.out⟩
 go_wp2_with fail
 refine (zqb A.a3 A.c3 m.st z2 w3 M3.out.2.2.2.1 D.out.2.2.2.1.1 D.out.2.2.2.1.2 (by omega) (by omega)).mono ?_
 rintro e w4 ⟨⟨z3,rfl,y3,u3,v3⟩,j⟩
 have J:=zc (M.out.trans (j.mono M.out.size))
 have M4:=zc (M3.out.later j)
 have V:=zc ((j.block _ (Array.getElem?_eq_some_iff.1 Y.out).1).trans Y.out)
 have V3:=zc v3
 clear j v3 E o z n q H
 obtain⟨E,o,z,n,q,H⟩:=zk V.out
 by_cases t3:0≤z3
 case neg=>
  go_wp2
  go_ret
  exact⟨⟨-1,rfl,by omega,by omega,fun h=>by omega⟩,J.out⟩
 go_wp2_with fail
 refine (zqd A.a4 A.c4 m.ex z3 w4 M4.out.2.2.2.2 D.out.2.2.2.2.1 D.out.2.2.2.2.2 (by omega) (by omega)).mono ?_
 rintro e w5 ⟨⟨z4,rfl,y4,u4,v4⟩,j⟩
 have N:=zc (J.out.trans (j.mono J.out.size))
 have M5:=zc (M4.out.later j)
 have X5:=zc ((j.block _ (Array.getElem?_eq_some_iff.1 V.out).1).trans V.out)
 have V4:=zc v4
 clear j v4 E o z n q H
 obtain⟨E,o,z,n,q,H⟩:=zk X5.out
 by_cases t4:0≤z4
 case neg=>
  go_wp2
  go_ret
  exact⟨⟨-1,rfl,by omega,by omega,fun h=>by omega⟩,N.out⟩
 go_wp2
 go_ret
 exact⟨⟨z4,rfl,by omega,by omega,fun _=>by have q0:=V0.out t0;have q1:=V1.out t1;have q2:=V2.out t2;have q3:=V3.out t3;have q4:=V4.out t4;unfold zcQ;omega⟩,N.out⟩
theorem Tryz.infoTStr:(Tryz.prog.info? 9).map (fun i=>(i.zero,i.size,i.bytes))=some (some (.string {data:=#[]}),1,16):=by kernel_rfl
theorem zqf (a:Option Addr) (Z:Nat) (l:List ByteArray) (w:World) (hr:RowAt w a (fun x=>[Value.string x]) 1 l) (hl:l.length≤1048576):
  Calls Tryz.prog 46 #[.slice a l.length Z] w fun e w'=>zeA w 9 1 l.length (l.flatMap (fun x=>[Value.string x])) e w':=by
 have HR:=zc hr
 clear hr
 obtain⟨i0,hi,V,X,L⟩:=info_parts Tryz.infoTStr
 go_enter Tryz.func46,Tryz.ntmps46
 go_wp2_with (first|(at_make;refine wpList_make_full w rfl _ _ 22 rfl w.heap.size 9 i0 _ 1 Tryz.underlying22 hi V X .i64 .i64 _ _ l.length (by rfl) (by rfl) rfl rfl (by rw[L];omega) (by unfold maxLen;omega) (Nat.le_refl _) ?_))
 intro N n o
 have K:=zc ((Below.refl _ _).grown o (Nat.le_refl _) (fun k h=>by cases h):Below w.heap.size w N)
 have q:Hid (OwnC N w.heap.size 9 1 w.heap.size l.length (l.flatMap (fun x=>[Value.string x])) 0):=⟨_,n,fun j hj=>absurd hj (Nat.not_lt_zero j)⟩
 clear n o
 obtain⟨g,z⟩: ∃g,g=w.heap.size:=⟨_,rfl⟩
 have O:=zc z
 rw[←z]
 rw[←z] at q
 have I:Hid (OwnC N w.heap.size 9 1 g l.length (l.flatMap (fun x=>[Value.string x])) 0):=by rw[←z];exact q.out
 clear z q
 go_wp2
 go_loopg [4] l.length (fun k i wr=>∃j:Nat,i= .int .i64 j∧j+k=l.length∧OwnC wr w.heap.size 9 1 g l.length (l.flatMap (fun x=>[Value.string x])) (j*1)∧Below w.heap.size w wr)
 case atStart=>exact⟨0,rfl,by omega,I.out,K.out⟩
 case round=>
  obtain⟨j,rfl,hj,ho,hb⟩:=hrel
  have E:=zc ho
  have M:=zc hb
  clear ho hb
  by_cases Y:j<l.length
  ·have D:(j:Int)<(l.length:Int):=by omega
   obtain⟨x,J⟩: ∃x,l[j]? =some x:=⟨_,List.getElem?_eq_getElem Y⟩
   obtain⟨b,aa,rfl,hc⟩:=(HR.out.later M.out).get J
   have HX:=zc J
   clear J
   have c0:=hc 0 _ rfl
   simp only[Nat.add_zero,Nat.mul_one] at c0
   clear hc
   obtain⟨H,A⟩: ∃H,H=j+1:=⟨_,rfl⟩
   have ej:(j:Int)+1=(H:Int):=by omega
   have HJ:=zc A
   clear A
   obtain⟨v0,g0⟩:=E.out.has (j*1) (by omega)
   have f0:=E.out.free (j*1)
   have HN:=zc (E.out.put (by omega) (zbx (f:=(fun x=>[Value.string x])) (m:=1) (fun _=>rfl) l j x 0 _ HX.out rfl))
   simp only[Nat.mul_one] at g0 f0
   have U:w.heap.size≤g:=by have:=O.out;omega
   go_wp2
   go_roundg (gk-1)
   case rel=>exact⟨H,rfl,by have:=HJ.out;omega,by have:=HN.out;simp only[Nat.mul_one] at this;rw[HJ.out,Nat.mul_one];exact this,(M.out.setCell U _)⟩
   case measure=>omega
  ·have D: ¬(j:Int)<(l.length:Int):=by omega
   obtain rfl:j=l.length:=by omega
   go_wp2
   go_ret
   exact⟨g,rfl,E.out.all (ze9 (f:=(fun x=>[Value.string x])) (fun _=>rfl) l),M.out⟩
theorem Tryz.infoTIm:(Tryz.prog.info? 100).map (fun i=>(i.zero,i.size,i.bytes))=some (some (.agg #[.string {data:=#[]},.string {data:=#[]},.string {data:=#[]}]),3,48):=by kernel_rfl
theorem zqg (x:Im) (w:World):
  Calls Tryz.prog 100 #[.agg #[.string x.spec,.string x.first,.string x.loc]] w fun e h=>e= .returned (.agg #[.string x.spec,.string x.first,.string x.loc])∧Below w.heap.size w h:=by
 go_enter Tryz.func100,Tryz.ntmps100
 go_wp2
 refine bodyPost_ret (results_cell_row rfl _ _ (w.heap.size+1) 100 #[.string x.spec,.string x.first,.string x.loc] (0,0) _ rfl ?_ Tryz.underlying100 rfl (by kernel_rfl)) rfl ?_
 ·rw[heap_alloc_old _ _ (by show _<((w.heap.push _).push _).size;simp)]
  exact heap_alloc2_new w _ _
 ·exact⟨rfl,(((Below.refl _ _).alloc (Nat.le_refl _) _).alloc (by show _≤(w.heap.push _).size;simp) _).alloc (by show _≤((w.heap.push _).push _).size;simp;omega) _⟩
theorem zqh (a:Option Addr) (ad:Nat) (l:List Im) (w:World) (hr:RowAt w a imL 3 l) (hl:l.length≤1048576):
  Calls Tryz.prog 47 #[.slice a l.length ad] w fun e w'=>zeA w 100 3 l.length (l.flatMap imL) e w':=by
 have HR:=zc hr
 clear hr
 obtain⟨i0,hi,aa,ab,V⟩:=info_parts Tryz.infoTIm
 go_enter Tryz.func47,Tryz.ntmps47
 go_wp2_with (first|(at_make;refine wpList_make_full w rfl _ _ 23 rfl w.heap.size 100 i0 _ 3 Tryz.underlying23 hi aa ab .i64 .i64 _ _ l.length (by rfl) (by rfl) rfl rfl (by rw[V];omega) (by unfold maxLen;omega) (Nat.le_refl _) ?_))
 intro X o q
 have U:=zc ((Below.refl _ _).grown q (Nat.le_refl _) (fun k h=>by cases h):Below w.heap.size w X)
 have D:Hid (OwnC X w.heap.size 100 3 w.heap.size l.length (l.flatMap imL) 0):=⟨_,o,fun j hj=>absurd hj (Nat.not_lt_zero j)⟩
 clear o q
 obtain⟨g,E⟩: ∃g,g=w.heap.size:=⟨_,rfl⟩
 have Z:=zc E
 rw[←E]
 rw[←E] at D
 have N:Hid (OwnC X w.heap.size 100 3 g l.length (l.flatMap imL) 0):=by rw[←E];exact D.out
 clear E D
 go_wp2
 go_loopg [4] l.length (fun k i wr=>∃j:Nat,i= .int .i64 j∧j+k=l.length∧OwnC wr w.heap.size 100 3 g l.length (l.flatMap imL) (j*3)∧Below w.heap.size w wr)
 case atStart=>exact⟨0,rfl,by omega,N.out,U.out⟩
 case round=>
  obtain⟨j,rfl,hj,ho,hb⟩:=hrel
  have HO:=zc ho
  have K:=zc hb
  clear ho hb
  by_cases ac:j<l.length
  ·have I:(j:Int)<(l.length:Int):=by omega
   obtain⟨x,O⟩: ∃x,l[j]? =some x:=⟨_,List.getElem?_eq_getElem ac⟩
   obtain⟨b,ae,rfl,L⟩:=(HR.out.later K.out).get O
   have M:=zc O
   clear O
   have c0:=L 0 _ rfl
   have c1:=L 1 _ rfl
   have c2:=L 2 _ rfl
   simp only[Nat.add_zero] at c0
   clear L
   obtain⟨J,H⟩: ∃J,J=j+1:=⟨_,rfl⟩
   have ej:(j:Int)+1=(J:Int):=by omega
   have HJ:=zc H
   clear H
   go_wp2_with fail
   refine (zqg x _).mono ?_
   rintro e w2 ⟨rfl,z⟩
   have n:=zc (HO.out.later z)
   have Y:=zc (K.out.trans (z.mono K.out.size))
   clear z c0 c1 c2
   obtain⟨v0,g0⟩:=n.out.has (j*3) (by omega)
   have f0:=n.out.free (j*3)
   obtain⟨v1,g1⟩:=n.out.has (j*3+1) (by omega)
   have f1:=n.out.free (j*3+1)
   obtain⟨v2,g2⟩:=n.out.has (j*3+2) (by omega)
   have f2:=n.out.free (j*3+2)
   have HN:=zc (((n.out.put (by omega) (zbx (f:=imL) (m:=3) (fun _=>rfl) l j x 0 _ M.out rfl)).put (by omega) (zbx (f:=imL) (m:=3) (fun _=>rfl) l j x 1 _ M.out rfl)).put (by omega) (zbx (f:=imL) (m:=3) (fun _=>rfl) l j x 2 _ M.out rfl))
   have A:w.heap.size≤g:=by have:=Z.out;omega
   go_wp2
   go_roundg (gk-1)
   case rel=>exact⟨J,rfl,by have:=HJ.out;omega,by rw[HJ.out,Nat.succ_mul];exact HN.out,(((Y.out.setCell A _).setCell A _).setCell A _)⟩
   case measure=>omega
  ·have I: ¬(j:Int)<(l.length:Int):=by omega
   obtain rfl:j=l.length:=by omega
   go_wp2
   go_ret
   exact⟨g,rfl,HO.out.all (ze9 (f:=imL) (fun _=>rfl) l),K.out⟩
theorem Tryz.infoTEp:(Tryz.prog.info? 102).map (fun i=>(i.zero,i.size,i.bytes))=some (some (.agg #[.int .i64 0,.string {data:=#[]},.string {data:=#[]},.string {data:=#[]}]),4,56):=by kernel_rfl
theorem zqi (x:Ep) (w:World):
  Calls Tryz.prog 101 #[.agg #[.int .i64 x.kind,.string x.name,.string x.loc,.string x.spec]] w fun e h=>e= .returned (.agg #[.int .i64 x.kind,.string x.name,.string x.loc,.string x.spec])∧Below w.heap.size w h:=by
 go_enter Tryz.func101,Tryz.ntmps101
 go_wp2
 refine bodyPost_ret (results_cell_row rfl _ _ (w.heap.size+1) 102 #[.int .i64 x.kind,.string x.name,.string x.loc,.string x.spec] (0,0) _ rfl ?_ Tryz.underlying102 rfl (by kernel_rfl)) rfl ?_
 ·rw[heap_alloc_old _ _ (by show _<((w.heap.push _).push _).size;simp)]
  exact heap_alloc2_new w _ _
 ·exact⟨rfl,(((Below.refl _ _).alloc (Nat.le_refl _) _).alloc (by show _≤(w.heap.push _).size;simp) _).alloc (by show _≤((w.heap.push _).push _).size;simp;omega) _⟩
theorem zqj (a:Option Addr) (ad:Nat) (l:List Ep) (w:World) (hr:RowAt w a epL 4 l) (hl:l.length≤1048576):
  Calls Tryz.prog 48 #[.slice a l.length ad] w fun e w'=>zeA w 102 4 l.length (l.flatMap epL) e w':=by
 have HR:=zc hr
 clear hr
 obtain⟨i0,hi,aa,ab,V⟩:=info_parts Tryz.infoTEp
 go_enter Tryz.func48,Tryz.ntmps48
 go_wp2_with (first|(at_make;refine wpList_make_full w rfl _ _ 24 rfl w.heap.size 102 i0 _ 4 Tryz.underlying24 hi aa ab .i64 .i64 _ _ l.length (by rfl) (by rfl) rfl rfl (by rw[V];omega) (by unfold maxLen;omega) (Nat.le_refl _) ?_))
 intro X o z
 have U:=zc ((Below.refl _ _).grown z (Nat.le_refl _) (fun k h=>by cases h):Below w.heap.size w X)
 have D:Hid (OwnC X w.heap.size 102 4 w.heap.size l.length (l.flatMap epL) 0):=⟨_,o,fun j hj=>absurd hj (Nat.not_lt_zero j)⟩
 clear o z
 obtain⟨g,E⟩: ∃g,g=w.heap.size:=⟨_,rfl⟩
 have Z:=zc E
 rw[←E]
 rw[←E] at D
 have N:Hid (OwnC X w.heap.size 102 4 g l.length (l.flatMap epL) 0):=by rw[←E];exact D.out
 clear E D
 go_wp2
 go_loopg [4] l.length (fun k i wr=>∃j:Nat,i= .int .i64 j∧j+k=l.length∧OwnC wr w.heap.size 102 4 g l.length (l.flatMap epL) (j*4)∧Below w.heap.size w wr)
 case atStart=>exact⟨0,rfl,by omega,N.out,U.out⟩
 case round=>
  obtain⟨j,rfl,hj,ho,hb⟩:=hrel
  have HO:=zc ho
  have M:=zc hb
  clear ho hb
  by_cases ac:j<l.length
  ·have I:(j:Int)<(l.length:Int):=by omega
   obtain⟨x,O⟩: ∃x,l[j]? =some x:=⟨_,List.getElem?_eq_getElem ac⟩
   obtain⟨b,ae,rfl,J⟩:=(HR.out.later M.out).get O
   have K:=zc O
   clear O
   have c0:=J 0 _ rfl
   have c1:=J 1 _ rfl
   have c2:=J 2 _ rfl
   have c3:=J 3 _ rfl
   simp only[Nat.add_zero] at c0
   clear J
   obtain⟨L,H⟩: ∃L,L=j+1:=⟨_,rfl⟩
   have ej:(j:Int)+1=(L:Int):=by omega
   have HJ:=zc H
   clear H
   go_wp2_with fail
   refine (zqi x _).mono ?_
   rintro e w2 ⟨rfl,A⟩
   have n:=zc (HO.out.later A)
   have Y:=zc (M.out.trans (A.mono M.out.size))
   clear A c0 c1 c2 c3
   obtain⟨v0,g0⟩:=n.out.has (j*4) (by omega)
   have f0:=n.out.free (j*4)
   obtain⟨v1,g1⟩:=n.out.has (j*4+1) (by omega)
   have f1:=n.out.free (j*4+1)
   obtain⟨v2,g2⟩:=n.out.has (j*4+2) (by omega)
   have f2:=n.out.free (j*4+2)
   obtain⟨v3,g3⟩:=n.out.has (j*4+3) (by omega)
   have f3:=n.out.free (j*4+3)
   have HN:=zc ((((n.out.put (by omega) (zbx (f:=epL) (m:=4) (fun _=>rfl) l j x 0 _ K.out rfl)).put (by omega) (zbx (f:=epL) (m:=4) (fun _=>rfl) l j x 1 _ K.out rfl)).put (by omega) (zbx (f:=epL) (m:=4) (fun _=>rfl) l j x 2 _ K.out rfl)).put (by omega) (zbx (f:=epL) (m:=4) (fun _=>rfl) l j x 3 _ K.out rfl))
   have q:w.heap.size≤g:=by have:=Z.out;omega
   go_wp2
   go_roundg (gk-1)
   case rel=>exact⟨L,rfl,by have:=HJ.out;omega,by rw[HJ.out,Nat.succ_mul];exact HN.out,((((Y.out.setCell q _).setCell q _).setCell q _).setCell q _)⟩
   case measure=>omega
  ·have I: ¬(j:Int)<(l.length:Int):=by omega
   obtain rfl:j=l.length:=by omega
   go_wp2
   go_ret
   exact⟨g,rfl,HO.out.all (ze9 (f:=epL) (fun _=>rfl) l),M.out⟩
theorem Tryz.infoTSm:(Tryz.prog.info? 106).map (fun i=>(i.zero,i.size,i.bytes))=some (some (.agg #[.int .i64 0,.string {data:=#[]},.int .i64 0]),3,32):=by kernel_rfl
theorem zqk (x:Sm) (w:World):
  Calls Tryz.prog 102 #[.agg #[.int .i64 x.kind,.string x.name,.int .i64 x.expr]] w fun e h=>e= .returned (.agg #[.int .i64 x.kind,.string x.name,.int .i64 x.expr])∧Below w.heap.size w h:=by
 go_enter Tryz.func102,Tryz.ntmps102
 go_wp2
 refine bodyPost_ret (results_cell_row rfl _ _ (w.heap.size+1) 106 #[.int .i64 x.kind,.string x.name,.int .i64 x.expr] (0,0) _ rfl ?_ Tryz.underlying106 rfl (by kernel_rfl)) rfl ?_
 ·rw[heap_alloc_old _ _ (by show _<((w.heap.push _).push _).size;simp)]
  exact heap_alloc2_new w _ _
 ·exact⟨rfl,(((Below.refl _ _).alloc (Nat.le_refl _) _).alloc (by show _≤(w.heap.push _).size;simp) _).alloc (by show _≤((w.heap.push _).push _).size;simp;omega) _⟩
theorem zql (a:Option Addr) (ad:Nat) (l:List Sm) (w:World) (hr:RowAt w a smL 3 l) (hl:l.length≤1048576):
  Calls Tryz.prog 49 #[.slice a l.length ad] w fun e w'=>zeA w 106 3 l.length (l.flatMap smL) e w':=by
 have HR:=zc hr
 clear hr
 obtain⟨i0,hi,aa,ab,V⟩:=info_parts Tryz.infoTSm
 go_enter Tryz.func49,Tryz.ntmps49
 go_wp2_with (first|(at_make;refine wpList_make_full w rfl _ _ 25 rfl w.heap.size 106 i0 _ 3 Tryz.underlying25 hi aa ab .i64 .i64 _ _ l.length (by rfl) (by rfl) rfl rfl (by rw[V];omega) (by unfold maxLen;omega) (Nat.le_refl _) ?_))
 intro X o q
 have U:=zc ((Below.refl _ _).grown q (Nat.le_refl _) (fun k h=>by cases h):Below w.heap.size w X)
 have D:Hid (OwnC X w.heap.size 106 3 w.heap.size l.length (l.flatMap smL) 0):=⟨_,o,fun j hj=>absurd hj (Nat.not_lt_zero j)⟩
 clear o q
 obtain⟨g,E⟩: ∃g,g=w.heap.size:=⟨_,rfl⟩
 have Z:=zc E
 rw[←E]
 rw[←E] at D
 have N:Hid (OwnC X w.heap.size 106 3 g l.length (l.flatMap smL) 0):=by rw[←E];exact D.out
 clear E D
 go_wp2
 go_loopg [4] l.length (fun k i wr=>∃j:Nat,i= .int .i64 j∧j+k=l.length∧OwnC wr w.heap.size 106 3 g l.length (l.flatMap smL) (j*3)∧Below w.heap.size w wr)
 case atStart=>exact⟨0,rfl,by omega,N.out,U.out⟩
 case round=>
  obtain⟨j,rfl,hj,ho,hb⟩:=hrel
  have HO:=zc ho
  have K:=zc hb
  clear ho hb
  by_cases ac:j<l.length
  ·have I:(j:Int)<(l.length:Int):=by omega
   obtain⟨x,O⟩: ∃x,l[j]? =some x:=⟨_,List.getElem?_eq_getElem ac⟩
   obtain⟨b,ae,rfl,L⟩:=(HR.out.later K.out).get O
   have M:=zc O
   clear O
   have c0:=L 0 _ rfl
   have c1:=L 1 _ rfl
   have c2:=L 2 _ rfl
   simp only[Nat.add_zero] at c0
   clear L
   obtain⟨J,H⟩: ∃J,J=j+1:=⟨_,rfl⟩
   have ej:(j:Int)+1=(J:Int):=by omega
   have HJ:=zc H
   clear H
   go_wp2_with fail
   refine (zqk x _).mono ?_
   rintro e w2 ⟨rfl,z⟩
   have n:=zc (HO.out.later z)
   have Y:=zc (K.out.trans (z.mono K.out.size))
   clear z c0 c1 c2
   obtain⟨v0,g0⟩:=n.out.has (j*3) (by omega)
   have f0:=n.out.free (j*3)
   obtain⟨v1,g1⟩:=n.out.has (j*3+1) (by omega)
   have f1:=n.out.free (j*3+1)
   obtain⟨v2,g2⟩:=n.out.has (j*3+2) (by omega)
   have f2:=n.out.free (j*3+2)
   have HN:=zc (((n.out.put (by omega) (zbx (f:=smL) (m:=3) (fun _=>rfl) l j x 0 _ M.out rfl)).put (by omega) (zbx (f:=smL) (m:=3) (fun _=>rfl) l j x 1 _ M.out rfl)).put (by omega) (zbx (f:=smL) (m:=3) (fun _=>rfl) l j x 2 _ M.out rfl))
   have A:w.heap.size≤g:=by have:=Z.out;omega
   go_wp2
   go_roundg (gk-1)
   case rel=>exact⟨J,rfl,by have:=HJ.out;omega,by rw[HJ.out,Nat.succ_mul];exact HN.out,(((Y.out.setCell A _).setCell A _).setCell A _)⟩
   case measure=>omega
  ·have I: ¬(j:Int)<(l.length:Int):=by omega
   obtain rfl:j=l.length:=by omega
   go_wp2
   go_ret
   exact⟨g,rfl,HO.out.all (ze9 (f:=smL) (fun _=>rfl) l),K.out⟩
theorem Tryz.infoTEx:(Tryz.prog.info? 108).map (fun i=>(i.zero,i.size,i.bytes))=some (some (.agg #[.int .i64 0,.int .i64 0,.string {data:=#[]},.string {data:=#[]},.int .i64 0,.int .i64 0]),6,64):=by kernel_rfl
theorem zqm (x:Ex) (w:World):
  Calls Tryz.prog 103 #[.agg #[.int .i64 x.kind,.int .i64 x.num,.string x.name,.string x.field,.int .i64 x.l,.int .i64 x.r]] w fun e h=>e= .returned (.agg #[.int .i64 x.kind,.int .i64 x.num,.string x.name,.string x.field,.int .i64 x.l,.int .i64 x.r])∧Below w.heap.size w h:=by
 go_enter Tryz.func103,Tryz.ntmps103
 go_wp2
 refine bodyPost_ret (results_cell_row rfl _ _ (w.heap.size+1) 108 #[.int .i64 x.kind,.int .i64 x.num,.string x.name,.string x.field,.int .i64 x.l,.int .i64 x.r] (0,0) _ rfl ?_ Tryz.underlying108 rfl (by kernel_rfl)) rfl ?_
 ·rw[heap_alloc_old _ _ (by show _<((w.heap.push _).push _).size;simp)]
  exact heap_alloc2_new w _ _
 ·exact⟨rfl,(((Below.refl _ _).alloc (Nat.le_refl _) _).alloc (by show _≤(w.heap.push _).size;simp) _).alloc (by show _≤((w.heap.push _).push _).size;simp;omega) _⟩
theorem zqn (a:Option Addr) (N:Nat) (l:List Ex) (w:World) (hr:RowAt w a exL 6 l) (hl:l.length≤1048576):
  Calls Tryz.prog 50 #[.slice a l.length N] w fun e w'=>zeA w 108 6 l.length (l.flatMap exL) e w':=by
 have HR:=zc hr
 clear hr
 obtain⟨i0,hi,ab,ac,X⟩:=info_parts Tryz.infoTEx
 go_enter Tryz.func50,Tryz.ntmps50
 go_wp2_with (first|(at_make;refine wpList_make_full w rfl _ _ 26 rfl w.heap.size 108 i0 _ 6 Tryz.underlying26 hi ab ac .i64 .i64 _ _ l.length (by rfl) (by rfl) rfl rfl (by rw[X];omega) (by unfold maxLen;omega) (Nat.le_refl _) ?_))
 intro Y q z
 have V:=zc ((Below.refl _ _).grown z (Nat.le_refl _) (fun k h=>by cases h):Below w.heap.size w Y)
 have E:Hid (OwnC Y w.heap.size 108 6 w.heap.size l.length (l.flatMap exL) 0):=⟨_,q,fun j hj=>absurd hj (Nat.not_lt_zero j)⟩
 clear q z
 obtain⟨g,I⟩: ∃g,g=w.heap.size:=⟨_,rfl⟩
 have aa:=zc I
 rw[←I]
 rw[←I] at E
 have O:Hid (OwnC Y w.heap.size 108 6 g l.length (l.flatMap exL) 0):=by rw[←I];exact E.out
 clear I E
 go_wp2
 go_loopg [4] l.length (fun k i wr=>∃j:Nat,i= .int .i64 j∧j+k=l.length∧OwnC wr w.heap.size 108 6 g l.length (l.flatMap exL) (j*6)∧Below w.heap.size w wr)
 case atStart=>exact⟨0,rfl,by omega,O.out,V.out⟩
 case round=>
  obtain⟨j,rfl,hj,ho,hb⟩:=hrel
  have HO:=zc ho
  have M:=zc hb
  clear ho hb
  by_cases ad:j<l.length
  ·have K:(j:Int)<(l.length:Int):=by omega
   obtain⟨x,U⟩: ∃x,l[j]? =some x:=⟨_,List.getElem?_eq_getElem ad⟩
   obtain⟨b,ae,rfl,D⟩:=(HR.out.later M.out).get U
   have H:=zc U
   clear U
   have c0:=D 0 _ rfl
   have c1:=D 1 _ rfl
   have c2:=D 2 _ rfl
   have c3:=D 3 _ rfl
   have c4:=D 4 _ rfl
   have c5:=D 5 _ rfl
   simp only[Nat.add_zero] at c0
   clear D
   obtain⟨L,J⟩: ∃L,L=j+1:=⟨_,rfl⟩
   have ej:(j:Int)+1=(L:Int):=by omega
   have HJ:=zc J
   clear J
   go_wp2_with fail
   refine (zqm x _).mono ?_
   rintro e w2 ⟨rfl,A⟩
   have n:=zc (HO.out.later A)
   have Z:=zc (M.out.trans (A.mono M.out.size))
   clear A c0 c1 c2 c3 c4 c5
   obtain⟨v0,g0⟩:=n.out.has (j*6) (by omega)
   have f0:=n.out.free (j*6)
   obtain⟨v1,g1⟩:=n.out.has (j*6+1) (by omega)
   have f1:=n.out.free (j*6+1)
   obtain⟨v2,g2⟩:=n.out.has (j*6+2) (by omega)
   have f2:=n.out.free (j*6+2)
   obtain⟨v3,g3⟩:=n.out.has (j*6+3) (by omega)
   have f3:=n.out.free (j*6+3)
   obtain⟨v4,g4⟩:=n.out.has (j*6+4) (by omega)
   have f4:=n.out.free (j*6+4)
   obtain⟨v5,g5⟩:=n.out.has (j*6+5) (by omega)
   have f5:=n.out.free (j*6+5)
   have HN:=zc ((((((n.out.put (by omega) (zbx (f:=exL) (m:=6) (fun _=>rfl) l j x 0 _ H.out rfl)).put (by omega) (zbx (f:=exL) (m:=6) (fun _=>rfl) l j x 1 _ H.out rfl)).put (by omega) (zbx (f:=exL) (m:=6) (fun _=>rfl) l j x 2 _ H.out rfl)).put (by omega) (zbx (f:=exL) (m:=6) (fun _=>rfl) l j x 3 _ H.out rfl)).put (by omega) (zbx (f:=exL) (m:=6) (fun _=>rfl) l j x 4 _ H.out rfl)).put (by omega) (zbx (f:=exL) (m:=6) (fun _=>rfl) l j x 5 _ H.out rfl))
   have o:w.heap.size≤g:=by have:=aa.out;omega
   go_wp2
   go_roundg (gk-1)
   case rel=>exact⟨L,rfl,by have:=HJ.out;omega,by rw[HJ.out,Nat.succ_mul];exact HN.out,((((((Z.out.setCell o _).setCell o _).setCell o _).setCell o _).setCell o _).setCell o _)⟩
   case measure=>omega
  ·have K: ¬(j:Int)<(l.length:Int):=by omega
   obtain rfl:j=l.length:=by omega
   go_wp2
   go_ret
   exact⟨g,rfl,HO.out.all (ze9 (f:=exL) (fun _=>rfl) l),M.out⟩
theorem zqo (l:List ByteArray):l.map Value.string=l.flatMap (fun x=>[Value.string x]):=by
 induction l with
 |nil=>rfl
 |cons x l h=>rw[List.map_cons,List.flatMap_cons,h];rfl
def zqp (w:World) (m:Md) (e:Ending) (w':World):Prop:=∃S,e= .returned (zt S m)∧OwnMd w' w.heap.size S m∧Below w.heap.size w w'
theorem zba {w:World} {j size n c i:Nat} {e:TypeId} {r:Rw} {xs:List Value} {u:Value} {A:Array Value} (h:OwnR w j e size r n xs) (E:w.heap[c]? =some (.cells A 28 (0,0))) (z:e≠28):OwnR (w.setCell ⟨c,i,none⟩ u) j e size r n xs:=
 h.keep fun k g=>heap_setCell_other w ⟨c,i,none⟩ k u fun q=>by
  obtain⟨_,_,D,o⟩:=h.typed g
  simp only at q
  rw[q,E] at o
  simp only[Option.some.injEq,Obj.cells.injEq] at o
  exact z o.2.1.symm
abbrev zqq (w:World) (b:Nat) (x0 x1 x2 x3 x4:Value):World:=((((w.setCell ⟨b,0,none⟩ x0).setCell ⟨b,1,none⟩ x1).setCell ⟨b,2,none⟩ x2).setCell ⟨b,3,none⟩ x3).setCell ⟨b,4,none⟩ x4
theorem zeD {w:World} {j size n c:Nat} {e:TypeId} {r:Rw} {xs:List Value} {O V K L U J A z E M:Value} (h:OwnR w j e size r n xs) (H:w.heap[c]? =some (.cells #[O,V,K,L,U] 28 (0,0))) (o:e≠28):OwnR (zqq w c J A z E M) j e size r n xs:=by
 have q:=zas (i:=0) (u:=J) H
 have I:=zas (i:=1) (u:=A) q
 have D:=zas (i:=2) (u:=z) I
 have N:=zas (i:=3) (u:=E) D
 exact zba (zba (zba (zba (zba h H o) q o) I o) D o) N o
theorem zg5 (A:MA) (m:Md) (w:World) (hr:ModIn w A m) (f1:m.rq.length≤1048576) (f2:m.im.length≤1048576) (f3:m.ep.length≤1048576) (f4:m.st.length≤1048576) (f5:m.ex.length≤1048576):
  Calls Tryz.prog 13 #[zcZ A m] w fun e w'=>zqp w m e w':=by
 have HR:=zc hr
 clear hr
 unfold zcZ
 go_enter Tryz.func13,Tryz.ntmps13
 go_upto_region 2 with fail
 obtain⟨n,ab⟩: ∃n,n=w.heap.size:=⟨_,rfl⟩
 rw[←ab]
 refine zah (R:=(fun W=>W.heap[n]? =some (.cells #[.slice A.a0 m.rq.length A.c0,.slice A.a1 m.im.length A.c1,.slice A.a2 m.ep.length A.c2,.slice A.a3 m.st.length A.c3,.slice A.a4 m.ex.length A.c4] 39 (0,0))∧W.heap[n+1]? =some (.cells #[.slice none 0 0,.slice none 0 0,.slice none 0 0,.slice none 0 0,.slice none 0 0] 28 (0,0))∧W.heap[n+2]? =some (.cells #[.slice none 0 0,.slice none 0 0,.slice none 0 0,.slice none 0 0,.slice none 0 0] 28 (0,0))∧Below w.heap.size w W)) ?_ ?_
 ·rw[ab]
  refine⟨?_,?_,?_,?_⟩
  ·rw[heap_alloc_old _ _ (by show _<((w.heap.push _).push _).size;simp;omega),heap_alloc_old _ _ (by show _<(w.heap.push _).size;simp)]
   exact heap_alloc_new w _
  ·rw[heap_alloc_old _ _ (by show _<((w.heap.push _).push _).size;simp)]
   exact heap_alloc2_new w _ _
  ·have:=heap_alloc_new ((w.alloc (.cells #[.slice A.a0 m.rq.length A.c0,.slice A.a1 m.im.length A.c1,.slice A.a2 m.ep.length A.c2,.slice A.a3 m.st.length A.c3,.slice A.a4 m.ex.length A.c4] 39)).alloc (.cells #[.slice none 0 0,.slice none 0 0,.slice none 0 0,.slice none 0 0,.slice none 0 0] 28)) (.cells #[.slice none 0 0,.slice none 0 0,.slice none 0 0,.slice none 0 0,.slice none 0 0] 28)
   simp only[zj] at this
   exact this
  ·exact (((Below.refl _ _).alloc (Nat.le_refl _) _).alloc (by show _≤(w.heap.push _).size;simp) _).alloc (by show _≤((w.heap.push _).push _).size;simp;omega) _
 have aa:w.heap.size≤n+2:=by omega
 have N:w.heap.size≤n+1:=by omega
 clear ab
 rintro W0 ⟨U,O,M,h⟩
 have X:=zc U
 have Y:=zc O
 have Z:=zc M
 have q:=zc h
 clear U O M h
 obtain⟨E,I,H,K,D,J⟩:=zk X.out
 go_wp2_with fail
 refine (zqf A.a0 A.c0 m.rq W0 (HR.out.later q.out).1 f1).mono ?_
 rintro e V0 ⟨g0,rfl,j,h⟩
 have X2:=zc ((h.block _ (Array.getElem?_eq_some_iff.1 X.out).1).trans X.out)
 have V:=zc ((h.block _ (Array.getElem?_eq_some_iff.1 Y.out).1).trans Y.out)
 have o:=zc ((h.block _ (Array.getElem?_eq_some_iff.1 Z.out).1).trans Z.out)
 have z:=zc (q.out.trans (h.mono q.out.size))
 have P0:=zc (j.low q.out.size)
 clear j h E I H K D J X Y Z q
 obtain⟨E,I,H,K,D,J⟩:=zk o.out
 go_upto_region 3 with fail
 refine zah (R:=(fun W=>W.heap[n]? =some (.cells #[.slice A.a0 m.rq.length A.c0,.slice A.a1 m.im.length A.c1,.slice A.a2 m.ep.length A.c2,.slice A.a3 m.st.length A.c3,.slice A.a4 m.ex.length A.c4] 39 (0,0))∧W.heap[n+1]? =some (.cells #[.slice none 0 0,.slice none 0 0,.slice none 0 0,.slice none 0 0,.slice none 0 0] 28 (0,0))∧W.heap[n+2]? =some (.cells #[.slice (some ⟨g0,0,none⟩) m.rq.length m.rq.length,.slice none 0 0,.slice none 0 0,.slice none 0 0,.slice none 0 0] 28 (0,0))∧Below w.heap.size w W∧OwnR W w.heap.size 9 1 ⟨some ⟨g0,0,none⟩,m.rq.length⟩ m.rq.length (m.rq.flatMap (fun x=>[Value.string x])))) ⟨(heap_setCell_other _ _ _ _ (by show n≠n+2;omega)).trans X2.out,(heap_setCell_other _ _ _ _ (by show n+1≠n+2;omega)).trans V.out,(zas o.out).trans (by simp),z.out.setCell aa _,zba P0.out o.out (by decide)⟩ ?_
 clear X2 V o z E I H K D J P0
 rintro W1 ⟨U,O,M,h,o0⟩
 have X:=zc U
 have Y:=zc O
 have Z:=zc M
 have q:=zc h
 have L:=zc o0
 clear U O M h o0
 obtain⟨E,I,H,K,D,J⟩:=zk X.out
 go_wp2_with fail
 refine (zqh A.a1 A.c1 m.im W1 (HR.out.later q.out).2.1 f2).mono ?_
 rintro e V1 ⟨g1,rfl,j,h⟩
 have X2:=zc ((h.block _ (Array.getElem?_eq_some_iff.1 X.out).1).trans X.out)
 have V:=zc ((h.block _ (Array.getElem?_eq_some_iff.1 Y.out).1).trans Y.out)
 have o:=zc ((h.block _ (Array.getElem?_eq_some_iff.1 Z.out).1).trans Z.out)
 have z:=zc (q.out.trans (h.mono q.out.size))
 have P0:=zc (L.out.keep fun k g=>h.block k (L.out.typed g).2.1)
 have P1:=zc (j.low q.out.size)
 clear j h E I H K D J X Y Z q L
 obtain⟨E,I,H,K,D,J⟩:=zk o.out
 go_upto_region 4 with fail
 refine zah (R:=(fun W=>W.heap[n]? =some (.cells #[.slice A.a0 m.rq.length A.c0,.slice A.a1 m.im.length A.c1,.slice A.a2 m.ep.length A.c2,.slice A.a3 m.st.length A.c3,.slice A.a4 m.ex.length A.c4] 39 (0,0))∧W.heap[n+1]? =some (.cells #[.slice none 0 0,.slice none 0 0,.slice none 0 0,.slice none 0 0,.slice none 0 0] 28 (0,0))∧W.heap[n+2]? =some (.cells #[.slice (some ⟨g0,0,none⟩) m.rq.length m.rq.length,.slice (some ⟨g1,0,none⟩) m.im.length m.im.length,.slice none 0 0,.slice none 0 0,.slice none 0 0] 28 (0,0))∧Below w.heap.size w W∧OwnR W w.heap.size 9 1 ⟨some ⟨g0,0,none⟩,m.rq.length⟩ m.rq.length (m.rq.flatMap (fun x=>[Value.string x]))∧OwnR W w.heap.size 100 3 ⟨some ⟨g1,0,none⟩,m.im.length⟩ m.im.length (m.im.flatMap imL))) ⟨(heap_setCell_other _ _ _ _ (by show n≠n+2;omega)).trans X2.out,(heap_setCell_other _ _ _ _ (by show n+1≠n+2;omega)).trans V.out,(zas o.out).trans (by simp),z.out.setCell aa _,zba P0.out o.out (by decide),zba P1.out o.out (by decide)⟩ ?_
 clear X2 V o z E I H K D J P0 P1
 rintro W2 ⟨U,O,M,h,o0,o1⟩
 have X:=zc U
 have Y:=zc O
 have Z:=zc M
 have q:=zc h
 have L:=zc o0
 have O1:=zc o1
 clear U O M h o0 o1
 obtain⟨E,I,H,K,D,J⟩:=zk X.out
 go_wp2_with fail
 refine (zqj A.a2 A.c2 m.ep W2 (HR.out.later q.out).2.2.1 f3).mono ?_
 rintro e V2 ⟨g2,rfl,j,h⟩
 have X2:=zc ((h.block _ (Array.getElem?_eq_some_iff.1 X.out).1).trans X.out)
 have V:=zc ((h.block _ (Array.getElem?_eq_some_iff.1 Y.out).1).trans Y.out)
 have o:=zc ((h.block _ (Array.getElem?_eq_some_iff.1 Z.out).1).trans Z.out)
 have z:=zc (q.out.trans (h.mono q.out.size))
 have P0:=zc (L.out.keep fun k g=>h.block k (L.out.typed g).2.1)
 have P1:=zc (O1.out.keep fun k g=>h.block k (O1.out.typed g).2.1)
 have P2:=zc (j.low q.out.size)
 clear j h E I H K D J X Y Z q L O1
 obtain⟨E,I,H,K,D,J⟩:=zk o.out
 go_upto_region 5 with fail
 refine zah (R:=(fun W=>W.heap[n]? =some (.cells #[.slice A.a0 m.rq.length A.c0,.slice A.a1 m.im.length A.c1,.slice A.a2 m.ep.length A.c2,.slice A.a3 m.st.length A.c3,.slice A.a4 m.ex.length A.c4] 39 (0,0))∧W.heap[n+1]? =some (.cells #[.slice none 0 0,.slice none 0 0,.slice none 0 0,.slice none 0 0,.slice none 0 0] 28 (0,0))∧W.heap[n+2]? =some (.cells #[.slice (some ⟨g0,0,none⟩) m.rq.length m.rq.length,.slice (some ⟨g1,0,none⟩) m.im.length m.im.length,.slice (some ⟨g2,0,none⟩) m.ep.length m.ep.length,.slice none 0 0,.slice none 0 0] 28 (0,0))∧Below w.heap.size w W∧OwnR W w.heap.size 9 1 ⟨some ⟨g0,0,none⟩,m.rq.length⟩ m.rq.length (m.rq.flatMap (fun x=>[Value.string x]))∧OwnR W w.heap.size 100 3 ⟨some ⟨g1,0,none⟩,m.im.length⟩ m.im.length (m.im.flatMap imL)∧OwnR W w.heap.size 102 4 ⟨some ⟨g2,0,none⟩,m.ep.length⟩ m.ep.length (m.ep.flatMap epL))) ⟨(heap_setCell_other _ _ _ _ (by show n≠n+2;omega)).trans X2.out,(heap_setCell_other _ _ _ _ (by show n+1≠n+2;omega)).trans V.out,(zas o.out).trans (by simp),z.out.setCell aa _,zba P0.out o.out (by decide),zba P1.out o.out (by decide),zba P2.out o.out (by decide)⟩ ?_
 clear X2 V o z E I H K D J P0 P1 P2
 rintro W3 ⟨U,O,M,h,o0,o1,o2⟩
 have X:=zc U
 have Y:=zc O
 have Z:=zc M
 have q:=zc h
 have L:=zc o0
 have O1:=zc o1
 have O2:=zc o2
 clear U O M h o0 o1 o2
 obtain⟨E,I,H,K,D,J⟩:=zk X.out
 go_wp2_with fail
 refine (zql A.a3 A.c3 m.st W3 (HR.out.later q.out).2.2.2.1 f4).mono ?_
 rintro e V3 ⟨g3,rfl,j,h⟩
 have X2:=zc ((h.block _ (Array.getElem?_eq_some_iff.1 X.out).1).trans X.out)
 have V:=zc ((h.block _ (Array.getElem?_eq_some_iff.1 Y.out).1).trans Y.out)
 have o:=zc ((h.block _ (Array.getElem?_eq_some_iff.1 Z.out).1).trans Z.out)
 have z:=zc (q.out.trans (h.mono q.out.size))
 have P0:=zc (L.out.keep fun k g=>h.block k (L.out.typed g).2.1)
 have P1:=zc (O1.out.keep fun k g=>h.block k (O1.out.typed g).2.1)
 have P2:=zc (O2.out.keep fun k g=>h.block k (O2.out.typed g).2.1)
 have P3:=zc (j.low q.out.size)
 clear j h E I H K D J X Y Z q L O1 O2
 obtain⟨E,I,H,K,D,J⟩:=zk o.out
 go_upto_region 6 with fail
 refine zah (R:=(fun W=>W.heap[n]? =some (.cells #[.slice A.a0 m.rq.length A.c0,.slice A.a1 m.im.length A.c1,.slice A.a2 m.ep.length A.c2,.slice A.a3 m.st.length A.c3,.slice A.a4 m.ex.length A.c4] 39 (0,0))∧W.heap[n+1]? =some (.cells #[.slice none 0 0,.slice none 0 0,.slice none 0 0,.slice none 0 0,.slice none 0 0] 28 (0,0))∧W.heap[n+2]? =some (.cells #[.slice (some ⟨g0,0,none⟩) m.rq.length m.rq.length,.slice (some ⟨g1,0,none⟩) m.im.length m.im.length,.slice (some ⟨g2,0,none⟩) m.ep.length m.ep.length,.slice (some ⟨g3,0,none⟩) m.st.length m.st.length,.slice none 0 0] 28 (0,0))∧Below w.heap.size w W∧OwnR W w.heap.size 9 1 ⟨some ⟨g0,0,none⟩,m.rq.length⟩ m.rq.length (m.rq.flatMap (fun x=>[Value.string x]))∧OwnR W w.heap.size 100 3 ⟨some ⟨g1,0,none⟩,m.im.length⟩ m.im.length (m.im.flatMap imL)∧OwnR W w.heap.size 102 4 ⟨some ⟨g2,0,none⟩,m.ep.length⟩ m.ep.length (m.ep.flatMap epL)∧OwnR W w.heap.size 106 3 ⟨some ⟨g3,0,none⟩,m.st.length⟩ m.st.length (m.st.flatMap smL))) ⟨(heap_setCell_other _ _ _ _ (by show n≠n+2;omega)).trans X2.out,(heap_setCell_other _ _ _ _ (by show n+1≠n+2;omega)).trans V.out,(zas o.out).trans (by simp),z.out.setCell aa _,zba P0.out o.out (by decide),zba P1.out o.out (by decide),zba P2.out o.out (by decide),zba P3.out o.out (by decide)⟩ ?_
 clear X2 V o z E I H K D J P0 P1 P2 P3
 rintro W4 ⟨U,O,M,h,o0,o1,o2,o3⟩
 have X:=zc U
 have Y:=zc O
 have Z:=zc M
 have q:=zc h
 have L:=zc o0
 have O1:=zc o1
 have O2:=zc o2
 have O3:=zc o3
 clear U O M h o0 o1 o2 o3
 obtain⟨E,I,H,K,D,J⟩:=zk X.out
 go_wp2_with fail
 refine (zqn A.a4 A.c4 m.ex W4 (HR.out.later q.out).2.2.2.2 f5).mono ?_
 rintro e V4 ⟨g4,rfl,j,h⟩
 have X2:=zc ((h.block _ (Array.getElem?_eq_some_iff.1 X.out).1).trans X.out)
 have V:=zc ((h.block _ (Array.getElem?_eq_some_iff.1 Y.out).1).trans Y.out)
 have o:=zc ((h.block _ (Array.getElem?_eq_some_iff.1 Z.out).1).trans Z.out)
 have z:=zc (q.out.trans (h.mono q.out.size))
 have P0:=zc (L.out.keep fun k g=>h.block k (L.out.typed g).2.1)
 have P1:=zc (O1.out.keep fun k g=>h.block k (O1.out.typed g).2.1)
 have P2:=zc (O2.out.keep fun k g=>h.block k (O2.out.typed g).2.1)
 have P3:=zc (O3.out.keep fun k g=>h.block k (O3.out.typed g).2.1)
 have P4:=zc (j.low q.out.size)
 clear j h E I H K D J X Y Z q L O1 O2 O3
 obtain⟨E,I,H,K,D,J⟩:=zk o.out
 go_upto_region 7 with fail
 refine zah (R:=(fun W=>W.heap[n]? =some (.cells #[.slice A.a0 m.rq.length A.c0,.slice A.a1 m.im.length A.c1,.slice A.a2 m.ep.length A.c2,.slice A.a3 m.st.length A.c3,.slice A.a4 m.ex.length A.c4] 39 (0,0))∧W.heap[n+1]? =some (.cells #[.slice none 0 0,.slice none 0 0,.slice none 0 0,.slice none 0 0,.slice none 0 0] 28 (0,0))∧W.heap[n+2]? =some (.cells #[.slice (some ⟨g0,0,none⟩) m.rq.length m.rq.length,.slice (some ⟨g1,0,none⟩) m.im.length m.im.length,.slice (some ⟨g2,0,none⟩) m.ep.length m.ep.length,.slice (some ⟨g3,0,none⟩) m.st.length m.st.length,.slice (some ⟨g4,0,none⟩) m.ex.length m.ex.length] 28 (0,0))∧Below w.heap.size w W∧OwnR W w.heap.size 9 1 ⟨some ⟨g0,0,none⟩,m.rq.length⟩ m.rq.length (m.rq.flatMap (fun x=>[Value.string x]))∧OwnR W w.heap.size 100 3 ⟨some ⟨g1,0,none⟩,m.im.length⟩ m.im.length (m.im.flatMap imL)∧OwnR W w.heap.size 102 4 ⟨some ⟨g2,0,none⟩,m.ep.length⟩ m.ep.length (m.ep.flatMap epL)∧OwnR W w.heap.size 106 3 ⟨some ⟨g3,0,none⟩,m.st.length⟩ m.st.length (m.st.flatMap smL)∧OwnR W w.heap.size 108 6 ⟨some ⟨g4,0,none⟩,m.ex.length⟩ m.ex.length (m.ex.flatMap exL))) ⟨(heap_setCell_other _ _ _ _ (by show n≠n+2;omega)).trans X2.out,(heap_setCell_other _ _ _ _ (by show n+1≠n+2;omega)).trans V.out,(zas o.out).trans (by simp),z.out.setCell aa _,zba P0.out o.out (by decide),zba P1.out o.out (by decide),zba P2.out o.out (by decide),zba P3.out o.out (by decide),zba P4.out o.out (by decide)⟩ ?_
 clear X2 V o z E I H K D J P0 P1 P2 P3 P4
 rintro W5 ⟨U,O,M,h,o0,o1,o2,o3,o4⟩
 have Y:=zc O
 have Z:=zc M
 have q:=zc h
 have L:=zc o0
 have O1:=zc o1
 have O2:=zc o2
 have O3:=zc o3
 have O4:=zc o4
 clear U O M h o0 o1 o2 o3 o4
 obtain⟨E,I,H,K,D,J⟩:=zk Z.out
 obtain⟨d0,d1,d2,d3,d4,df⟩:=zk Y.out
 go_wp2
 refine bodyPost_ret (results_cell_row rfl _ _ (n+1) 28 #[.slice (some ⟨g0,0,none⟩) m.rq.length m.rq.length,.slice (some ⟨g1,0,none⟩) m.im.length m.im.length,.slice (some ⟨g2,0,none⟩) m.ep.length m.ep.length,.slice (some ⟨g3,0,none⟩) m.st.length m.st.length,.slice (some ⟨g4,0,none⟩) m.ex.length m.ex.length] (0,0) _ rfl ?_ Tryz.underlying28 rfl (by kernel_rfl)) rfl ?_
 ·exact zcU Y.out
 ·refine⟨⟨⟨some ⟨g0,0,none⟩,m.rq.length⟩,⟨some ⟨g1,0,none⟩,m.im.length⟩,⟨some ⟨g2,0,none⟩,m.ep.length⟩,⟨some ⟨g3,0,none⟩,m.st.length⟩,⟨some ⟨g4,0,none⟩,m.ex.length⟩,⟨none,0⟩⟩,rfl,⟨?_,?_,?_,?_,?_⟩,((((q.out.setCell N _).setCell N _).setCell N _).setCell N _).setCell N _⟩
  ·rw[zqo]
   exact zeD L.out Y.out (by decide)
  ·exact zeD O1.out Y.out (by decide)
  ·exact zeD O2.out Y.out (by decide)
  ·exact zeD O3.out Y.out (by decide)
  ·exact zeD O4.out Y.out (by decide)
end Go.Proofs.YticdggnnpjachaaGreat
