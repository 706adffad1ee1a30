/-
  What the laws' size counters answer: the walks.
  What the laws' copiers answer: the walks.
  What the laws' toMod answers: the walk.
-/
import Derived.Deep.Cut
import Derived.Test.YticdggnnpjachaaGreatCcSrcRowToCostMath
namespace Go.Proofs.YticdggnnpjachaaGreat
set_option maxRecDepth 100000
set_option maxHeartbeats 6400000
open Go.RowKit Go.PlainAid Go.Sort
def zea (x:ByteArray):Prop:=x.size≤9223372036854775807
theorem zpV (a:Option Addr) (M:Nat) (l:List ByteArray) (left:Int) (w:World) (O:RowAt w a (fun x=>[Value.string x]) 1 l) (hl:l.length≤9223372036854775807) (o: ∀x∈l,zea x) (h0:0≤left) (h1:left≤1048576):
  Calls Tryz.prog 40 #[.slice a l.length M,.int .i64 left] w fun e w'=>zcG left (l.length+zQ zca l) e∧Below w.heap.size w w':=by
 have HR:=zc O
 have Z:=zc o
 clear O o
 by_cases aa:(l.length:Int)≤left
 case neg=>
  go_enter Tryz.func40,Tryz.ntmps40
  go_wp2
  go_ret
  exact⟨⟨-1,rfl,by omega,by omega,fun h=>by omega⟩,Below.refl _ _⟩
 go_enter Tryz.func40,Tryz.ntmps40
 go_wp2
 go_loopg [1,5] l.length (fun k X s5 wr=>∃(j:Nat) (z:Int),s5= .int .i64 j∧X= .int .i64 z∧j+k=l.length∧0≤z∧z≤left∧z+((l.length+zQ zca (l.take j):Nat):Int)=left∧Below w.heap.size w wr)
 case atStart=>exact⟨0,_,rfl,rfl,by omega,by omega,by omega,by simp[zQ],Below.refl _ _⟩
 case round=>
  obtain⟨j,z,rfl,rfl,hj,Y,J,n,o⟩:=hrel
  have V:=zc n
  have H:=zc o
  clear n o
  by_cases K:j<l.length
  ·have q:(j:Int)<(l.length:Int):=by omega
   obtain⟨x,E⟩: ∃x,l[j]? =some x:=⟨_,List.getElem?_eq_getElem K⟩
   obtain⟨b,ab,rfl,N⟩:=(HR.out.later H.out).get E
   have A:=Z.out x (List.mem_of_getElem? E)
   have HC:=zc (zeC zca E)
   have c0:=N 0 _ rfl
   simp only[Nat.add_zero,Nat.mul_one] at c0
   clear N E
   obtain⟨I,D⟩: ∃I,I=j+1:=⟨_,rfl⟩
   have ej:(j:Int)+1=(I:Int):=by omega
   have U:=zc D
   clear D
   unfold zea at A
   by_cases L:0≤z-(x.size:Int)
   ·go_wp2
    go_roundg (gk-1)
    case rel=>exact⟨I,_,rfl,rfl,by have:=U.out;omega,L,by omega,by have:=V.out;have:zca x=x.size:=rfl;rw[U.out,HC.out];omega,H.out⟩
    case measure=>omega
   ·go_wp2
    go_ret
    exact⟨⟨-1,rfl,by omega,by omega,fun h=>by omega⟩,H.out⟩
  ·have q: ¬(j:Int)<(l.length:Int):=by omega
   obtain rfl:j=l.length:=by omega
   go_wp2
   go_ret
   exact⟨⟨z,rfl,by omega,J,fun _=>by have:=V.out;rw[List.take_length] at this;exact this⟩,H.out⟩
def zdz (x:Im):Prop:=x.spec.size≤9223372036854775807∧x.first.size≤9223372036854775807∧x.loc.size≤9223372036854775807
theorem zpW (x:Im) (left:Int) (w:World) (j:zdz x) (o:0≤left) (q:left≤1048576):
  Calls Tryz.prog 96 #[.agg #[.string x.spec,.string x.first,.string x.loc],.int .i64 left] w fun e n=>zcG left (zbE x) e∧Below w.heap.size w n:=by
 unfold zdz at j
 obtain⟨z,A,D⟩:=j
 go_enter Tryz.func96,Tryz.ntmps96
 go_wp2
 ·go_ret
  exact⟨⟨-1,rfl,by omega,by omega,fun h=>by omega⟩,(Below.refl _ _).alloc (Nat.le_refl _) _⟩
 ·go_ret
  exact⟨⟨-1,rfl,by omega,by omega,fun h=>by omega⟩,(Below.refl _ _).alloc (Nat.le_refl _) _⟩
 ·go_ret
  exact⟨⟨-1,rfl,by omega,by omega,fun h=>by omega⟩,(Below.refl _ _).alloc (Nat.le_refl _) _⟩
 ·go_ret
  exact⟨⟨_,rfl,by omega,by omega,fun _=>by unfold zbE;omega⟩,(Below.refl _ _).alloc (Nat.le_refl _) _⟩
theorem zpX (a:Option Addr) (Y:Nat) (l:List Im) (left:Int) (w:World) (Z:RowAt w a imL 3 l) (hl:l.length≤9223372036854775807) (A: ∀x∈l,zdz x) (h0:0≤left) (h1:left≤1048576):
  Calls Tryz.prog 41 #[.slice a l.length Y,.int .i64 left] w fun e w'=>zcG left (l.length+zQ zbE l) e∧Below w.heap.size w w':=by
 have HR:=zc Z
 have HG:=zc A
 clear Z A
 by_cases ab:(l.length:Int)≤left
 case neg=>
  go_enter Tryz.func41,Tryz.ntmps41
  go_wp2
  go_ret
  exact⟨⟨-1,rfl,by omega,by omega,fun h=>by omega⟩,Below.refl _ _⟩
 go_enter Tryz.func41,Tryz.ntmps41
 go_wp2
 go_loopg [1,5] l.length (fun k s1 s5 wr=>∃(j:Nat) (z:Int),s5= .int .i64 j∧s1= .int .i64 z∧j+k=l.length∧0≤z∧z≤left∧z+((l.length+zQ zbE (l.take j):Nat):Int)=left∧Below w.heap.size w wr)
 case atStart=>exact⟨0,_,rfl,rfl,by omega,by omega,by omega,by simp[zQ],Below.refl _ _⟩
 case round=>
  obtain⟨j,z,rfl,rfl,hj,O,U,q,A⟩:=hrel
  have HZ:=zc q
  have M:=zc A
  clear q A
  by_cases X:j<l.length
  ·have E:(j:Int)<(l.length:Int):=by omega
   obtain⟨x,L⟩: ∃x,l[j]? =some x:=⟨_,List.getElem?_eq_getElem X⟩
   obtain⟨b,ad,rfl,K⟩:=(HR.out.later M.out).get L
   have n:=HG.out x (List.mem_of_getElem? L)
   have HC:=zc (zeC zbE L)
   have c0:=K 0 _ rfl
   have c1:=K 1 _ rfl
   have c2:=K 2 _ rfl
   simp only[Nat.add_zero] at c0
   clear K L
   obtain⟨N,J⟩: ∃N,N=j+1:=⟨_,rfl⟩
   have ej:(j:Int)+1=(N:Int):=by omega
   have HJ:=zc J
   clear J
   go_wp2_with fail
   refine (zpW x z _ n O (by omega)).mono ?_
   rintro e w1 ⟨⟨z1,rfl,ac,aa,H⟩,o⟩
   have I:=zc (M.out.trans (o.mono M.out.size))
   have V:=zc H
   clear o H n c0 c1 c2
   by_cases D:0≤z1
   ·go_wp2
    go_roundg (gk-1)
    case rel=>exact⟨N,z1,rfl,rfl,by have:=HJ.out;omega,D,by omega,by have:=HZ.out;have:=V.out D;rw[HJ.out,HC.out];omega,I.out⟩
    case measure=>omega
   ·go_wp2
    go_ret
    exact⟨⟨-1,rfl,by omega,by omega,fun h=>by omega⟩,I.out⟩
  ·have E: ¬(j:Int)<(l.length:Int):=by omega
   obtain rfl:j=l.length:=by omega
   go_wp2
   go_ret
   exact⟨⟨z,rfl,by omega,U,fun _=>by have:=HZ.out;rw[List.take_length] at this;exact this⟩,M.out⟩
def zd0 (x:Ep):Prop:=x.name.size≤9223372036854775807∧x.loc.size≤9223372036854775807∧x.spec.size≤9223372036854775807
theorem zpY (x:Ep) (left:Int) (w:World) (j:zd0 x) (o:0≤left) (q:left≤1048576):
  Calls Tryz.prog 97 #[.agg #[.int .i64 x.kind,.string x.name,.string x.loc,.string x.spec],.int .i64 left] w fun e n=>zcG left (zbF x) e∧Below w.heap.size w n:=by
 unfold zd0 at j
 obtain⟨z,A,D⟩:=j
 go_enter Tryz.func97,Tryz.ntmps97
 go_wp2
 ·go_ret
  exact⟨⟨-1,rfl,by omega,by omega,fun h=>by omega⟩,(Below.refl _ _).alloc (Nat.le_refl _) _⟩
 ·go_ret
  exact⟨⟨-1,rfl,by omega,by omega,fun h=>by omega⟩,(Below.refl _ _).alloc (Nat.le_refl _) _⟩
 ·go_ret
  exact⟨⟨-1,rfl,by omega,by omega,fun h=>by omega⟩,(Below.refl _ _).alloc (Nat.le_refl _) _⟩
 ·go_ret
  exact⟨⟨_,rfl,by omega,by omega,fun _=>by unfold zbF;omega⟩,(Below.refl _ _).alloc (Nat.le_refl _) _⟩
theorem zpZ (a:Option Addr) (Y:Nat) (l:List Ep) (left:Int) (w:World) (Z:RowAt w a epL 4 l) (hl:l.length≤9223372036854775807) (D: ∀x∈l,zd0 x) (h0:0≤left) (h1:left≤1048576):
  Calls Tryz.prog 42 #[.slice a l.length Y,.int .i64 left] w fun e w'=>zcG left (l.length+zQ zbF l) e∧Below w.heap.size w w':=by
 have HR:=zc Z
 have HG:=zc D
 clear Z D
 by_cases ab:(l.length:Int)≤left
 case neg=>
  go_enter Tryz.func42,Tryz.ntmps42
  go_wp2
  go_ret
  exact⟨⟨-1,rfl,by omega,by omega,fun h=>by omega⟩,Below.refl _ _⟩
 go_enter Tryz.func42,Tryz.ntmps42
 go_wp2
 go_loopg [1,5] l.length (fun k s1 s5 wr=>∃(j:Nat) (z:Int),s5= .int .i64 j∧s1= .int .i64 z∧j+k=l.length∧0≤z∧z≤left∧z+((l.length+zQ zbF (l.take j):Nat):Int)=left∧Below w.heap.size w wr)
 case atStart=>exact⟨0,_,rfl,rfl,by omega,by omega,by omega,by simp[zQ],Below.refl _ _⟩
 case round=>
  obtain⟨j,z,rfl,rfl,hj,O,U,A,D⟩:=hrel
  have HZ:=zc A
  have M:=zc D
  clear A D
  by_cases X:j<l.length
  ·have H:(j:Int)<(l.length:Int):=by omega
   obtain⟨x,L⟩: ∃x,l[j]? =some x:=⟨_,List.getElem?_eq_getElem X⟩
   obtain⟨b,ad,rfl,o⟩:=(HR.out.later M.out).get L
   have n:=HG.out x (List.mem_of_getElem? L)
   have HC:=zc (zeC zbF L)
   have c0:=o 0 _ rfl
   have c1:=o 1 _ rfl
   have c2:=o 2 _ rfl
   have c3:=o 3 _ rfl
   simp only[Nat.add_zero] at c0
   clear o L
   obtain⟨N,K⟩: ∃N,N=j+1:=⟨_,rfl⟩
   have ej:(j:Int)+1=(N:Int):=by omega
   have HJ:=zc K
   clear K
   go_wp2_with fail
   refine (zpY x z _ n O (by omega)).mono ?_
   rintro e w1 ⟨⟨z1,rfl,ac,aa,I⟩,q⟩
   have J:=zc (M.out.trans (q.mono M.out.size))
   have V:=zc I
   clear q I n c0 c1 c2 c3
   by_cases E:0≤z1
   ·go_wp2
    go_roundg (gk-1)
    case rel=>exact⟨N,z1,rfl,rfl,by have:=HJ.out;omega,E,by omega,by have:=HZ.out;have:=V.out E;rw[HJ.out,HC.out];omega,J.out⟩
    case measure=>omega
   ·go_wp2
    go_ret
    exact⟨⟨-1,rfl,by omega,by omega,fun h=>by omega⟩,J.out⟩
  ·have H: ¬(j:Int)<(l.length:Int):=by omega
   obtain rfl:j=l.length:=by omega
   go_wp2
   go_ret
   exact⟨⟨z,rfl,by omega,U,fun _=>by have:=HZ.out;rw[List.take_length] at this;exact this⟩,M.out⟩
def zd1 (x:Sm):Prop:=x.name.size≤9223372036854775807
theorem zqa (x:Sm) (left:Int) (w:World) (n:zd1 x) (o:0≤left) (q:left≤1048576):
  Calls Tryz.prog 98 #[.agg #[.int .i64 x.kind,.string x.name,.int .i64 x.expr],.int .i64 left] w fun e j=>zcG left (zcb x) e∧Below w.heap.size w j:=by
 unfold zd1 at n
 go_enter Tryz.func98,Tryz.ntmps98
 go_wp2
 ·go_ret
  exact⟨⟨-1,rfl,by omega,by omega,fun h=>by omega⟩,(Below.refl _ _).alloc (Nat.le_refl _) _⟩
 ·go_ret
  exact⟨⟨_,rfl,by omega,by omega,fun _=>by unfold zcb;omega⟩,(Below.refl _ _).alloc (Nat.le_refl _) _⟩
theorem zqb (a:Option Addr) (Y:Nat) (l:List Sm) (left:Int) (w:World) (Z:RowAt w a smL 3 l) (hl:l.length≤9223372036854775807) (A: ∀x∈l,zd1 x) (h0:0≤left) (h1:left≤1048576):
  Calls Tryz.prog 43 #[.slice a l.length Y,.int .i64 left] w fun e w'=>zcG left (l.length+zQ zcb l) e∧Below w.heap.size w w':=by
 have HR:=zc Z
 have HG:=zc A
 clear Z A
 by_cases ab:(l.length:Int)≤left
 case neg=>
  go_enter Tryz.func43,Tryz.ntmps43
  go_wp2
  go_ret
  exact⟨⟨-1,rfl,by omega,by omega,fun h=>by omega⟩,Below.refl _ _⟩
 go_enter Tryz.func43,Tryz.ntmps43
 go_wp2
 go_loopg [1,5] l.length (fun k s1 s5 wr=>∃(j:Nat) (z:Int),s5= .int .i64 j∧s1= .int .i64 z∧j+k=l.length∧0≤z∧z≤left∧z+((l.length+zQ zcb (l.take j):Nat):Int)=left∧Below w.heap.size w wr)
 case atStart=>exact⟨0,_,rfl,rfl,by omega,by omega,by omega,by simp[zQ],Below.refl _ _⟩
 case round=>
  obtain⟨j,z,rfl,rfl,hj,O,U,q,A⟩:=hrel
  have HZ:=zc q
  have M:=zc A
  clear q A
  by_cases X:j<l.length
  ·have E:(j:Int)<(l.length:Int):=by omega
   obtain⟨x,L⟩: ∃x,l[j]? =some x:=⟨_,List.getElem?_eq_getElem X⟩
   obtain⟨b,ad,rfl,K⟩:=(HR.out.later M.out).get L
   have n:=HG.out x (List.mem_of_getElem? L)
   have HC:=zc (zeC zcb L)
   have c0:=K 0 _ rfl
   have c1:=K 1 _ rfl
   have c2:=K 2 _ rfl
   simp only[Nat.add_zero] at c0
   clear K L
   obtain⟨N,J⟩: ∃N,N=j+1:=⟨_,rfl⟩
   have ej:(j:Int)+1=(N:Int):=by omega
   have HJ:=zc J
   clear J
   go_wp2_with fail
   refine (zqa x z _ n O (by omega)).mono ?_
   rintro e w1 ⟨⟨z1,rfl,ac,aa,H⟩,o⟩
   have I:=zc (M.out.trans (o.mono M.out.size))
   have V:=zc H
   clear o H n c0 c1 c2
   by_cases D:0≤z1
   ·go_wp2
    go_roundg (gk-1)
    case rel=>exact⟨N,z1,rfl,rfl,by have:=HJ.out;omega,D,by omega,by have:=HZ.out;have:=V.out D;rw[HJ.out,HC.out];omega,I.out⟩
    case measure=>omega
   ·go_wp2
    go_ret
    exact⟨⟨-1,rfl,by omega,by omega,fun h=>by omega⟩,I.out⟩
  ·have E: ¬(j:Int)<(l.length:Int):=by omega
   obtain rfl:j=l.length:=by omega
   go_wp2
   go_ret
   exact⟨⟨z,rfl,by omega,U,fun _=>by have:=HZ.out;rw[List.take_length] at this;exact this⟩,M.out⟩
def zd2 (x:Ex):Prop:=x.name.size≤9223372036854775807∧x.field.size≤9223372036854775807
theorem zqc (x:Ex) (left:Int) (w:World) (j:zd2 x) (o:0≤left) (q:left≤1048576):
  Calls Tryz.prog 99 #[.agg #[.int .i64 x.kind,.int .i64 x.num,.string x.name,.string x.field,.int .i64 x.l,.int .i64 x.r],.int .i64 left] w fun e n=>zcG left (zcw x) e∧Below w.heap.size w n:=by
 unfold zd2 at j
 obtain⟨z,A⟩:=j
 go_enter Tryz.func99,Tryz.ntmps99
 go_wp2
 ·go_ret
  exact⟨⟨-1,rfl,by omega,by omega,fun h=>by omega⟩,(Below.refl _ _).alloc (Nat.le_refl _) _⟩
 ·go_ret
  exact⟨⟨-1,rfl,by omega,by omega,fun h=>by omega⟩,(Below.refl _ _).alloc (Nat.le_refl _) _⟩
 ·go_ret
  exact⟨⟨_,rfl,by omega,by omega,fun _=>by unfold zcw;omega⟩,(Below.refl _ _).alloc (Nat.le_refl _) _⟩
theorem zqd (a:Option Addr) (Y:Nat) (l:List Ex) (left:Int) (w:World) (Z:RowAt w a exL 6 l) (hl:l.length≤9223372036854775807) (D: ∀x∈l,zd2 x) (h0:0≤left) (h1:left≤1048576):
  Calls Tryz.prog 44 #[.slice a l.length Y,.int .i64 left] w fun e w'=>zcG left (l.length+zQ zcw l) e∧Below w.heap.size w w':=by
 have HR:=zc Z
 have HG:=zc D
 clear Z D
 by_cases ab:(l.length:Int)≤left
 case neg=>
  go_enter Tryz.func44,Tryz.ntmps44
  go_wp2
  go_ret
  exact⟨⟨-1,rfl,by omega,by omega,fun h=>by omega⟩,Below.refl _ _⟩
 go_enter Tryz.func44,Tryz.ntmps44
 go_wp2
 go_loopg [1,5] l.length (fun k s1 s5 wr=>∃(j:Nat) (z:Int),s5= .int .i64 j∧s1= .int .i64 z∧j+k=l.length∧0≤z∧z≤left∧z+((l.length+zQ zcw (l.take j):Nat):Int)=left∧Below w.heap.size w wr)
 case atStart=>exact⟨0,_,rfl,rfl,by omega,by omega,by omega,by simp[zQ],Below.refl _ _⟩
 case round=>
  obtain⟨j,z,rfl,rfl,hj,O,U,A,D⟩:=hrel
  have HZ:=zc A
  have M:=zc D
  clear A D
  by_cases X:j<l.length
  ·have H:(j:Int)<(l.length:Int):=by omega
   obtain⟨x,L⟩: ∃x,l[j]? =some x:=⟨_,List.getElem?_eq_getElem X⟩
   obtain⟨b,ad,rfl,o⟩:=(HR.out.later M.out).get L
   have n:=HG.out x (List.mem_of_getElem? L)
   have HC:=zc (zeC zcw L)
   have c0:=o 0 _ rfl
   have c1:=o 1 _ rfl
   have c2:=o 2 _ rfl
   have c3:=o 3 _ rfl
   have c4:=o 4 _ rfl
   have c5:=o 5 _ rfl
   simp only[Nat.add_zero] at c0
   clear o L
   obtain⟨N,K⟩: ∃N,N=j+1:=⟨_,rfl⟩
   have ej:(j:Int)+1=(N:Int):=by omega
   have HJ:=zc K
   clear K
   go_wp2_with fail
   refine (zqc x z _ n O (by omega)).mono ?_
   rintro e w1 ⟨⟨z1,rfl,ac,aa,I⟩,q⟩
   have J:=zc (M.out.trans (q.mono M.out.size))
   have V:=zc I
   clear q I n c0 c1 c2 c3 c4 c5
   by_cases E:0≤z1
   ·go_wp2
    go_roundg (gk-1)
    case rel=>exact⟨N,z1,rfl,rfl,by have:=HJ.out;omega,E,by omega,by have:=HZ.out;have:=V.out E;rw[HJ.out,HC.out];omega,J.out⟩
    case measure=>omega
   ·go_wp2
    go_ret
    exact⟨⟨-1,rfl,by omega,by omega,fun h=>by omega⟩,J.out⟩
  ·have H: ¬(j:Int)<(l.length:Int):=by omega
   obtain rfl:j=l.length:=by omega
   go_wp2
   go_ret
   exact⟨⟨z,rfl,by omega,U,fun _=>by have:=HZ.out;rw[List.take_length] at this;exact this⟩,M.out⟩
structure MA where
 a0:Option Addr
 a1:Option Addr
 a2:Option Addr
 a3:Option Addr
 a4:Option Addr
 c0:Nat
 c1:Nat
 c2:Nat
 c3:Nat
 c4:Nat
def zcZ (A:MA) (m:Md):Value:=.agg #[.slice A.a0 m.rq.length A.c0,.slice A.a1 m.im.length A.c1,.slice A.a2 m.ep.length A.c2,.slice A.a3 m.st.length A.c3,.slice A.a4 m.ex.length A.c4]
def ModIn (w:World) (A:MA) (m:Md):Prop:=RowAt w A.a0 (fun x=>[Value.string x]) 1 m.rq∧RowAt w A.a1 imL 3 m.im∧RowAt w A.a2 epL 4 m.ep∧RowAt w A.a3 smL 3 m.st∧RowAt w A.a4 exL 6 m.ex
theorem ModIn.later {w n:World} {A:MA} {m:Md} (h:ModIn w A m) (j:Below w.heap.size w n):ModIn n A m:=⟨h.1.later j,h.2.1.later j,h.2.2.1.later j,h.2.2.2.1.later j,h.2.2.2.2.later j⟩
def zf3 (m:Md):Prop:=(m.rq.length≤9223372036854775807∧∀x∈m.rq,zea x)∧(m.im.length≤9223372036854775807∧∀x∈m.im,zdz x)∧(m.ep.length≤9223372036854775807∧∀x∈m.ep,zd0 x)∧(m.st.length≤9223372036854775807∧∀x∈m.st,zd1 x)∧(m.ex.length≤9223372036854775807∧∀x∈m.ex,zd2 x)
theorem zqe (A:MA) (m:Md) (left:Int) (w:World) (hr:ModIn w A m) (j:zf3 m) (h0:0≤left) (h1:left≤1048576):
  Calls Tryz.prog 11 #[zcZ A m,.int .i64 left] w fun e w'=>zcG left (zcQ m) e∧Below w.heap.size w w':=by
 have HR:=zc hr
 have E:=zc j
 clear hr j
 unfold zcZ
 go_enter Tryz.func11,Tryz.ntmps11
 go_upto_region 1 with fail
 have U:Hid (Below w.heap.size w (w.alloc (.cells #[.slice A.a0 m.rq.length A.c0,.slice A.a1 m.im.length A.c1,.slice A.a2 m.ep.length A.c2,.slice A.a3 m.st.length A.c3,.slice A.a4 m.ex.length A.c4] 39))):=(Below.refl _ _).alloc (Nat.le_refl _) _
 refine zah (R:=fun W=>W.heap[w.heap.size]? =some (.cells #[.slice A.a0 m.rq.length A.c0,.slice A.a1 m.im.length A.c1,.slice A.a2 m.ep.length A.c2,.slice A.a3 m.st.length A.c3,.slice A.a4 m.ex.length A.c4] 39 (0,0))∧ModIn W A m∧Below w.heap.size w W) ⟨heap_alloc_new w _,HR.out.later U.out,U.out⟩ ?_
 obtain⟨gx,K⟩: ∃gx,gx=w.heap.size:=⟨_,rfl⟩
 rw[←K]
 rintro w0 ⟨hx,hm,j⟩
 rw[K] at j
 clear K U HR
 have V:=zc hx
 have M0:=zc hm
 have O:=zc j
 clear hx hm j
 obtain⟨q,z,H,n,o,D⟩:=zk V.out
 go_wp2_with fail
 refine (zpV A.a0 A.c0 m.rq left w0 M0.out.1 E.out.1.1 E.out.1.2 (by omega) (by omega)).mono ?_
 rintro e w1 ⟨⟨z0,rfl,y0,u0,v0⟩,j⟩
 have L:=zc (O.out.trans (j.mono O.out.size))
 have M1:=zc (M0.out.later j)
 have X:=zc ((j.block _ (Array.getElem?_eq_some_iff.1 V.out).1).trans V.out)
 have V0:=zc v0
 clear j v0 q z H n o D
 obtain⟨q,z,H,n,o,D⟩:=zk X.out
 by_cases t0:0≤z0
 case neg=>
  go_wp2
  go_ret
  exact⟨⟨-1,rfl,by omega,by omega,fun h=>by omega⟩,L.out⟩
 go_wp2_with fail
 refine (zpX A.a1 A.c1 m.im z0 w1 M1.out.2.1 E.out.2.1.1 E.out.2.1.2 (by omega) (by omega)).mono ?_
 rintro e w2 ⟨⟨z1,rfl,y1,u1,v1⟩,j⟩
 have I:=zc (L.out.trans (j.mono L.out.size))
 have M2:=zc (M1.out.later j)
 have X2:=zc ((j.block _ (Array.getElem?_eq_some_iff.1 X.out).1).trans X.out)
 have V1:=zc v1
 clear j v1 q z H n o D
 obtain⟨q,z,H,n,o,D⟩:=zk X2.out
 by_cases t1:0≤z1
 case neg=>
  go_wp2
  go_ret
  exact⟨⟨-1,rfl,by omega,by omega,fun h=>by omega⟩,I.out⟩
 go_wp2_with fail
 refine (zpZ A.a2 A.c2 m.ep z1 w2 M2.out.2.2.1 E.out.2.2.1.1 E.out.2.2.1.2 (by omega) (by omega)).mono ?_
 rintro e w3 ⟨⟨z2,rfl,y2,u2,v2⟩,j⟩
 have J:=zc (I.out.trans (j.mono I.out.size))
 have M3:=zc (M2.out.later j)
 have Z:=zc ((j.block _ (Array.getElem?_eq_some_iff.1 X2.out).1).trans X2.out)
 have V2:=zc v2
 clear j v2 q z H n o D
 obtain⟨q,z,H,n,o,D⟩:=zk Z.out
 by_cases t2:0≤z2
 case neg=>
  go_wp2
  go_ret
  exact⟨⟨-1,rfl,by omega,by omega,fun h=>by omega⟩,J.out⟩
 go_wp2_with fail
 refine (zqb A.a3 A.c3 m.st z2 w3 M3.out.2.2.2.1 E.out.2.2.2.1.1 E.out.2.2.2.1.2 (by omega) (by omega)).mono ?_
 rintro e w4 ⟨⟨z3,rfl,y3,u3,v3⟩,j⟩
 have M:=zc (J.out.trans (j.mono J.out.size))
 have M4:=zc (M3.out.later j)
 have Y:=zc ((j.block _ (Array.getElem?_eq_some_iff.1 Z.out).1).trans Z.out)
 have V3:=zc v3
 clear j v3 q z H n o D
 obtain⟨q,z,H,n,o,D⟩:=zk Y.out
 by_cases t3:0≤z3
 case neg=>
  go_wp2
  go_ret
  exact⟨⟨-1,rfl,by omega,by omega,fun h=>by omega⟩,M.out⟩
 go_wp2_with fail
 refine (zqd A.a4 A.c4 m.ex z3 w4 M4.out.2.2.2.2 E.out.2.2.2.2.1 E.out.2.2.2.2.2 (by omega) (by omega)).mono ?_
 rintro e w5 ⟨⟨z4,rfl,y4,u4,v4⟩,j⟩
 have N:=zc (M.out.trans (j.mono M.out.size))
 have M5:=zc (M4.out.later j)
 have X5:=zc ((j.block _ (Array.getElem?_eq_some_iff.1 Y.out).1).trans Y.out)
 have V4:=zc v4
 clear j v4 q z H n o D
 obtain⟨q,z,H,n,o,D⟩:=zk X5.out
 by_cases t4:0≤z4
 case neg=>
  go_wp2
  go_ret
  exact⟨⟨-1,rfl,by omega,by omega,fun h=>by omega⟩,N.out⟩
 go_wp2
 go_ret
 exact⟨⟨z4,rfl,by omega,by omega,fun _=>by have q0:=V0.out t0;have q1:=V1.out t1;have q2:=V2.out t2;have q3:=V3.out t3;have q4:=V4.out t4;unfold zcQ;omega⟩,N.out⟩
theorem Tryz.infoTStr:(Tryz.prog.info? 9).map (fun i=>(i.zero,i.size,i.bytes))=some (some (.string {data:=#[]}),1,16):=by kernel_rfl
theorem zqf (a:Option Addr) (Y:Nat) (l:List ByteArray) (w:World) (hr:RowAt w a (fun x=>[Value.string x]) 1 l) (hl:l.length≤1048576):
  Calls Tryz.prog 46 #[.slice a l.length Y] w fun e w'=>zeA w 9 1 l.length (l.flatMap (fun x=>[Value.string x])) e w':=by
 have HR:=zc hr
 clear hr
 obtain⟨i0,hi,J,K,L⟩:=info_parts Tryz.infoTStr
 go_enter Tryz.func46,Tryz.ntmps46
 go_wp2_with (first|(at_make;refine wpList_make_full w rfl _ _ 22 rfl w.heap.size 9 i0 _ 1 Tryz.underlying22 hi J K .i64 .i64 _ _ l.length (by rfl) (by rfl) rfl rfl (by rw[L];omega) (by unfold maxLen;omega) (Nat.le_refl _) ?_))
 intro I n o
 have Z:=zc ((Below.refl _ _).grown o (Nat.le_refl _) (fun k h=>by cases h):Below w.heap.size w I)
 have q:Hid (OwnC I w.heap.size 9 1 w.heap.size l.length (l.flatMap (fun x=>[Value.string x])) 0):=⟨_,n,fun j hj=>absurd hj (Nat.not_lt_zero j)⟩
 clear n o
 obtain⟨g,z⟩: ∃g,g=w.heap.size:=⟨_,rfl⟩
 have U:=zc z
 rw[←z]
 rw[←z] at q
 have N:Hid (OwnC I w.heap.size 9 1 g l.length (l.flatMap (fun x=>[Value.string x])) 0):=by rw[←z];exact q.out
 clear z q
 go_wp2
 go_loopg [4] l.length (fun k i wr=>∃j:Nat,i= .int .i64 j∧j+k=l.length∧OwnC wr w.heap.size 9 1 g l.length (l.flatMap (fun x=>[Value.string x])) (j*1)∧Below w.heap.size w wr)
 case atStart=>exact⟨0,rfl,by omega,N.out,Z.out⟩
 case round=>
  obtain⟨j,rfl,hj,ho,hb⟩:=hrel
  have E:=zc ho
  have V:=zc hb
  clear ho hb
  by_cases X:j<l.length
  ·have A:(j:Int)<(l.length:Int):=by omega
   obtain⟨x,M⟩: ∃x,l[j]? =some x:=⟨_,List.getElem?_eq_getElem X⟩
   obtain⟨b,aa,rfl,hc⟩:=(HR.out.later V.out).get M
   have HX:=zc M
   clear M
   have c0:=hc 0 _ rfl
   simp only[Nat.add_zero,Nat.mul_one] at c0
   clear hc
   obtain⟨H,D⟩: ∃H,H=j+1:=⟨_,rfl⟩
   have ej:(j:Int)+1=(H:Int):=by omega
   have HJ:=zc D
   clear D
   obtain⟨v0,g0⟩:=E.out.has (j*1) (by omega)
   have f0:=E.out.free (j*1)
   have HN:=zc (E.out.put (by omega) (zbx (f:=(fun x=>[Value.string x])) (m:=1) (fun _=>rfl) l j x 0 _ HX.out rfl))
   simp only[Nat.mul_one] at g0 f0
   have O:w.heap.size≤g:=by have:=U.out;omega
   go_wp2
   go_roundg (gk-1)
   case rel=>exact⟨H,rfl,by have:=HJ.out;omega,by have:=HN.out;simp only[Nat.mul_one] at this;rw[HJ.out,Nat.mul_one];exact this,(V.out.setCell O _)⟩
   case measure=>omega
  ·have A: ¬(j:Int)<(l.length:Int):=by omega
   obtain rfl:j=l.length:=by omega
   go_wp2
   go_ret
   exact⟨g,rfl,E.out.all (ze9 (f:=(fun x=>[Value.string x])) (fun _=>rfl) l),V.out⟩
theorem Tryz.infoTIm:(Tryz.prog.info? 100).map (fun i=>(i.zero,i.size,i.bytes))=some (some (.agg #[.string {data:=#[]},.string {data:=#[]},.string {data:=#[]}]),3,48):=by kernel_rfl
theorem zqg (x:Im) (w:World):
  Calls Tryz.prog 100 #[.agg #[.string x.spec,.string x.first,.string x.loc]] w fun e h=>e= .returned (.agg #[.string x.spec,.string x.first,.string x.loc])∧Below w.heap.size w h:=by
 go_enter Tryz.func100,Tryz.ntmps100
 go_wp2
 refine bodyPost_ret (results_cell_row rfl _ _ (w.heap.size+1) 100 #[.string x.spec,.string x.first,.string x.loc] (0,0) _ rfl ?_ Tryz.underlying100 rfl (by kernel_rfl)) rfl ?_
 ·rw[heap_alloc_old _ _ (by show _<((w.heap.push _).push _).size;simp)]
  exact heap_alloc2_new w _ _
 ·exact⟨rfl,(((Below.refl _ _).alloc (Nat.le_refl _) _).alloc (by show _≤(w.heap.push _).size;simp) _).alloc (by show _≤((w.heap.push _).push _).size;simp;omega) _⟩
theorem zqh (a:Option Addr) (ab:Nat) (l:List Im) (w:World) (hr:RowAt w a imL 3 l) (hl:l.length≤1048576):
  Calls Tryz.prog 47 #[.slice a l.length ab] w fun e w'=>zeA w 100 3 l.length (l.flatMap imL) e w':=by
 have HR:=zc hr
 clear hr
 obtain⟨i0,hi,N,O,U⟩:=info_parts Tryz.infoTIm
 go_enter Tryz.func47,Tryz.ntmps47
 go_wp2_with (first|(at_make;refine wpList_make_full w rfl _ _ 23 rfl w.heap.size 100 i0 _ 3 Tryz.underlying23 hi N O .i64 .i64 _ _ l.length (by rfl) (by rfl) rfl rfl (by rw[U];omega) (by unfold maxLen;omega) (Nat.le_refl _) ?_))
 intro M o q
 have ac:=zc ((Below.refl _ _).grown q (Nat.le_refl _) (fun k h=>by cases h):Below w.heap.size w M)
 have D:Hid (OwnC M w.heap.size 100 3 w.heap.size l.length (l.flatMap imL) 0):=⟨_,o,fun j hj=>absurd hj (Nat.not_lt_zero j)⟩
 clear o q
 obtain⟨g,E⟩: ∃g,g=w.heap.size:=⟨_,rfl⟩
 have Y:=zc E
 rw[←E]
 rw[←E] at D
 have X:Hid (OwnC M w.heap.size 100 3 g l.length (l.flatMap imL) 0):=by rw[←E];exact D.out
 clear E D
 go_wp2
 go_loopg [4] l.length (fun k i wr=>∃j:Nat,i= .int .i64 j∧j+k=l.length∧OwnC wr w.heap.size 100 3 g l.length (l.flatMap imL) (j*3)∧Below w.heap.size w wr)
 case atStart=>exact⟨0,rfl,by omega,X.out,ac.out⟩
 case round=>
  obtain⟨j,rfl,hj,ho,hb⟩:=hrel
  have HO:=zc ho
  have K:=zc hb
  clear ho hb
  by_cases Z:j<l.length
  ·have H:(j:Int)<(l.length:Int):=by omega
   obtain⟨x,V⟩: ∃x,l[j]? =some x:=⟨_,List.getElem?_eq_getElem Z⟩
   obtain⟨b,ad,rfl,J⟩:=(HR.out.later K.out).get V
   have HX:=zc V
   clear V
   have c0:=J 0 _ rfl
   have c1:=J 1 _ rfl
   have c2:=J 2 _ rfl
   simp only[Nat.add_zero] at c0
   clear J
   obtain⟨L,I⟩: ∃L,L=j+1:=⟨_,rfl⟩
   have ej:(j:Int)+1=(L:Int):=by omega
   have HJ:=zc I
   clear I
   go_wp2_with fail
   refine (zqg x _).mono ?_
   rintro e w2 ⟨rfl,A⟩
   have n:=zc (HO.out.later A)
   have aa:=zc (K.out.trans (A.mono K.out.size))
   clear A c0 c1 c2
   obtain⟨v0,g0⟩:=n.out.has (j*3) (by omega)
   have f0:=n.out.free (j*3)
   obtain⟨v1,g1⟩:=n.out.has (j*3+1) (by omega)
   have f1:=n.out.free (j*3+1)
   obtain⟨v2,g2⟩:=n.out.has (j*3+2) (by omega)
   have f2:=n.out.free (j*3+2)
   have HN:=zc (((n.out.put (by omega) (zbx (f:=imL) (m:=3) (fun _=>rfl) l j x 0 _ HX.out rfl)).put (by omega) (zbx (f:=imL) (m:=3) (fun _=>rfl) l j x 1 _ HX.out rfl)).put (by omega) (zbx (f:=imL) (m:=3) (fun _=>rfl) l j x 2 _ HX.out rfl))
   have z:w.heap.size≤g:=by have:=Y.out;omega
   go_wp2
   go_roundg (gk-1)
   case rel=>exact⟨L,rfl,by have:=HJ.out;omega,by rw[HJ.out,Nat.succ_mul];exact HN.out,(((aa.out.setCell z _).setCell z _).setCell z _)⟩
   case measure=>omega
  ·have H: ¬(j:Int)<(l.length:Int):=by omega
   obtain rfl:j=l.length:=by omega
   go_wp2
   go_ret
   exact⟨g,rfl,HO.out.all (ze9 (f:=imL) (fun _=>rfl) l),K.out⟩
theorem Tryz.infoTEp:(Tryz.prog.info? 102).map (fun i=>(i.zero,i.size,i.bytes))=some (some (.agg #[.int .i64 0,.string {data:=#[]},.string {data:=#[]},.string {data:=#[]}]),4,56):=by kernel_rfl
theorem zqi (x:Ep) (w:World):
  Calls Tryz.prog 101 #[.agg #[.int .i64 x.kind,.string x.name,.string x.loc,.string x.spec]] w fun e h=>e= .returned (.agg #[.int .i64 x.kind,.string x.name,.string x.loc,.string x.spec])∧Below w.heap.size w h:=by
 go_enter Tryz.func101,Tryz.ntmps101
 go_wp2
 refine bodyPost_ret (results_cell_row rfl _ _ (w.heap.size+1) 102 #[.int .i64 x.kind,.string x.name,.string x.loc,.string x.spec] (0,0) _ rfl ?_ Tryz.underlying102 rfl (by kernel_rfl)) rfl ?_
 ·rw[heap_alloc_old _ _ (by show _<((w.heap.push _).push _).size;simp)]
  exact heap_alloc2_new w _ _
 ·exact⟨rfl,(((Below.refl _ _).alloc (Nat.le_refl _) _).alloc (by show _≤(w.heap.push _).size;simp) _).alloc (by show _≤((w.heap.push _).push _).size;simp;omega) _⟩
theorem zqj (a:Option Addr) (ac:Nat) (l:List Ep) (w:World) (hr:RowAt w a epL 4 l) (hl:l.length≤1048576):
  Calls Tryz.prog 48 #[.slice a l.length ac] w fun e w'=>zeA w 102 4 l.length (l.flatMap epL) e w':=by
 have HR:=zc hr
 clear hr
 obtain⟨i0,hi,O,U,V⟩:=info_parts Tryz.infoTEp
 go_enter Tryz.func48,Tryz.ntmps48
 go_wp2_with (first|(at_make;refine wpList_make_full w rfl _ _ 24 rfl w.heap.size 102 i0 _ 4 Tryz.underlying24 hi O U .i64 .i64 _ _ l.length (by rfl) (by rfl) rfl rfl (by rw[V];omega) (by unfold maxLen;omega) (Nat.le_refl _) ?_))
 intro N o z
 have ad:=zc ((Below.refl _ _).grown z (Nat.le_refl _) (fun k h=>by cases h):Below w.heap.size w N)
 have D:Hid (OwnC N w.heap.size 102 4 w.heap.size l.length (l.flatMap epL) 0):=⟨_,o,fun j hj=>absurd hj (Nat.not_lt_zero j)⟩
 clear o z
 obtain⟨g,H⟩: ∃g,g=w.heap.size:=⟨_,rfl⟩
 have Z:=zc H
 rw[←H]
 rw[←H] at D
 have Y:Hid (OwnC N w.heap.size 102 4 g l.length (l.flatMap epL) 0):=by rw[←H];exact D.out
 clear H D
 go_wp2
 go_loopg [4] l.length (fun k i wr=>∃j:Nat,i= .int .i64 j∧j+k=l.length∧OwnC wr w.heap.size 102 4 g l.length (l.flatMap epL) (j*4)∧Below w.heap.size w wr)
 case atStart=>exact⟨0,rfl,by omega,Y.out,ad.out⟩
 case round=>
  obtain⟨j,rfl,hj,ho,hb⟩:=hrel
  have HO:=zc ho
  have K:=zc hb
  clear ho hb
  by_cases aa:j<l.length
  ·have I:(j:Int)<(l.length:Int):=by omega
   obtain⟨x,X⟩: ∃x,l[j]? =some x:=⟨_,List.getElem?_eq_getElem aa⟩
   obtain⟨b,ae,rfl,E⟩:=(HR.out.later K.out).get X
   have L:=zc X
   clear X
   have c0:=E 0 _ rfl
   have c1:=E 1 _ rfl
   have c2:=E 2 _ rfl
   have c3:=E 3 _ rfl
   simp only[Nat.add_zero] at c0
   clear E
   obtain⟨M,J⟩: ∃M,M=j+1:=⟨_,rfl⟩
   have ej:(j:Int)+1=(M:Int):=by omega
   have HJ:=zc J
   clear J
   go_wp2_with fail
   refine (zqi x _).mono ?_
   rintro e w2 ⟨rfl,A⟩
   have n:=zc (HO.out.later A)
   have ab:=zc (K.out.trans (A.mono K.out.size))
   clear A c0 c1 c2 c3
   obtain⟨v0,g0⟩:=n.out.has (j*4) (by omega)
   have f0:=n.out.free (j*4)
   obtain⟨v1,g1⟩:=n.out.has (j*4+1) (by omega)
   have f1:=n.out.free (j*4+1)
   obtain⟨v2,g2⟩:=n.out.has (j*4+2) (by omega)
   have f2:=n.out.free (j*4+2)
   obtain⟨v3,g3⟩:=n.out.has (j*4+3) (by omega)
   have f3:=n.out.free (j*4+3)
   have HN:=zc ((((n.out.put (by omega) (zbx (f:=epL) (m:=4) (fun _=>rfl) l j x 0 _ L.out rfl)).put (by omega) (zbx (f:=epL) (m:=4) (fun _=>rfl) l j x 1 _ L.out rfl)).put (by omega) (zbx (f:=epL) (m:=4) (fun _=>rfl) l j x 2 _ L.out rfl)).put (by omega) (zbx (f:=epL) (m:=4) (fun _=>rfl) l j x 3 _ L.out rfl))
   have q:w.heap.size≤g:=by have:=Z.out;omega
   go_wp2
   go_roundg (gk-1)
   case rel=>exact⟨M,rfl,by have:=HJ.out;omega,by rw[HJ.out,Nat.succ_mul];exact HN.out,((((ab.out.setCell q _).setCell q _).setCell q _).setCell q _)⟩
   case measure=>omega
  ·have I: ¬(j:Int)<(l.length:Int):=by omega
   obtain rfl:j=l.length:=by omega
   go_wp2
   go_ret
   exact⟨g,rfl,HO.out.all (ze9 (f:=epL) (fun _=>rfl) l),K.out⟩
theorem Tryz.infoTSm:(Tryz.prog.info? 106).map (fun i=>(i.zero,i.size,i.bytes))=some (some (.agg #[.int .i64 0,.string {data:=#[]},.int .i64 0]),3,32):=by kernel_rfl
theorem zqk (x:Sm) (w:World):
  Calls Tryz.prog 102 #[.agg #[.int .i64 x.kind,.string x.name,.int .i64 x.expr]] w fun e h=>e= .returned (.agg #[.int .i64 x.kind,.string x.name,.int .i64 x.expr])∧Below w.heap.size w h:=by
 go_enter Tryz.func102,Tryz.ntmps102
 go_wp2
 refine bodyPost_ret (results_cell_row rfl _ _ (w.heap.size+1) 106 #[.int .i64 x.kind,.string x.name,.int .i64 x.expr] (0,0) _ rfl ?_ Tryz.underlying106 rfl (by kernel_rfl)) rfl ?_
 ·rw[heap_alloc_old _ _ (by show _<((w.heap.push _).push _).size;simp)]
  exact heap_alloc2_new w _ _
 ·exact⟨rfl,(((Below.refl _ _).alloc (Nat.le_refl _) _).alloc (by show _≤(w.heap.push _).size;simp) _).alloc (by show _≤((w.heap.push _).push _).size;simp;omega) _⟩
theorem zql (a:Option Addr) (ab:Nat) (l:List Sm) (w:World) (hr:RowAt w a smL 3 l) (hl:l.length≤1048576):
  Calls Tryz.prog 49 #[.slice a l.length ab] w fun e w'=>zeA w 106 3 l.length (l.flatMap smL) e w':=by
 have HR:=zc hr
 clear hr
 obtain⟨i0,hi,N,O,U⟩:=info_parts Tryz.infoTSm
 go_enter Tryz.func49,Tryz.ntmps49
 go_wp2_with (first|(at_make;refine wpList_make_full w rfl _ _ 25 rfl w.heap.size 106 i0 _ 3 Tryz.underlying25 hi N O .i64 .i64 _ _ l.length (by rfl) (by rfl) rfl rfl (by rw[U];omega) (by unfold maxLen;omega) (Nat.le_refl _) ?_))
 intro M o q
 have ac:=zc ((Below.refl _ _).grown q (Nat.le_refl _) (fun k h=>by cases h):Below w.heap.size w M)
 have D:Hid (OwnC M w.heap.size 106 3 w.heap.size l.length (l.flatMap smL) 0):=⟨_,o,fun j hj=>absurd hj (Nat.not_lt_zero j)⟩
 clear o q
 obtain⟨g,E⟩: ∃g,g=w.heap.size:=⟨_,rfl⟩
 have Y:=zc E
 rw[←E]
 rw[←E] at D
 have X:Hid (OwnC M w.heap.size 106 3 g l.length (l.flatMap smL) 0):=by rw[←E];exact D.out
 clear E D
 go_wp2
 go_loopg [4] l.length (fun k i wr=>∃j:Nat,i= .int .i64 j∧j+k=l.length∧OwnC wr w.heap.size 106 3 g l.length (l.flatMap smL) (j*3)∧Below w.heap.size w wr)
 case atStart=>exact⟨0,rfl,by omega,X.out,ac.out⟩
 case round=>
  obtain⟨j,rfl,hj,ho,hb⟩:=hrel
  have HO:=zc ho
  have K:=zc hb
  clear ho hb
  by_cases Z:j<l.length
  ·have H:(j:Int)<(l.length:Int):=by omega
   obtain⟨x,V⟩: ∃x,l[j]? =some x:=⟨_,List.getElem?_eq_getElem Z⟩
   obtain⟨b,ad,rfl,J⟩:=(HR.out.later K.out).get V
   have HX:=zc V
   clear V
   have c0:=J 0 _ rfl
   have c1:=J 1 _ rfl
   have c2:=J 2 _ rfl
   simp only[Nat.add_zero] at c0
   clear J
   obtain⟨L,I⟩: ∃L,L=j+1:=⟨_,rfl⟩
   have ej:(j:Int)+1=(L:Int):=by omega
   have HJ:=zc I
   clear I
   go_wp2_with fail
   refine (zqk x _).mono ?_
   rintro e w2 ⟨rfl,A⟩
   have n:=zc (HO.out.later A)
   have aa:=zc (K.out.trans (A.mono K.out.size))
   clear A c0 c1 c2
   obtain⟨v0,g0⟩:=n.out.has (j*3) (by omega)
   have f0:=n.out.free (j*3)
   obtain⟨v1,g1⟩:=n.out.has (j*3+1) (by omega)
   have f1:=n.out.free (j*3+1)
   obtain⟨v2,g2⟩:=n.out.has (j*3+2) (by omega)
   have f2:=n.out.free (j*3+2)
   have HN:=zc (((n.out.put (by omega) (zbx (f:=smL) (m:=3) (fun _=>rfl) l j x 0 _ HX.out rfl)).put (by omega) (zbx (f:=smL) (m:=3) (fun _=>rfl) l j x 1 _ HX.out rfl)).put (by omega) (zbx (f:=smL) (m:=3) (fun _=>rfl) l j x 2 _ HX.out rfl))
   have z:w.heap.size≤g:=by have:=Y.out;omega
   go_wp2
   go_roundg (gk-1)
   case rel=>exact⟨L,rfl,by have:=HJ.out;omega,by rw[HJ.out,Nat.succ_mul];exact HN.out,(((aa.out.setCell z _).setCell z _).setCell z _)⟩
   case measure=>omega
  ·have H: ¬(j:Int)<(l.length:Int):=by omega
   obtain rfl:j=l.length:=by omega
   go_wp2
   go_ret
   exact⟨g,rfl,HO.out.all (ze9 (f:=smL) (fun _=>rfl) l),K.out⟩
theorem Tryz.infoTEx:(Tryz.prog.info? 108).map (fun i=>(i.zero,i.size,i.bytes))=some (some (.agg #[.int .i64 0,.int .i64 0,.string {data:=#[]},.string {data:=#[]},.int .i64 0,.int .i64 0]),6,64):=by kernel_rfl
theorem zqm (x:Ex) (w:World):
  Calls Tryz.prog 103 #[.agg #[.int .i64 x.kind,.int .i64 x.num,.string x.name,.string x.field,.int .i64 x.l,.int .i64 x.r]] w fun e h=>e= .returned (.agg #[.int .i64 x.kind,.int .i64 x.num,.string x.name,.string x.field,.int .i64 x.l,.int .i64 x.r])∧Below w.heap.size w h:=by
 go_enter Tryz.func103,Tryz.ntmps103
 go_wp2
 refine bodyPost_ret (results_cell_row rfl _ _ (w.heap.size+1) 108 #[.int .i64 x.kind,.int .i64 x.num,.string x.name,.string x.field,.int .i64 x.l,.int .i64 x.r] (0,0) _ rfl ?_ Tryz.underlying108 rfl (by kernel_rfl)) rfl ?_
 ·rw[heap_alloc_old _ _ (by show _<((w.heap.push _).push _).size;simp)]
  exact heap_alloc2_new w _ _
 ·exact⟨rfl,(((Below.refl _ _).alloc (Nat.le_refl _) _).alloc (by show _≤(w.heap.push _).size;simp) _).alloc (by show _≤((w.heap.push _).push _).size;simp;omega) _⟩
theorem zqn (a:Option Addr) (ac:Nat) (l:List Ex) (w:World) (hr:RowAt w a exL 6 l) (hl:l.length≤1048576):
  Calls Tryz.prog 50 #[.slice a l.length ac] w fun e w'=>zeA w 108 6 l.length (l.flatMap exL) e w':=by
 have HR:=zc hr
 clear hr
 obtain⟨i0,hi,O,U,V⟩:=info_parts Tryz.infoTEx
 go_enter Tryz.func50,Tryz.ntmps50
 go_wp2_with (first|(at_make;refine wpList_make_full w rfl _ _ 26 rfl w.heap.size 108 i0 _ 6 Tryz.underlying26 hi O U .i64 .i64 _ _ l.length (by rfl) (by rfl) rfl rfl (by rw[V];omega) (by unfold maxLen;omega) (Nat.le_refl _) ?_))
 intro N q z
 have ad:=zc ((Below.refl _ _).grown z (Nat.le_refl _) (fun k h=>by cases h):Below w.heap.size w N)
 have E:Hid (OwnC N w.heap.size 108 6 w.heap.size l.length (l.flatMap exL) 0):=⟨_,q,fun j hj=>absurd hj (Nat.not_lt_zero j)⟩
 clear q z
 obtain⟨g,I⟩: ∃g,g=w.heap.size:=⟨_,rfl⟩
 have Z:=zc I
 rw[←I]
 rw[←I] at E
 have Y:Hid (OwnC N w.heap.size 108 6 g l.length (l.flatMap exL) 0):=by rw[←I];exact E.out
 clear I E
 go_wp2
 go_loopg [4] l.length (fun k i wr=>∃j:Nat,i= .int .i64 j∧j+k=l.length∧OwnC wr w.heap.size 108 6 g l.length (l.flatMap exL) (j*6)∧Below w.heap.size w wr)
 case atStart=>exact⟨0,rfl,by omega,Y.out,ad.out⟩
 case round=>
  obtain⟨j,rfl,hj,ho,hb⟩:=hrel
  have HO:=zc ho
  have L:=zc hb
  clear ho hb
  by_cases aa:j<l.length
  ·have J:(j:Int)<(l.length:Int):=by omega
   obtain⟨x,X⟩: ∃x,l[j]? =some x:=⟨_,List.getElem?_eq_getElem aa⟩
   obtain⟨b,ae,rfl,A⟩:=(HR.out.later L.out).get X
   have H:=zc X
   clear X
   have c0:=A 0 _ rfl
   have c1:=A 1 _ rfl
   have c2:=A 2 _ rfl
   have c3:=A 3 _ rfl
   have c4:=A 4 _ rfl
   have c5:=A 5 _ rfl
   simp only[Nat.add_zero] at c0
   clear A
   obtain⟨M,K⟩: ∃M,M=j+1:=⟨_,rfl⟩
   have ej:(j:Int)+1=(M:Int):=by omega
   have HJ:=zc K
   clear K
   go_wp2_with fail
   refine (zqm x _).mono ?_
   rintro e w2 ⟨rfl,D⟩
   have n:=zc (HO.out.later D)
   have ab:=zc (L.out.trans (D.mono L.out.size))
   clear D c0 c1 c2 c3 c4 c5
   obtain⟨v0,g0⟩:=n.out.has (j*6) (by omega)
   have f0:=n.out.free (j*6)
   obtain⟨v1,g1⟩:=n.out.has (j*6+1) (by omega)
   have f1:=n.out.free (j*6+1)
   obtain⟨v2,g2⟩:=n.out.has (j*6+2) (by omega)
   have f2:=n.out.free (j*6+2)
   obtain⟨v3,g3⟩:=n.out.has (j*6+3) (by omega)
   have f3:=n.out.free (j*6+3)
   obtain⟨v4,g4⟩:=n.out.has (j*6+4) (by omega)
   have f4:=n.out.free (j*6+4)
   obtain⟨v5,g5⟩:=n.out.has (j*6+5) (by omega)
   have f5:=n.out.free (j*6+5)
   have HN:=zc ((((((n.out.put (by omega) (zbx (f:=exL) (m:=6) (fun _=>rfl) l j x 0 _ H.out rfl)).put (by omega) (zbx (f:=exL) (m:=6) (fun _=>rfl) l j x 1 _ H.out rfl)).put (by omega) (zbx (f:=exL) (m:=6) (fun _=>rfl) l j x 2 _ H.out rfl)).put (by omega) (zbx (f:=exL) (m:=6) (fun _=>rfl) l j x 3 _ H.out rfl)).put (by omega) (zbx (f:=exL) (m:=6) (fun _=>rfl) l j x 4 _ H.out rfl)).put (by omega) (zbx (f:=exL) (m:=6) (fun _=>rfl) l j x 5 _ H.out rfl))
   have o:w.heap.size≤g:=by have:=Z.out;omega
   go_wp2
   go_roundg (gk-1)
   case rel=>exact⟨M,rfl,by have:=HJ.out;omega,by rw[HJ.out,Nat.succ_mul];exact HN.out,((((((ab.out.setCell o _).setCell o _).setCell o _).setCell o _).setCell o _).setCell o _)⟩
   case measure=>omega
  ·have J: ¬(j:Int)<(l.length:Int):=by omega
   obtain rfl:j=l.length:=by omega
   go_wp2
   go_ret
   exact⟨g,rfl,HO.out.all (ze9 (f:=exL) (fun _=>rfl) l),L.out⟩
theorem zqo (l:List ByteArray):l.map Value.string=l.flatMap (fun x=>[Value.string x]):=by
 induction l with
 |nil=>rfl
 |cons x l h=>rw[List.map_cons,List.flatMap_cons,h];rfl
def zqp (w:World) (m:Md) (e:Ending) (w':World):Prop:=∃S,e= .returned (zt S m)∧OwnMd w' w.heap.size S m∧Below w.heap.size w w'
theorem zba {w:World} {j size n c i:Nat} {e:TypeId} {r:Rw} {xs:List Value} {u:Value} {A:Array Value} (h:OwnR w j e size r n xs) (z:w.heap[c]? =some (.cells A 28 (0,0))) (D:e≠28):OwnR (w.setCell ⟨c,i,none⟩ u) j e size r n xs:=
 h.keep fun k g=>heap_setCell_other w ⟨c,i,none⟩ k u fun q=>by
  obtain⟨_,_,E,o⟩:=h.typed g
  simp only at q
  rw[q,z] at o
  simp only[Option.some.injEq,Obj.cells.injEq] at o
  exact D o.2.1.symm
abbrev zqq (w:World) (b:Nat) (x0 x1 x2 x3 x4:Value):World:=((((w.setCell ⟨b,0,none⟩ x0).setCell ⟨b,1,none⟩ x1).setCell ⟨b,2,none⟩ x2).setCell ⟨b,3,none⟩ x3).setCell ⟨b,4,none⟩ x4
theorem zeD {w:World} {j size n c:Nat} {e:TypeId} {r:Rw} {xs:List Value} {U K V M L q z J D N:Value} (h:OwnR w j e size r n xs) (A:w.heap[c]? =some (.cells #[U,K,V,M,L] 28 (0,0))) (o:e≠28):OwnR (zqq w c q z J D N) j e size r n xs:=by
 have E:=zas (i:=0) (u:=q) A
 have H:=zas (i:=1) (u:=z) E
 have I:=zas (i:=2) (u:=J) H
 have O:=zas (i:=3) (u:=D) I
 exact zba (zba (zba (zba (zba h A o) E o) H o) I o) O o
theorem zg5 (A:MA) (m:Md) (w:World) (hr:ModIn w A m) (f1:m.rq.length≤1048576) (f2:m.im.length≤1048576) (f3:m.ep.length≤1048576) (f4:m.st.length≤1048576) (f5:m.ex.length≤1048576):
  Calls Tryz.prog 13 #[zcZ A m] w fun e w'=>zqp w m e w':=by
 have HR:=zc hr
 clear hr
 unfold zcZ
 go_enter Tryz.func13,Tryz.ntmps13
 go_upto_region 2 with fail
 obtain⟨n,ab⟩: ∃n,n=w.heap.size:=⟨_,rfl⟩
 rw[←ab]
 refine zah (R:=(fun W=>W.heap[n]? =some (.cells #[.slice A.a0 m.rq.length A.c0,.slice A.a1 m.im.length A.c1,.slice A.a2 m.ep.length A.c2,.slice A.a3 m.st.length A.c3,.slice A.a4 m.ex.length A.c4] 39 (0,0))∧W.heap[n+1]? =some (.cells #[.slice none 0 0,.slice none 0 0,.slice none 0 0,.slice none 0 0,.slice none 0 0] 28 (0,0))∧W.heap[n+2]? =some (.cells #[.slice none 0 0,.slice none 0 0,.slice none 0 0,.slice none 0 0,.slice none 0 0] 28 (0,0))∧Below w.heap.size w W)) ?_ ?_
 ·rw[ab]
  refine⟨?_,?_,?_,?_⟩
  ·rw[heap_alloc_old _ _ (by show _<((w.heap.push _).push _).size;simp;omega),heap_alloc_old _ _ (by show _<(w.heap.push _).size;simp)]
   exact heap_alloc_new w _
  ·rw[heap_alloc_old _ _ (by show _<((w.heap.push _).push _).size;simp)]
   exact heap_alloc2_new w _ _
  ·have:=heap_alloc_new ((w.alloc (.cells #[.slice A.a0 m.rq.length A.c0,.slice A.a1 m.im.length A.c1,.slice A.a2 m.ep.length A.c2,.slice A.a3 m.st.length A.c3,.slice A.a4 m.ex.length A.c4] 39)).alloc (.cells #[.slice none 0 0,.slice none 0 0,.slice none 0 0,.slice none 0 0,.slice none 0 0] 28)) (.cells #[.slice none 0 0,.slice none 0 0,.slice none 0 0,.slice none 0 0,.slice none 0 0] 28)
   simp only[zj] at this
   exact this
  ·exact (((Below.refl _ _).alloc (Nat.le_refl _) _).alloc (by show _≤(w.heap.push _).size;simp) _).alloc (by show _≤((w.heap.push _).push _).size;simp;omega) _
 have aa:w.heap.size≤n+2:=by omega
 have L:w.heap.size≤n+1:=by omega
 clear ab
 rintro W0 ⟨U,N,M,h⟩
 have X:=zc U
 have Y:=zc N
 have Z:=zc M
 have q:=zc h
 clear U N M h
 obtain⟨K,E,I,H,D,J⟩:=zk X.out
 go_wp2_with fail
 refine (zqf A.a0 A.c0 m.rq W0 (HR.out.later q.out).1 f1).mono ?_
 rintro e V0 ⟨g0,rfl,j,h⟩
 have X2:=zc ((h.block _ (Array.getElem?_eq_some_iff.1 X.out).1).trans X.out)
 have Y2:=zc ((h.block _ (Array.getElem?_eq_some_iff.1 Y.out).1).trans Y.out)
 have o:=zc ((h.block _ (Array.getElem?_eq_some_iff.1 Z.out).1).trans Z.out)
 have z:=zc (q.out.trans (h.mono q.out.size))
 have P0:=zc (j.low q.out.size)
 clear j h K E I H D J X Y Z q
 obtain⟨K,E,I,H,D,J⟩:=zk o.out
 go_upto_region 3 with fail
 refine zah (R:=(fun W=>W.heap[n]? =some (.cells #[.slice A.a0 m.rq.length A.c0,.slice A.a1 m.im.length A.c1,.slice A.a2 m.ep.length A.c2,.slice A.a3 m.st.length A.c3,.slice A.a4 m.ex.length A.c4] 39 (0,0))∧W.heap[n+1]? =some (.cells #[.slice none 0 0,.slice none 0 0,.slice none 0 0,.slice none 0 0,.slice none 0 0] 28 (0,0))∧W.heap[n+2]? =some (.cells #[.slice (some ⟨g0,0,none⟩) m.rq.length m.rq.length,.slice none 0 0,.slice none 0 0,.slice none 0 0,.slice none 0 0] 28 (0,0))∧Below w.heap.size w W∧OwnR W w.heap.size 9 1 ⟨some ⟨g0,0,none⟩,m.rq.length⟩ m.rq.length (m.rq.flatMap (fun x=>[Value.string x])))) ⟨(heap_setCell_other _ _ _ _ (by show n≠n+2;omega)).trans X2.out,(heap_setCell_other _ _ _ _ (by show n+1≠n+2;omega)).trans Y2.out,(zas o.out).trans (by simp),z.out.setCell aa _,zba P0.out o.out (by decide)⟩ ?_
 clear X2 Y2 o z K E I H D J P0
 rintro W1 ⟨U,N,M,h,V⟩
 have X:=zc U
 have Y:=zc N
 have Z:=zc M
 have q:=zc h
 have O:=zc V
 clear U N M h V
 obtain⟨K,E,I,H,D,J⟩:=zk X.out
 go_wp2_with fail
 refine (zqh A.a1 A.c1 m.im W1 (HR.out.later q.out).2.1 f2).mono ?_
 rintro e V1 ⟨g1,rfl,j,h⟩
 have X2:=zc ((h.block _ (Array.getElem?_eq_some_iff.1 X.out).1).trans X.out)
 have Y2:=zc ((h.block _ (Array.getElem?_eq_some_iff.1 Y.out).1).trans Y.out)
 have o:=zc ((h.block _ (Array.getElem?_eq_some_iff.1 Z.out).1).trans Z.out)
 have z:=zc (q.out.trans (h.mono q.out.size))
 have P0:=zc (O.out.keep fun k g=>h.block k (O.out.typed g).2.1)
 have P1:=zc (j.low q.out.size)
 clear j h K E I H D J X Y Z q O
 obtain⟨K,E,I,H,D,J⟩:=zk o.out
 go_upto_region 4 with fail
 refine zah (R:=(fun W=>W.heap[n]? =some (.cells #[.slice A.a0 m.rq.length A.c0,.slice A.a1 m.im.length A.c1,.slice A.a2 m.ep.length A.c2,.slice A.a3 m.st.length A.c3,.slice A.a4 m.ex.length A.c4] 39 (0,0))∧W.heap[n+1]? =some (.cells #[.slice none 0 0,.slice none 0 0,.slice none 0 0,.slice none 0 0,.slice none 0 0] 28 (0,0))∧W.heap[n+2]? =some (.cells #[.slice (some ⟨g0,0,none⟩) m.rq.length m.rq.length,.slice (some ⟨g1,0,none⟩) m.im.length m.im.length,.slice none 0 0,.slice none 0 0,.slice none 0 0] 28 (0,0))∧Below w.heap.size w W∧OwnR W w.heap.size 9 1 ⟨some ⟨g0,0,none⟩,m.rq.length⟩ m.rq.length (m.rq.flatMap (fun x=>[Value.string x]))∧OwnR W w.heap.size 100 3 ⟨some ⟨g1,0,none⟩,m.im.length⟩ m.im.length (m.im.flatMap imL))) ⟨(heap_setCell_other _ _ _ _ (by show n≠n+2;omega)).trans X2.out,(heap_setCell_other _ _ _ _ (by show n+1≠n+2;omega)).trans Y2.out,(zas o.out).trans (by simp),z.out.setCell aa _,zba P0.out o.out (by decide),zba P1.out o.out (by decide)⟩ ?_
 clear X2 Y2 o z K E I H D J P0 P1
 rintro W2 ⟨U,N,M,h,V,o1⟩
 have X:=zc U
 have Y:=zc N
 have Z:=zc M
 have q:=zc h
 have O:=zc V
 have O1:=zc o1
 clear U N M h V o1
 obtain⟨K,E,I,H,D,J⟩:=zk X.out
 go_wp2_with fail
 refine (zqj A.a2 A.c2 m.ep W2 (HR.out.later q.out).2.2.1 f3).mono ?_
 rintro e V2 ⟨g2,rfl,j,h⟩
 have X2:=zc ((h.block _ (Array.getElem?_eq_some_iff.1 X.out).1).trans X.out)
 have Y2:=zc ((h.block _ (Array.getElem?_eq_some_iff.1 Y.out).1).trans Y.out)
 have o:=zc ((h.block _ (Array.getElem?_eq_some_iff.1 Z.out).1).trans Z.out)
 have z:=zc (q.out.trans (h.mono q.out.size))
 have P0:=zc (O.out.keep fun k g=>h.block k (O.out.typed g).2.1)
 have P1:=zc (O1.out.keep fun k g=>h.block k (O1.out.typed g).2.1)
 have P2:=zc (j.low q.out.size)
 clear j h K E I H D J X Y Z q O O1
 obtain⟨K,E,I,H,D,J⟩:=zk o.out
 go_upto_region 5 with fail
 refine zah (R:=(fun W=>W.heap[n]? =some (.cells #[.slice A.a0 m.rq.length A.c0,.slice A.a1 m.im.length A.c1,.slice A.a2 m.ep.length A.c2,.slice A.a3 m.st.length A.c3,.slice A.a4 m.ex.length A.c4] 39 (0,0))∧W.heap[n+1]? =some (.cells #[.slice none 0 0,.slice none 0 0,.slice none 0 0,.slice none 0 0,.slice none 0 0] 28 (0,0))∧W.heap[n+2]? =some (.cells #[.slice (some ⟨g0,0,none⟩) m.rq.length m.rq.length,.slice (some ⟨g1,0,none⟩) m.im.length m.im.length,.slice (some ⟨g2,0,none⟩) m.ep.length m.ep.length,.slice none 0 0,.slice none 0 0] 28 (0,0))∧Below w.heap.size w W∧OwnR W w.heap.size 9 1 ⟨some ⟨g0,0,none⟩,m.rq.length⟩ m.rq.length (m.rq.flatMap (fun x=>[Value.string x]))∧OwnR W w.heap.size 100 3 ⟨some ⟨g1,0,none⟩,m.im.length⟩ m.im.length (m.im.flatMap imL)∧OwnR W w.heap.size 102 4 ⟨some ⟨g2,0,none⟩,m.ep.length⟩ m.ep.length (m.ep.flatMap epL))) ⟨(heap_setCell_other _ _ _ _ (by show n≠n+2;omega)).trans X2.out,(heap_setCell_other _ _ _ _ (by show n+1≠n+2;omega)).trans Y2.out,(zas o.out).trans (by simp),z.out.setCell aa _,zba P0.out o.out (by decide),zba P1.out o.out (by decide),zba P2.out o.out (by decide)⟩ ?_
 clear X2 Y2 o z K E I H D J P0 P1 P2
 rintro W3 ⟨U,N,M,h,V,o1,o2⟩
 have X:=zc U
 have Y:=zc N
 have Z:=zc M
 have q:=zc h
 have O:=zc V
 have O1:=zc o1
 have O2:=zc o2
 clear U N M h V o1 o2
 obtain⟨K,E,I,H,D,J⟩:=zk X.out
 go_wp2_with fail
 refine (zql A.a3 A.c3 m.st W3 (HR.out.later q.out).2.2.2.1 f4).mono ?_
 rintro e V3 ⟨g3,rfl,j,h⟩
 have X2:=zc ((h.block _ (Array.getElem?_eq_some_iff.1 X.out).1).trans X.out)
 have Y2:=zc ((h.block _ (Array.getElem?_eq_some_iff.1 Y.out).1).trans Y.out)
 have o:=zc ((h.block _ (Array.getElem?_eq_some_iff.1 Z.out).1).trans Z.out)
 have z:=zc (q.out.trans (h.mono q.out.size))
 have P0:=zc (O.out.keep fun k g=>h.block k (O.out.typed g).2.1)
 have P1:=zc (O1.out.keep fun k g=>h.block k (O1.out.typed g).2.1)
 have P2:=zc (O2.out.keep fun k g=>h.block k (O2.out.typed g).2.1)
 have P3:=zc (j.low q.out.size)
 clear j h K E I H D J X Y Z q O O1 O2
 obtain⟨K,E,I,H,D,J⟩:=zk o.out
 go_upto_region 6 with fail
 refine zah (R:=(fun W=>W.heap[n]? =some (.cells #[.slice A.a0 m.rq.length A.c0,.slice A.a1 m.im.length A.c1,.slice A.a2 m.ep.length A.c2,.slice A.a3 m.st.length A.c3,.slice A.a4 m.ex.length A.c4] 39 (0,0))∧W.heap[n+1]? =some (.cells #[.slice none 0 0,.slice none 0 0,.slice none 0 0,.slice none 0 0,.slice none 0 0] 28 (0,0))∧W.heap[n+2]? =some (.cells #[.slice (some ⟨g0,0,none⟩) m.rq.length m.rq.length,.slice (some ⟨g1,0,none⟩) m.im.length m.im.length,.slice (some ⟨g2,0,none⟩) m.ep.length m.ep.length,.slice (some ⟨g3,0,none⟩) m.st.length m.st.length,.slice none 0 0] 28 (0,0))∧Below w.heap.size w W∧OwnR W w.heap.size 9 1 ⟨some ⟨g0,0,none⟩,m.rq.length⟩ m.rq.length (m.rq.flatMap (fun x=>[Value.string x]))∧OwnR W w.heap.size 100 3 ⟨some ⟨g1,0,none⟩,m.im.length⟩ m.im.length (m.im.flatMap imL)∧OwnR W w.heap.size 102 4 ⟨some ⟨g2,0,none⟩,m.ep.length⟩ m.ep.length (m.ep.flatMap epL)∧OwnR W w.heap.size 106 3 ⟨some ⟨g3,0,none⟩,m.st.length⟩ m.st.length (m.st.flatMap smL))) ⟨(heap_setCell_other _ _ _ _ (by show n≠n+2;omega)).trans X2.out,(heap_setCell_other _ _ _ _ (by show n+1≠n+2;omega)).trans Y2.out,(zas o.out).trans (by simp),z.out.setCell aa _,zba P0.out o.out (by decide),zba P1.out o.out (by decide),zba P2.out o.out (by decide),zba P3.out o.out (by decide)⟩ ?_
 clear X2 Y2 o z K E I H D J P0 P1 P2 P3
 rintro W4 ⟨U,N,M,h,V,o1,o2,o3⟩
 have X:=zc U
 have Y:=zc N
 have Z:=zc M
 have q:=zc h
 have O:=zc V
 have O1:=zc o1
 have O2:=zc o2
 have O3:=zc o3
 clear U N M h V o1 o2 o3
 obtain⟨K,E,I,H,D,J⟩:=zk X.out
 go_wp2_with fail
 refine (zqn A.a4 A.c4 m.ex W4 (HR.out.later q.out).2.2.2.2 f5).mono ?_
 rintro e V4 ⟨g4,rfl,j,h⟩
 have X2:=zc ((h.block _ (Array.getElem?_eq_some_iff.1 X.out).1).trans X.out)
 have Y2:=zc ((h.block _ (Array.getElem?_eq_some_iff.1 Y.out).1).trans Y.out)
 have o:=zc ((h.block _ (Array.getElem?_eq_some_iff.1 Z.out).1).trans Z.out)
 have z:=zc (q.out.trans (h.mono q.out.size))
 have P0:=zc (O.out.keep fun k g=>h.block k (O.out.typed g).2.1)
 have P1:=zc (O1.out.keep fun k g=>h.block k (O1.out.typed g).2.1)
 have P2:=zc (O2.out.keep fun k g=>h.block k (O2.out.typed g).2.1)
 have P3:=zc (O3.out.keep fun k g=>h.block k (O3.out.typed g).2.1)
 have P4:=zc (j.low q.out.size)
 clear j h K E I H D J X Y Z q O O1 O2 O3
 obtain⟨K,E,I,H,D,J⟩:=zk o.out
 go_upto_region 7 with fail
 refine zah (R:=(fun W=>W.heap[n]? =some (.cells #[.slice A.a0 m.rq.length A.c0,.slice A.a1 m.im.length A.c1,.slice A.a2 m.ep.length A.c2,.slice A.a3 m.st.length A.c3,.slice A.a4 m.ex.length A.c4] 39 (0,0))∧W.heap[n+1]? =some (.cells #[.slice none 0 0,.slice none 0 0,.slice none 0 0,.slice none 0 0,.slice none 0 0] 28 (0,0))∧W.heap[n+2]? =some (.cells #[.slice (some ⟨g0,0,none⟩) m.rq.length m.rq.length,.slice (some ⟨g1,0,none⟩) m.im.length m.im.length,.slice (some ⟨g2,0,none⟩) m.ep.length m.ep.length,.slice (some ⟨g3,0,none⟩) m.st.length m.st.length,.slice (some ⟨g4,0,none⟩) m.ex.length m.ex.length] 28 (0,0))∧Below w.heap.size w W∧OwnR W w.heap.size 9 1 ⟨some ⟨g0,0,none⟩,m.rq.length⟩ m.rq.length (m.rq.flatMap (fun x=>[Value.string x]))∧OwnR W w.heap.size 100 3 ⟨some ⟨g1,0,none⟩,m.im.length⟩ m.im.length (m.im.flatMap imL)∧OwnR W w.heap.size 102 4 ⟨some ⟨g2,0,none⟩,m.ep.length⟩ m.ep.length (m.ep.flatMap epL)∧OwnR W w.heap.size 106 3 ⟨some ⟨g3,0,none⟩,m.st.length⟩ m.st.length (m.st.flatMap smL)∧OwnR W w.heap.size 108 6 ⟨some ⟨g4,0,none⟩,m.ex.length⟩ m.ex.length (m.ex.flatMap exL))) ⟨(heap_setCell_other _ _ _ _ (by show n≠n+2;omega)).trans X2.out,(heap_setCell_other _ _ _ _ (by show n+1≠n+2;omega)).trans Y2.out,(zas o.out).trans (by simp),z.out.setCell aa _,zba P0.out o.out (by decide),zba P1.out o.out (by decide),zba P2.out o.out (by decide),zba P3.out o.out (by decide),zba P4.out o.out (by decide)⟩ ?_
 clear X2 Y2 o z K E I H D J P0 P1 P2 P3 P4
 rintro W5 ⟨U,N,M,h,V,o1,o2,o3,o4⟩
 have Y:=zc N
 have Z:=zc M
 have q:=zc h
 have O:=zc V
 have O1:=zc o1
 have O2:=zc o2
 have O3:=zc o3
 have O4:=zc o4
 clear U N M h V o1 o2 o3 o4
 obtain⟨K,E,I,H,D,J⟩:=zk Z.out
 obtain⟨d0,d1,d2,d3,d4,df⟩:=zk Y.out
 go_wp2
 refine bodyPost_ret (results_cell_row rfl _ _ (n+1) 28 #[.slice (some ⟨g0,0,none⟩) m.rq.length m.rq.length,.slice (some ⟨g1,0,none⟩) m.im.length m.im.length,.slice (some ⟨g2,0,none⟩) m.ep.length m.ep.length,.slice (some ⟨g3,0,none⟩) m.st.length m.st.length,.slice (some ⟨g4,0,none⟩) m.ex.length m.ex.length] (0,0) _ rfl ?_ Tryz.underlying28 rfl (by kernel_rfl)) rfl ?_
 ·exact zcU Y.out
 ·refine⟨⟨⟨some ⟨g0,0,none⟩,m.rq.length⟩,⟨some ⟨g1,0,none⟩,m.im.length⟩,⟨some ⟨g2,0,none⟩,m.ep.length⟩,⟨some ⟨g3,0,none⟩,m.st.length⟩,⟨some ⟨g4,0,none⟩,m.ex.length⟩,⟨none,0⟩⟩,rfl,⟨?_,?_,?_,?_,?_⟩,((((q.out.setCell L _).setCell L _).setCell L _).setCell L _).setCell L _⟩
  ·rw[zqo]
   exact zeD O.out Y.out (by decide)
  ·exact zeD O1.out Y.out (by decide)
  ·exact zeD O2.out Y.out (by decide)
  ·exact zeD O3.out Y.out (by decide)
  ·exact zeD O4.out Y.out (by decide)
end Go.Proofs.YticdggnnpjachaaGreat
